/- What the program's window says is what the reference says. -/
import Derived.Test.YtehemjcpdblonaaFits
import Derived.Test.YtehemjcpdblonaaPlcS
set_option linter.unusedVariables false
namespace Go.Proofs.Ytehemjcpdblonaa
open Go.RowKit
theorem fitsB_iff (n m p : Nat) (f g u v : Nat → Int) (r k : Nat) :
    fitsB n m p f g u v r k = true ↔ (k + m ≤ r ∧ ∀ i, i < m → v (k + i) = g i) ∧ (n ≤ k ∧ k ≤ r ∧ ∀ i, i < n → v (k - n + i) = f i) ∧ (k + m + p ≤ r ∧ ∀ i, i < p → v (k + m + i) = u i) := by
  unfold fitsB
  rw [Bool.and_eq_true, Bool.and_eq_true]
  refine and_congr ?_ (and_congr ?_ ?_)
  · by_cases h : k + m ≤ r
    · rw [thereB_in h, rowEqB_iff]
      exact ⟨fun q => ⟨h, q.2⟩, fun q => ⟨rfl, q.2⟩⟩
    · rw [thereB_far (by omega)]
      exact ⟨fun q => (by cases q), fun q => absurd q.1 h⟩
  · by_cases h0 : n ≤ k
    · rw [show ((k : Int) - (n : Int)) = ((k - n : Nat) : Int) by omega]
      by_cases h : k ≤ r
      · rw [thereB_in (by omega), rowEqB_iff]
        exact ⟨fun q => ⟨h0, h, q.2⟩, fun q => ⟨rfl, q.2.2⟩⟩
      · rw [thereB_far (by omega)]
        exact ⟨fun q => (by cases q), fun q => absurd q.2.1 h⟩
    · rw [thereB_neg (by omega)]
      exact ⟨fun q => (by cases q), fun q => absurd q.1 h0⟩
  · rw [show ((k : Int) + (m : Int)) = ((k + m : Nat) : Int) by omega]
    by_cases h : k + m + p ≤ r
    · rw [thereB_in h, rowEqB_iff]
      exact ⟨fun q => ⟨h, q.2⟩, fun q => ⟨rfl, q.2⟩⟩
    · rw [thereB_far (by omega)]
      exact ⟨fun q => (by cases q), fun q => absurd q.1 h⟩
theorem fitsI_iff (n r L : Nat) (v S : Nat → Int) (k : Nat) (hL : L ≤ 12) : fitsI n r L v S k = true ↔ n ≤ k ∧ ∀ j, j < L → padF v r (k - n + j) = S j := by
  unfold fitsI
  rw [Bool.and_eq_true, decide_eq_true_iff, List.all_eq_true]
  refine and_congr Iff.rfl ⟨fun h j hj => ?_, fun h j hj => ?_⟩
  · have := h j (List.mem_range.2 (by omega))
    unfold seenF at this
    rw [if_pos hj] at this
    simpa using this
  · unfold seenF
    by_cases hj : j < L
    · rw [if_pos hj]
      simpa using h j hj
    · rw [if_neg hj]
      simp
theorem fits_same (n m p : Nat) (f g u v : Nat → Int) (r k : Nat) (hn : n ≤ 4) (hm : m ≤ 4) (hp : p ≤ 4) (hk : k < r) (hf : ∀ i, i < n → 0 ≤ f i) (hg : ∀ i, i < m → 0 ≤ g i) (hu : ∀ i, i < p → 0 ≤ u i) :
    fitsI n r (n + m + p) v (padF (soughtF n m f g u) (n + m + p)) k = fitsB n m p f g u v r k := by
  rw [Bool.eq_iff_iff, fitsI_iff _ _ _ _ _ _ (by omega), fitsB_iff]
  constructor
  · rintro ⟨h0, h⟩
    have hs : ∀ j, j < n + m + p → padF v r (k - n + j) = soughtF n m f g u j := fun j hj => by
      rw [h j hj]
      unfold padF
      rw [if_pos hj]
    have hv : ∀ j, j < n + m + p → 0 ≤ soughtF n m f g u j → k - n + j < r ∧ v (k - n + j) = soughtF n m f g u j := fun j hj h1 => by
      have e := hs j hj
      unfold padF at e
      by_cases hlt : k - n + j < r
      · rw [if_pos hlt] at e
        exact ⟨hlt, e⟩
      · rw [if_neg hlt] at e
        omega
    have s1 : ∀ i, i < n → soughtF n m f g u i = f i := fun i hi => by unfold soughtF; rw [if_pos hi]
    have s2 : ∀ i, i < m → soughtF n m f g u (n + i) = g i := fun i hi => by unfold soughtF; rw [if_neg (by omega), if_pos (by omega), Nat.add_sub_cancel_left]
    have s3 : ∀ i, i < p → soughtF n m f g u (n + m + i) = u i := fun i hi => by unfold soughtF; rw [if_neg (by omega), if_neg (by omega), Nat.add_sub_cancel_left]
    refine ⟨⟨?_, ?_⟩, ⟨h0, by omega, ?_⟩, ⟨?_, ?_⟩⟩
    · by_cases hm0 : m = 0
      · omega
      · have := (hv (n + (m - 1)) (by omega) (by rw [s2 _ (by omega)]; exact hg _ (by omega))).1
        omega
    · intro i hi
      have := (hv (n + i) (by omega) (by rw [s2 _ hi]; exact hg _ hi)).2
      rw [s2 _ hi, show k - n + (n + i) = k + i by omega] at this
      exact this
    · intro i hi
      have := (hv i (by omega) (by rw [s1 _ hi]; exact hf _ hi)).2
      rw [s1 _ hi] at this
      exact this
    · by_cases hp0 : p = 0
      · by_cases hm0 : m = 0
        · omega
        · have := (hv (n + (m - 1)) (by omega) (by rw [s2 _ (by omega)]; exact hg _ (by omega))).1
          omega
      · have := (hv (n + m + (p - 1)) (by omega) (by rw [s3 _ (by omega)]; exact hu _ (by omega))).1
        omega
    · intro i hi
      have := (hv (n + m + i) (by omega) (by rw [s3 _ hi]; exact hu _ hi)).2
      rw [s3 _ hi, show k - n + (n + m + i) = k + m + i by omega] at this
      exact this
  · rintro ⟨⟨a1, a2⟩, ⟨b1, b2, b3⟩, ⟨c1, c2⟩⟩
    refine ⟨b1, fun j hj => ?_⟩
    unfold padF
    rw [if_pos hj, if_pos (by omega)]
    unfold soughtF
    by_cases h1 : j < n
    · rw [if_pos h1]; exact b3 j h1
    · rw [if_neg h1]
      by_cases h2 : j < n + m
      · rw [if_pos h2, ← a2 _ (by omega), show k + (j - n) = k - n + j by omega]
      · rw [if_neg h2, ← c2 _ (by omega), show k + m + (j - (n + m)) = k - n + j by omega]
end Go.Proofs.Ytehemjcpdblonaa
