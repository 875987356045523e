/- A word changed at all places: impl's answer. -/
import Derived.Test.YtehemjcpdblonaaChAS
import Derived.Test.YtehemjcpdblonaaInOrd
import Derived.Test.YtehemjcpdblonaaAreC
set_option linter.unusedVariables false
namespace Go.Proofs.Ytehemjcpdblonaa
open Go.RowKit
theorem own_fin {w : World} {base : Nat} {e : TypeId} {v : Value} {xs : List Value} (h : w.ownsRow base e 17 v 1 xs) :
    ∃ g cap, v = .slice (some ⟨g, 0, none⟩) 1 cap ∧ 1 ≤ cap ∧ base ≤ g ∧ ∀ j, j < 17 → w.cell? ⟨g, 0 + j, none⟩ = some (xs.getD j undef) := by
  rcases h.2 with ⟨_, h0⟩ | ⟨g, cap, cur, hv, hb, hh, h1, h2, h3, h4⟩
  · omega
  · refine ⟨g, cap, hv, h1, hb, fun j hj => ?_⟩
    have hlt : j < cur.size := by rw [h3]; omega
    rw [← h4]
    simp [World.cell?, hh, List.getD, hj, hlt]
theorem allR_congr {b b' : Nat → Bool} {h : List Int} {m : Nat} {v : Nat → Int} {r : Nat} (e : ∀ k, k < r → b k = b' k) (s k : Nat) : allR b h m v r s k = allR b' h m v r s k := by
  induction s generalizing k with
  | zero => rfl
  | succ s ih =>
    unfold allR
    by_cases hk : k < r
    · rw [if_pos hk, if_pos hk, e k hk, ih, ih]
    · rw [if_neg hk, if_neg hk]
theorem letters_pos (f : Nat → Int) (n : Nat) (l : Int) (t : Nat) (h : lettersB f n l t = true) : ∀ i, i < n → 0 ≤ f i := by
  unfold lettersB at h
  simp only [Bool.and_eq_true] at h
  intro i hi
  have := allP_iff.1 h.2.2 i hi
  unfold letP inB at this
  simp at this
  omega
theorem validC_pos (l : Int) (n m o p : Nat) (f g h u : Nat → Int) (hv : validC l n m o p f g h u = true) : (∀ i, i < n → 0 ≤ f i) ∧ (∀ i, i < m → 0 ≤ g i) ∧ ∀ i, i < p → 0 ≤ u i := by
  unfold validC at hv
  simp only [Bool.and_eq_true] at hv
  exact ⟨letters_pos _ _ _ _ hv.1, letters_pos _ _ _ _ hv.2.1, letters_pos _ _ _ _ hv.2.2.2.1⟩
theorem all_same (l : Int) (n m o p : Nat) (f g h u : Nat → Int) (v : Nat → Int) (r : Nat) (hv : validC l n m o p f g h u = true) :
    allOf (fitsB n m p f g u v r) ((List.range o).map h) m v r 0 = allOf (fitsI n r (n + m + p) v (padF (soughtF n m f g u) (n + m + p))) ((List.range o).map h) m v r 0 := by
  obtain ⟨a1, a2, a3, a4, a5⟩ := validC_le l n m o p f g h u hv
  obtain ⟨b1, b2, b3⟩ := validC_pos l n m o p f g h u hv
  exact allR_congr (fun k hk => (fits_same n m p f g u v r k a1 a2 a4 hk b1 b2 b3).symm) _ _
theorem inB_of_validC (l : Int) (n m o p : Nat) (f g h u : Nat → Int) (hv : validC l n m o p f g h u = true) : inB l 1 4 = true := by
  unfold validC lettersB at hv
  simp only [Bool.and_eq_true] at hv
  exact hv.1.1
set_option maxHeartbeats 1000000 in
theorem areChanges_one (X cX : Nat)
  (A B C D : Option Addr) (n c m d o q p t : Nat) (f g h u : Nat → Int)
  (l : Int) (w : World)
  (hn : n ≤ 1048576) (hm : m ≤ 1048576) (ho : o ≤ 1048576) (hp : p ≤ 1048576) (hA : Cells w A n (fun i => .int .i64 (f i))) (hB : Cells w B m (fun i => .int .i64 (g i))) (hC : Cells w C o (fun i => .int .i64 (h i))) (hD : Cells w D p (fun i => .int .i64 (u i)))
  (hx : Box4 w X (.slice A n c) (.slice B m d) (.slice C o q) (.slice D p t)) (hcX : 1 ≤ cX)
  : Calls Try.prog 71 #[.slice (some ⟨X, 0, none⟩) 1 cX, .int .i64 l] w fun e w' => e = .returned (.bool (validC l n m o p f g h u)) ∧ Below w.heap.size w w' := by
  have HK := Lib.hid (fun b W h1 h2 h3 h4 k1 k2 => containsChange_one X cX A B C D n c m d o q p t f g h u l b W hn hm ho hp h1 h2 h3 h4 k1 k2 hcX)
  have HI := Lib.hid (inB_of_validC l n m o p f g h u)
  have HBt := Lib.hid (fun W => between_any l 1 4 W)
  have HA := Lib.hid hA
  have HB := Lib.hid hB
  have HC := Lib.hid hC
  have HD := Lib.hid hD
  have HX := Lib.hid hx
  clear hA hB hC hD hx
  generalize validC l n m o p f g h u = R at *
  generalize inB l 1 4 = R1 at *
  cases R1
  · obtain rfl : R = false := by
      cases R
      · rfl
      · exact absurd (HI.out rfl) (by simp)
    go_enter Try.func71, Try.ntmps71
    go_wp2_with fail
    refine (HBt.out _).mono ?_
    rintro e w' ⟨rfl, rfl⟩
    go_wp2_with fail
    go_ret
    exact ⟨rfl, (by repeat (first | exact Below.refl _ _ | exact Hid.out (by assumption) | refine below_alloc ?_ _ | refine Below.setCell ?_ (by simp <;> omega) _ | refine Below.alloc ?_ (by simp <;> omega) _ | refine Below.drew ?_ | refine below_drewN ?_ _))⟩
  · go_enter Try.func71, Try.ntmps71
    go_wp2_with fail
    refine (HBt.out _).mono ?_
    rintro e w' ⟨rfl, rfl⟩
    go_wp2_with fail
    refine (HK.out w.heap.size _ (HA.out.below (by repeat (first | exact Below.refl _ _ | exact Hid.out (by assumption) | refine below_alloc ?_ _ | refine Below.setCell ?_ (by simp <;> omega) _ | refine Below.alloc ?_ (by simp <;> omega) _ | refine Below.drew ?_ | refine below_drewN ?_ _))) (HB.out.below (by repeat (first | exact Below.refl _ _ | exact Hid.out (by assumption) | refine below_alloc ?_ _ | refine Below.setCell ?_ (by simp <;> omega) _ | refine Below.alloc ?_ (by simp <;> omega) _ | refine Below.drew ?_ | refine below_drewN ?_ _))) (HC.out.below (by repeat (first | exact Below.refl _ _ | exact Hid.out (by assumption) | refine below_alloc ?_ _ | refine Below.setCell ?_ (by simp <;> omega) _ | refine Below.alloc ?_ (by simp <;> omega) _ | refine Below.drew ?_ | refine below_drewN ?_ _))) (HD.out.below (by repeat (first | exact Below.refl _ _ | exact Hid.out (by assumption) | refine below_alloc ?_ _ | refine Below.setCell ?_ (by simp <;> omega) _ | refine Below.alloc ?_ (by simp <;> omega) _ | refine Below.drew ?_ | refine below_drewN ?_ _))) (by simp) (HX.out.below (by repeat (first | exact Below.refl _ _ | exact Hid.out (by assumption) | refine below_alloc ?_ _ | refine Below.setCell ?_ (by simp <;> omega) _ | refine Below.alloc ?_ (by simp <;> omega) _ | refine Below.drew ?_ | refine below_drewN ?_ _)))).mono ?_
    rintro e w' ⟨rfl, hb⟩
    have N1 := Lib.hid (show Below w.heap.size w w' from Below.trans (show Below w.heap.size w (w.alloc _) from (by repeat (first | exact Below.refl _ _ | exact Hid.out (by assumption) | refine below_alloc ?_ _ | refine Below.setCell ?_ (by simp <;> omega) _ | refine Below.alloc ?_ (by simp <;> omega) _ | refine Below.drew ?_ | refine below_drewN ?_ _))) (hb.mono (by simp)))
    clear hb
    go_wp2_with fail
    go_ret
    exact ⟨by first | rfl | simp, N1.out⟩
end Go.Proofs.Ytehemjcpdblonaa
