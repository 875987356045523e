/- How many calls are open, on both sides. -/
import Derived.Test.YtfpombhhnojjhaaPartI
import Derived.Test.YtfpombhhnojjhaaPartS
set_option linter.unusedVariables false
set_option linter.unusedSimpArgs false
namespace Go.Proofs.Ytfpombhhnojjhaa
open Go.RowKit
/-- How many calls are open behind t letters. -/
def depV (f g : Nat → Int) (t : Nat) : Nat := (pst f g t).2.length
def depL (f g : Nat → Int) : Nat → List Int
  | 0 => []
  | t + 1 => depL f g t ++ [(depV f g (t + 1) : Int)]
theorem depL_step (f g : Nat → Int) (t : Nat) : depL f g (t + 1) = depL f g t ++ [(depV f g (t + 1) : Int)] := rfl
theorem depL_len (f g : Nat → Int) : ∀ t, (depL f g t).length = t
  | 0 => rfl
  | t + 1 => by rw [depL_step]; simp [depL_len f g t]
def depF (n : Nat) (f g : Nat → Int) (i : Nat) : Int := (depL f g n).getD i 0
theorem pst_succ (f g : Nat → Int) (t : Nat) : pst f g (t + 1) = pstep (g (f t).toNat) t (pst f g t) := rfl
theorem dep_1 {f g : Nat → Int} {t : Nat} (h : g (f t).toNat = 1) : depV f g (t + 1) = depV f g t + 1 := by
  unfold depV
  rw [pst_succ]
  unfold pstep
  rw [if_pos h]
  simp
theorem dep_2 {f g : Nat → Int} {t : Nat} (h : g (f t).toNat = 2) : depV f g (t + 1) = depV f g t - 1 := by
  unfold depV
  rw [pst_succ]
  unfold pstep
  rw [if_neg (by omega), if_pos h]
  cases hO : (pst f g t).2.getLast? with
  | none =>
    have : (pst f g t).2 = [] := List.getLast?_eq_none_iff.1 hO
    rw [this]
    rfl
  | some x => simp
theorem dep_0 {f g : Nat → Int} {t : Nat} (h1 : ¬ g (f t).toNat = 1) (h2 : ¬ g (f t).toNat = 2) : depV f g (t + 1) = depV f g t := by
  unfold depV
  rw [pst_succ]
  unfold pstep
  rw [if_neg h1, if_neg h2]
theorem dep_le (f g : Nat → Int) (t : Nat) : depV f g t ≤ t := (pst_ok f g t).2.2
/-- A return's partner stays as it was told. -/
theorem ret_stays {f g : Nat → Int} {a : Nat} (h : ¬ g (f a).toNat = 1) : ∀ k, a ∉ (pst f g (a + 1 + k)).2 ∧ (pst f g (a + 1 + k)).1.getD a 0 = (pst f g (a + 1)).1.getD a 0
  | 0 => by
    refine ⟨?_, rfl⟩
    rw [Nat.add_zero, pst_succ]
    have hlt := (pst_ok f g a).2.1
    unfold pstep
    rw [if_neg h]
    split
    · split
      · exact fun hx => absurd (hlt a (List.dropLast_subset _ hx)) (by omega)
      · exact fun hx => absurd (hlt a hx) (by omega)
    · exact fun hx => absurd (hlt a hx) (by omega)
  | k + 1 => by
    obtain ⟨h1, h2⟩ := ret_stays h k
    have hlen := (pst_ok f g (a + 1 + k)).1
    rw [← Nat.add_assoc, pst_succ]
    generalize pst f g (a + 1 + k) = s at *
    obtain ⟨P, O⟩ := s
    dsimp only at h1 h2 hlen ⊢
    have hP : ∀ z : Int, (P ++ [z]).getD a 0 = P.getD a 0 := fun z => by
      simp only [List.getD_eq_getElem?_getD]
      rw [List.getElem?_append_left (by omega)]
    unfold pstep
    split
    · refine ⟨fun hx => ?_, by rw [hP]; exact h2⟩
      rcases List.mem_append.1 hx with hx | hx
      · exact h1 hx
      · simp at hx
        omega
    · split
      · split
        · rename_i x hx
          have hxm : x ∈ O := List.mem_of_getLast? hx
          have hxa : ¬ x = a := fun e => h1 (e ▸ hxm)
          refine ⟨fun hy => h1 (List.dropLast_subset _ hy), ?_⟩
          show (((P ++ [-1]).set (a + 1 + k) (x : Int)).set x ((a + 1 + k : Nat) : Int)).getD a 0 = _
          simp only [List.getD_eq_getElem?_getD] at *
          rw [List.getElem?_set_ne hxa, List.getElem?_set_ne (by omega), List.getElem?_append_left (by omega)]
          exact h2
        · exact ⟨h1, by rw [hP]; exact h2⟩
      · exact ⟨h1, by rw [hP]; exact h2⟩
theorem ret_part {f g : Nat → Int} {n a : Nat} (ha : a < n) (h : g (f a).toNat = 2) : (partF n f g a = -1) ↔ depV f g a = 0 := by
  have e : n = a + 1 + (n - a - 1) := by omega
  have hs := (ret_stays (f := f) (g := g) (a := a) (by omega) (n - a - 1)).2
  rw [← e] at hs
  unfold partF
  rw [hs, pst_succ]
  obtain ⟨pl, plt, -⟩ := pst_ok f g a
  unfold depV
  generalize pst f g a = s at *
  obtain ⟨P, O⟩ := s
  dsimp only at pl plt ⊢
  unfold pstep
  rw [if_neg (by omega), if_pos h]
  split
  · rename_i x hx
    have hxm : x ∈ O := List.mem_of_getLast? hx
    have hxl := plt x hxm
    have hO : ¬ O.length = 0 := fun e => by
      have := List.length_eq_zero_iff.1 e
      rw [this] at hxm
      cases hxm
    have hv : (((P ++ [-1]).set a (x : Int)).set x (a : Int)).getD a 0 = (x : Int) := by
      simp only [List.getD_eq_getElem?_getD]
      rw [List.getElem?_set_ne (by omega), List.getElem?_set_self (by simp [pl])]
      rfl
    show (((P ++ [-1]).set a (x : Int)).set x (a : Int)).getD a 0 = -1 ↔ _
    rw [hv]
    constructor
    · intro e
      omega
    · intro e
      exact absurd e hO
  · rename_i hx
    have : O = [] := List.getLast?_eq_none_iff.1 hx
    subst this
    have hv : (P ++ [-1]).getD a 0 = -1 := by
      simp only [List.getD_eq_getElem?_getD]
      rw [List.getElem?_append_right (by omega), pl]
      simp
    exact ⟨fun _ => rfl, fun _ => hv⟩
end Go.Proofs.Ytfpombhhnojjhaa
