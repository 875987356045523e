/- Partners are partners of one another: the numbers. -/
import Derived.Test.YtfpombhhnojjhaaDepS
set_option linter.unusedVariables false
set_option linter.unusedSimpArgs false
namespace Go.Proofs.Ytfpombhhnojjhaa
open Go.RowKit
theorem gd_app {P : List Int} {z : Int} {i : Nat} (h : i < P.length) : (P ++ [z]).getD i 0 = P.getD i 0 := by
  simp only [List.getD_eq_getElem?_getD]
  rw [List.getElem?_append_left h]
theorem gd_new {P : List Int} {z : Int} {t : Nat} (h : P.length = t) : (P ++ [z]).getD t 0 = z := by
  subst h
  simp only [List.getD_eq_getElem?_getD]
  rw [List.getElem?_append_right (Nat.le_refl _)]
  simp
theorem gd_same {P : List Int} {z : Int} {i : Nat} (h : i < P.length) : (P.set i z).getD i 0 = z := by
  simp only [List.getD_eq_getElem?_getD]
  rw [List.getElem?_set_self h]
  rfl
theorem gd_other {P : List Int} {z : Int} {i k : Nat} (h : ¬ k = i) : (P.set k z).getD i 0 = P.getD i 0 := by
  simp only [List.getD_eq_getElem?_getD]
  rw [List.getElem?_set_ne h]
/-- What holds of the partners and the open calls behind t letters. -/
structure PInv (c : Nat → Int) (t : Nat) (s : List Int × List Nat) : Prop where
  len : s.1.length = t
  lt : ∀ x ∈ s.2, x < t
  nd : s.2.Nodup
  op : ∀ x ∈ s.2, s.1.getD x 0 = -1 ∧ c x = 1
  ok : ∀ i, i < t → s.1.getD i 0 = -1 ∨ ∃ p : Nat, s.1.getD i 0 = (p : Int) ∧ p < t ∧ s.1.getD p 0 = (i : Int) ∧ c i + c p = 3 ∧ (c i = 2 ↔ p < i)
theorem pinv_more {c : Nat → Int} {t : Nat} {P : List Int} {O : List Nat} (h : PInv c t (P, O)) : PInv c (t + 1) (P ++ [-1], O) := by
  obtain ⟨len, lt, nd, op, ok⟩ := h
  dsimp only at len lt nd op ok
  refine ⟨by simp [len], fun x hx => by have := lt x hx; omega, nd, fun x hx => ?_, fun i hi => ?_⟩
  · dsimp only at hx ⊢
    rw [gd_app (by rw [len]; exact lt x hx)]
    exact op x hx
  · dsimp only
    by_cases e : i = t
    · exact .inl (by rw [e]; exact gd_new len)
    · rw [gd_app (by omega)]
      rcases ok i (by omega) with h | ⟨p, h1, h2, h3, h4, h5⟩
      · exact .inl h
      · exact .inr ⟨p, h1, by omega, by rw [gd_app (by omega)]; exact h3, h4, h5⟩
theorem pinv_step {c : Nat → Int} {t : Nat} {s : List Int × List Nat} (h : PInv c t s) : PInv c (t + 1) (pstep (c t) t s) := by
  obtain ⟨P, O⟩ := s
  have h' := pinv_more h
  unfold pstep
  split
  · rename_i h1
    obtain ⟨len, lt, nd, op, ok⟩ := h'
    dsimp only at len lt nd op ok ⊢
    have hl : P.length = t := by simpa using h.len
    refine ⟨len, fun x hx => ?_, ?_, fun x hx => ?_, ok⟩
    · rcases List.mem_append.1 hx with hx | hx
      · exact lt x hx
      · simp at hx
        omega
    · dsimp only
      refine List.nodup_append.2 ⟨nd, by simp, fun a ha b hb => ?_⟩
      have := h.lt a ha
      simp at hb
      omega
    · dsimp only at hx ⊢
      rcases List.mem_append.1 hx with hx | hx
      · exact op x hx
      · simp at hx
        subst hx
        exact ⟨gd_new hl, h1⟩
  · split
    · rename_i h1 h2
      split
      · rename_i x hx
        have hxm : x ∈ O := List.mem_of_getLast? hx
        obtain ⟨len, lt, nd, op, ok⟩ := h
        dsimp only at len lt nd op ok hx
        have hxt := lt x hxm
        obtain ⟨opx, cx⟩ := op x hxm
        have hO : O = O.dropLast ++ [x] := by
          have hne : O ≠ [] := fun e => by rw [e] at hxm; cases hxm
          rw [List.getLast?_eq_some_getLast hne] at hx
          injection hx with hx
          rw [← hx]
          exact (List.dropLast_concat_getLast hne).symm
        have hxd : x ∉ O.dropLast := fun hm => by
          rw [hO] at nd
          exact (List.nodup_append.1 nd).2.2 x hm x (by simp) rfl
        have g1 : ∀ i, i < t → i ≠ x → (((P ++ [-1]).set t (x : Int)).set x (t : Int)).getD i 0 = P.getD i 0 := fun i hi hix => by
          rw [gd_other (fun e => hix e.symm), gd_other (by omega), gd_app (by omega)]
        have g2 : (((P ++ [-1]).set t (x : Int)).set x (t : Int)).getD x 0 = (t : Int) := gd_same (by simp [len]; omega)
        have g3 : (((P ++ [-1]).set t (x : Int)).set x (t : Int)).getD t 0 = (x : Int) := by
          rw [gd_other (by omega)]
          exact gd_same (by simp [len])
        refine ⟨by simp [len], fun y hy => ?_, ?_, fun y hy => ?_, fun i hi => ?_⟩
        · have := lt y (List.dropLast_subset _ hy)
          omega
        · dsimp only
          exact List.Nodup.sublist (List.dropLast_sublist _) nd
        · dsimp only at hy ⊢
          have hy' := List.dropLast_subset _ hy
          have hyx : y ≠ x := fun e => hxd (e ▸ hy)
          rw [g1 y (lt y hy') hyx]
          exact op y hy'
        · dsimp only
          by_cases e1 : i = t
          · subst e1
            exact .inr ⟨x, g3, by omega, g2, by omega, by constructor <;> intro _ <;> omega⟩
          · by_cases e2 : i = x
            · subst e2
              exact .inr ⟨t, g2, by omega, g3, by omega, by constructor <;> intro _ <;> omega⟩
            · rw [g1 i (by omega) e2]
              rcases ok i (by omega) with h | ⟨p, k1, k2, k3, k4, k5⟩
              · exact .inl h
              · have hpx : p ≠ x := fun e => by rw [e, opx] at k3; omega
                exact .inr ⟨p, k1, by omega, by rw [g1 p k2 hpx]; exact k3, k4, k5⟩
      · exact h'
    · exact h'
theorem pinv_all {f g c : Nat → Int} (hc : ∀ t, g (f t).toNat = c t) : ∀ t, PInv c t (pst f g t)
  | 0 => ⟨rfl, (fun x hx => by simp [pst] at hx), by simp [pst], (fun x hx => by simp [pst] at hx), fun i hi => by omega⟩
  | t + 1 => by
    rw [pst_succ, hc]
    exact pinv_step (pinv_all hc t)
theorem depL_getD (f g : Nat → Int) : ∀ n i, i < n → (depL f g n).getD i 0 = (depV f g (i + 1) : Int)
  | 0, i, h => by omega
  | n + 1, i, h => by
    rw [depL_step]
    by_cases e : i = n
    · rw [e]
      exact gd_new (depL_len f g n)
    · rw [gd_app (by rw [depL_len]; omega)]
      exact depL_getD f g n i (by omega)
end Go.Proofs.Ytfpombhhnojjhaa
