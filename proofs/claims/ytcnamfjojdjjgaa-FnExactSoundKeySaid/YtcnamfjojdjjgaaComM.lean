/- The longest common text: what both programs compute. -/
import Derived.Test.YtcnamfjojdjjgaaStepS
set_option linter.unusedVariables false
namespace Go.Proofs.Ytcnamfjojdjjgaa
open Go.RowKit
/-- How long the longest common text of two beginnings is. -/
def lcsE (x y : Nat → Nat) : Nat → Nat → Int
  | 0, _ => 0
  | _ + 1, 0 => 0
  | i + 1, j + 1 => if x i = y j then lcsE x y i j + 1 else max (lcsE x y i (j + 1)) (lcsE x y (i + 1) j)
theorem lcsE_0j {x y : Nat → Nat} (j : Nat) : lcsE x y 0 j = 0 := by rw [lcsE]
theorem lcsE_i0 {x y : Nat → Nat} (i : Nat) : lcsE x y i 0 = 0 := by cases i <;> rw [lcsE]
theorem lcsE_ss {x y : Nat → Nat} (i j : Nat) : lcsE x y (i + 1) (j + 1) = if x i = y j then lcsE x y i j + 1 else max (lcsE x y i (j + 1)) (lcsE x y (i + 1) j) := by rw [lcsE]
/-- One more byte makes it longer by one byte at most. -/
theorem lcsE_lip {x y : Nat → Nat} : ∀ i, (∀ j, lcsE x y i j ≤ lcsE x y (i + 1) j ∧ lcsE x y (i + 1) j ≤ lcsE x y i j + 1) ∧ (∀ j, lcsE x y i j ≤ lcsE x y i (j + 1) ∧ lcsE x y i (j + 1) ≤ lcsE x y i j + 1) := by
  have step : ∀ i, (∀ j, lcsE x y i j ≤ lcsE x y i (j + 1) ∧ lcsE x y i (j + 1) ≤ lcsE x y i j + 1) → ∀ j, lcsE x y i j ≤ lcsE x y (i + 1) j ∧ lcsE x y (i + 1) j ≤ lcsE x y i j + 1 := by
    intro i hB j
    induction j with
    | zero => rw [lcsE_i0, lcsE_i0]; omega
    | succ j ih =>
      have hb := hB j
      rw [lcsE_ss]
      split <;> omega
  have hB : ∀ i, ∀ j, lcsE x y i j ≤ lcsE x y i (j + 1) ∧ lcsE x y i (j + 1) ≤ lcsE x y i j + 1 := by
    intro i
    induction i with
    | zero => intro j; rw [lcsE_0j, lcsE_0j]; omega
    | succ i ih =>
      intro j
      have ha := step i ih j
      have hb := ih j
      have ha2 := step i ih (j + 1)
      rw [lcsE_ss]
      split <;> omega
  exact fun i => ⟨step i (hB i), hB i⟩
theorem lcsE_bd {x y : Nat → Nat} : ∀ i j : Nat, 0 ≤ lcsE x y i j ∧ lcsE x y i j ≤ (i : Int) := by
  intro i
  induction i with
  | zero => intro j; rw [lcsE_0j]; omega
  | succ i ih =>
    intro j
    have h1 := (lcsE_lip (x := x) (y := y) i).1 j
    have h2 := ih j
    omega
/-- The cost of edits that change no byte. -/
theorem costC {x y : Nat → Nat} : ∀ i j : Nat, i ≤ 48 → j ≤ 48 → costE x y 1 1 1000000 1000000 i j = (i : Int) + j - 2 * lcsE x y i j := by
  have key : ∀ (n i j : Nat), i + j ≤ n → i ≤ 48 → j ≤ 48 → costE x y 1 1 1000000 1000000 i j = (i : Int) + j - 2 * lcsE x y i j := by
    intro n
    induction n with
    | zero =>
      intro i j h hi hj
      obtain rfl : i = 0 := by omega
      obtain rfl : j = 0 := by omega
      rw [costE_00, lcsE_0j]
      omega
    | succ n ih =>
      intro i j h hi hj
      cases i with
      | zero =>
        cases j with
        | zero => rw [costE_00, lcsE_0j]; omega
        | succ j =>
          have := ih 0 j (by omega) (by omega) (by omega)
          rw [costE_0j, this, lcsE_0j, lcsE_0j]
          omega
      | succ i =>
        cases j with
        | zero =>
          have := ih i 0 (by omega) (by omega) (by omega)
          rw [costE_i0, this, lcsE_i0, lcsE_i0]
          omega
        | succ j =>
          rw [costE_ss]
          simp only
          rw [ih i j (by omega) (by omega) (by omega), ih i (j + 1) (by omega) (by omega) (by omega), ih (i + 1) j (by omega) (by omega) (by omega), ih (i - 1) (j - 1) (by omega) (by omega) (by omega), lcsE_ss]
          have b4 := lcsE_bd (x := x) (y := y) (i - 1) (j - 1)
          have b1 := lcsE_bd (x := x) (y := y) i j
          have b2 := lcsE_bd (x := x) (y := y) i (j + 1)
          have b3 := lcsE_bd (x := x) (y := y) (i + 1) j
          have l1 := (lcsE_lip (x := x) (y := y) i).1 j
          have l2 := (lcsE_lip (x := x) (y := y) i).2 j
          generalize lcsE x y (i - 1) (j - 1) = q4 at *
          generalize lcsE x y i j = q1 at *
          generalize lcsE x y i (j + 1) = q2 at *
          generalize lcsE x y (i + 1) j = q3 at *
          by_cases hxy : x i = y j
          · rw [if_pos hxy, if_pos hxy]
            split <;> omega
          · rw [if_neg hxy, if_neg hxy]
            split <;> omega
  exact fun i j => key (i + j) i j (Nat.le_refl _)
/-- The last step of edits that change no byte. -/
def stepC (x y : Nat → Nat) (i j : Nat) : Nat := (editE x y 1 1 1000000 1000000 i j).1
theorem stepC_00 {x y : Nat → Nat} : stepC x y 0 0 = 0 := rfl
theorem stepC_0j {x y : Nat → Nat} (j : Nat) : stepC x y 0 (j + 1) = 43 := rfl
theorem stepC_i0 {x y : Nat → Nat} (i : Nat) : stepC x y (i + 1) 0 = 45 := rfl
theorem stepC_ss {x y : Nat → Nat} (i j : Nat) (hi : i < 48) (hj : j < 48) :
    stepC x y (i + 1) (j + 1) = if x i = y j then 61 else if lcsE x y i (j + 1) = lcsE x y (i + 1) (j + 1) then 45 else 43 := by
  unfold stepC editE
  simp only [lastE, leastO, pairO]
  rw [costC i j (by omega) (by omega), costC i (j + 1) (by omega) (by omega), costC (i + 1) j (by omega) (by omega), costC (i - 1) (j - 1) (by omega) (by omega), lcsE_ss]
  have b4 := lcsE_bd (x := x) (y := y) (i - 1) (j - 1)
  have b1 := lcsE_bd (x := x) (y := y) i j
  have b2 := lcsE_bd (x := x) (y := y) i (j + 1)
  have b3 := lcsE_bd (x := x) (y := y) (i + 1) j
  have l1 := (lcsE_lip (x := x) (y := y) i).1 j
  have l2 := (lcsE_lip (x := x) (y := y) i).2 j
  have hsub : ((i - 1 : Nat) : Int) ≤ i ∧ ((j - 1 : Nat) : Int) ≤ j ∧ 0 ≤ ((i - 1 : Nat) : Int) ∧ 0 ≤ ((j - 1 : Nat) : Int) := by omega
  generalize lcsE x y (i - 1) (j - 1) = q4 at *
  generalize lcsE x y i j = q1 at *
  generalize lcsE x y i (j + 1) = q2 at *
  generalize lcsE x y (i + 1) j = q3 at *
  have key : ∀ (u v w z : Int) (l : List (Nat × Int)) (code : Nat), (l = [] ∨ l = [(120, z)]) → min u (min v w) < z →
      (List.foldl betterO (code, u) ([(45, v), (43, w)] ++ l)).1 = if u ≤ v ∧ u ≤ w then code else if v ≤ w then 45 else 43 := by
    intro u v w z l code hl hz
    have e : (List.foldl betterO (code, u) ([(45, v), (43, w)] ++ l)) = betterO (betterO (code, u) (45, v)) (43, w) := by
      rcases hl with rfl | rfl
      · rfl
      · show betterO (betterO (betterO (code, u) (45, v)) (43, w)) (120, z) = _
        have hle : (betterO (betterO (code, u) (45, v)) (43, w)).2 = min (min u v) w := by rw [betterO_cost, betterO_cost]
        generalize betterO (betterO (code, u) (45, v)) (43, w) = t at *
        unfold betterO
        rw [if_neg]
        simp only
        omega
    rw [e]
    unfold betterO
    by_cases a1 : v < u
    · simp only [a1, if_true]
      by_cases a2 : w < v
      · simp only [a2, if_true]
        rw [if_neg (by omega), if_neg (by omega)]
      · simp only [a2, if_false]
        rw [if_neg (by omega), if_pos (by omega)]
    · simp only [a1, if_false]
      by_cases a2 : w < u
      · simp only [a2, if_true]
        rw [if_neg (by omega), if_neg (by omega)]
      · simp only [a2, if_false]
        rw [if_pos (by omega)]
  by_cases hxy : x i = y j
  · simp only [hxy, if_true]
    rw [key _ _ _ (((i - 1 : Nat) : Int) + ((j - 1 : Nat) : Int) - 2 * q4 + 1000000) _ _ (by split; exact .inr rfl; exact .inl rfl) (by omega), if_pos (by omega)]
  · simp only [hxy, if_false]
    rw [key _ _ _ (((i - 1 : Nat) : Int) + ((j - 1 : Nat) : Int) - 2 * q4 + 1000000) _ _ (by split; exact .inr rfl; exact .inl rfl) (by omega), if_neg (by omega)]
    by_cases h2 : q2 = max q2 q3
    · rw [if_pos h2, if_pos (by omega)]
    · rw [if_neg h2, if_neg (by omega)]

/-- The common text from the end on. -/
def backC (x y : Nat → Nat) : Nat → Nat → Nat → List Nat
  | 0, _, _ => []
  | n + 1, i, j => if i = 0 ∨ j = 0 then [] else if x (i - 1) = y (j - 1) then x (i - 1) :: backC x y n (i - 1) (j - 1) else if lcsE x y (i - 1) j = lcsE x y i j then backC x y n (i - 1) j else backC x y n i (j - 1)
/-- What a step does: where it stands in the first text, and what is common. -/
def actC (x : Nat → Nat) (st : Nat × List Nat) (c : Nat) : Nat × List Nat := if c = 61 then (st.1 + 1, st.2 ++ [x st.1]) else if c = 45 then (st.1 + 1, st.2) else st
theorem actC_le (x : Nat → Nat) (st : Nat × List Nat) (c : Nat) : st.1 ≤ (actC x st c).1 ∧ (actC x st c).2.length ≤ st.2.length + 1 := by
  unfold actC
  split
  · exact ⟨by simp, by simp⟩
  · split <;> exact ⟨by simp, by simp⟩
theorem fold_le (x : Nat → Nat) : ∀ (l : List Nat) (st : Nat × List Nat), st.1 ≤ (l.foldl (actC x) st).1 := by
  intro l
  induction l with
  | nil => intro st; exact Nat.le_refl _
  | cons c l ih => intro st; exact Nat.le_trans (actC_le x st c).1 (ih _)
theorem fold_len (x : Nat → Nat) : ∀ (l : List Nat) (st : Nat × List Nat), (l.foldl (actC x) st).2.length ≤ st.2.length + l.length := by
  intro l
  induction l with
  | nil => intro st; exact Nat.le_refl _
  | cons c l ih => intro st; have h1 := ih (actC x st c); have h2 := (actC_le x st c).2; simp only [List.foldl_cons, List.length_cons]; omega
theorem back_of_0 {x y : Nat → Nat} {n i j : Nat} (h : i = 0 ∨ j = 0) : backC x y n i j = [] := by
  cases n with
  | zero => rfl
  | succ n => rw [backC, if_pos h]
/-- The steps, gone from the beginning on, tell the common text. -/
theorem fold_back {x y : Nat → Nat} : ∀ (n i j : Nat), i + j ≤ n → i ≤ 48 → j ≤ 48 → (backE (stepC x y) n i j).reverse.foldl (actC x) (0, []) = (i, (backC x y n i j).reverse) := by
  intro n
  induction n with
  | zero =>
    intro i j h hi hj
    obtain rfl : i = 0 := by omega
    rfl
  | succ n ih =>
    intro i j h hi hj
    cases i with
    | zero =>
      rw [back_of_0 (.inl rfl)]
      cases j with
      | zero => rfl
      | succ j =>
        rw [backE, stepC_0j, if_neg (by omega), if_neg (by omega), if_pos rfl, List.reverse_cons, List.foldl_append]
        have := ih 0 j (by omega) (by omega) (by omega)
        rw [back_of_0 (.inl rfl)] at this
        show actC x (List.foldl (actC x) (0, []) (backE (stepC x y) n 0 j).reverse) 43 = _
        rw [this]
        rfl
    | succ i =>
      cases j with
      | zero =>
        rw [back_of_0 (.inr rfl), backE, stepC_i0, if_neg (by omega), if_pos rfl, List.reverse_cons, List.foldl_append]
        have := ih i 0 (by omega) (by omega) (by omega)
        rw [back_of_0 (.inr rfl)] at this
        show actC x (List.foldl (actC x) (0, []) (backE (stepC x y) n i 0).reverse) 45 = _
        rw [this]
        rfl
      | succ j =>
        have hs := stepC_ss (x := x) (y := y) i j (by omega) (by omega)
        rw [backC, if_neg (by omega)]
        show _ = (i + 1, (if x i = y j then x i :: backC x y n i j else if lcsE x y i (j + 1) = lcsE x y (i + 1) (j + 1) then backC x y n i (j + 1) else backC x y n (i + 1) j).reverse)
        by_cases hxy : x i = y j
        · rw [if_pos hxy] at hs
          rw [if_pos hxy, backE, hs, if_pos (.inl rfl), List.reverse_cons, List.foldl_append]
          show actC x (List.foldl (actC x) (0, []) (backE (stepC x y) n i j).reverse) 61 = _
          rw [ih i j (by omega) (by omega) (by omega), List.reverse_cons]
          rfl
        · rw [if_neg hxy] at hs
          rw [if_neg hxy]
          by_cases h2 : lcsE x y i (j + 1) = lcsE x y (i + 1) (j + 1)
          · rw [if_pos h2] at hs
            rw [if_pos h2, backE, hs, if_neg (by omega), if_pos rfl, List.reverse_cons, List.foldl_append]
            show actC x (List.foldl (actC x) (0, []) (backE (stepC x y) n i (j + 1)).reverse) 45 = _
            rw [ih i (j + 1) (by omega) (by omega) (by omega)]
            rfl
          · rw [if_neg h2] at hs
            rw [if_neg h2, backE, hs, if_neg (by omega), if_neg (by omega), if_pos rfl, List.reverse_cons, List.foldl_append]
            show actC x (List.foldl (actC x) (0, []) (backE (stepC x y) n (i + 1) j).reverse) 43 = _
            rw [ih (i + 1) j (by omega) (by omega) (by omega)]
            rfl
def commonL (a b : ByteArray) : List Nat := (backC (bx a) (bx b) (a.size + b.size) a.size b.size).reverse
def vCommonText1 (a b : ByteArray) : Bool := textB a && textB b
def vCommonText0 (a b : ByteArray) : ByteArray := if vCommonText1 a b then textL (commonL a b) else ⟨#[]⟩
end Go.Proofs.Ytcnamfjojdjjgaa
