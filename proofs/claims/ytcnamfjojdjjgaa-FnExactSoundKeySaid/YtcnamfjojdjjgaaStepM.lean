/- Steps of edits: what both programs compute. -/
import Derived.Test.YtcnamfjojdjjgaaEditT
set_option linter.unusedVariables false
namespace Go.Proofs.Ytcnamfjojdjjgaa
open Go.RowKit
/-- Steps from the end on. -/
def backE (s : Nat → Nat → Nat) : Nat → Nat → Nat → List Nat
  | 0, _, _ => []
  | n + 1, i, j => if s i j = 61 ∨ s i j = 33 then s i j :: backE s n (i - 1) (j - 1) else if s i j = 45 then 45 :: backE s n (i - 1) j else if s i j = 43 then 43 :: backE s n i (j - 1) else []
/-- The last step. -/
def stepE (x y : Nat → Nat) (i j : Nat) : Nat := (editE x y 1 1 1 1000000 i j).1
theorem stepE_00 {x y : Nat → Nat} : stepE x y 0 0 = 0 := rfl
theorem stepE_0j {x y : Nat → Nat} (j : Nat) : stepE x y 0 (j + 1) = 43 := rfl
theorem stepE_i0 {x y : Nat → Nat} (i : Nat) : stepE x y (i + 1) 0 = 45 := rfl
theorem costB1 (x y : Nat → Nat) (i j : Nat) (hi : i ≤ 48) (hj : j ≤ 48) : 0 ≤ costE x y 1 1 1 1000000 i j ∧ costE x y 1 1 1 1000000 i j ≤ 96000 := by
  have := costE_bd (x := x) (y := y) (p := 1) (o := 1) (c := 1) (s := 1000000) (by omega) (by omega) (by omega) (by omega) i j
  omega
/-- The last step of two beginnings that are not empty. -/
theorem stepE_ss {x y : Nat → Nat} (i j : Nat) (hi : i < 48) (hj : j < 48) :
    stepE x y (i + 1) (j + 1) = if costE x y 1 1 1 1000000 i j + (if x i = y j then 0 else 1) = costE x y 1 1 1 1000000 (i + 1) (j + 1) then (if x i = y j then 61 else 33)
      else if costE x y 1 1 1 1000000 i (j + 1) + 1 = costE x y 1 1 1 1000000 (i + 1) (j + 1) then 45 else 43 := by
  have h1 := costB1 x y i j (by omega) (by omega)
  have h2 := costB1 x y i (j + 1) (by omega) (by omega)
  have h3 := costB1 x y (i + 1) j (by omega) (by omega)
  have h4 := costB1 x y (i - 1) (j - 1) (by omega) (by omega)
  have hs := costE_ss (x := x) (y := y) (p := 1) (o := 1) (c := 1) (s := 1000000) i j
  simp only at hs
  rw [hs]
  unfold stepE editE
  simp only [lastE, leastO, pairO]
  generalize costE x y 1 1 1 1000000 i j = f1 at *
  generalize costE x y 1 1 1 1000000 i (j + 1) = f2 at *
  generalize costE x y 1 1 1 1000000 (i + 1) j = f3 at *
  generalize costE x y 1 1 1 1000000 (i - 1) (j - 1) = f4 at *
  clear hs
  have key : ∀ (code : Nat) (z : Int), 0 ≤ z → z ≤ 1 →
      (List.foldl betterO (code, f1 + z) ([(45, f2 + 1), (43, f3 + 1)] ++ if swapB x y i j = true then [(120, f4 + 1000000)] else [])).1 =
        if f1 + z = (if swapB x y i j = true then min (min (min (f1 + z) (f2 + 1)) (f3 + 1)) (f4 + 1000000) else min (min (f1 + z) (f2 + 1)) (f3 + 1)) then code
        else if f2 + 1 = (if swapB x y i j = true then min (min (min (f1 + z) (f2 + 1)) (f3 + 1)) (f4 + 1000000) else min (min (f1 + z) (f2 + 1)) (f3 + 1)) then 45 else 43 := by
    intro code z z0 z1
    have e : (if swapB x y i j = true then min (min (min (f1 + z) (f2 + 1)) (f3 + 1)) (f4 + 1000000) else min (min (f1 + z) (f2 + 1)) (f3 + 1)) = min (min (f1 + z) (f2 + 1)) (f3 + 1) := by
      split
      · omega
      · rfl
    rw [e]
    have e2 : ∀ l : List (Nat × Int), (l = [] ∨ l = [(120, f4 + 1000000)]) → (List.foldl betterO (code, f1 + z) ([(45, f2 + 1), (43, f3 + 1)] ++ l)) = betterO (betterO (code, f1 + z) (45, f2 + 1)) (43, f3 + 1) := by
      intro l hl
      rcases hl with rfl | rfl
      · rfl
      · show betterO (betterO (betterO (code, f1 + z) (45, f2 + 1)) (43, f3 + 1)) (120, f4 + 1000000) = _
        have hle := (betterO_le (betterO (code, f1 + z) (45, f2 + 1)) (43, f3 + 1)).2.1
        generalize betterO (betterO (code, f1 + z) (45, f2 + 1)) (43, f3 + 1) = u at *
        unfold betterO
        rw [if_neg]
        simp only at hle ⊢
        omega
    rw [e2 _ (by split; exact .inr rfl; exact .inl rfl)]
    unfold betterO
    by_cases a1 : f2 + 1 < f1 + z
    · simp only [a1, if_true]
      by_cases a2 : f3 + 1 < f2 + 1
      · simp only [a2, if_true]
        rw [if_neg (by omega), if_neg (by omega)]
      · simp only [a2, if_false]
        rw [if_neg (by omega), if_pos (by omega)]
    · simp only [a1, if_false]
      by_cases a2 : f3 + 1 < f1 + z
      · simp only [a2, if_true]
        rw [if_neg (by omega), if_neg (by omega)]
      · simp only [a2, if_false]
        rw [if_pos (by omega)]
  by_cases h : x i = y j
  · simp only [h, if_true]
    exact key 61 0 (by omega) (by omega)
  · simp only [h, if_false]
    exact key 33 1 (by omega) (by omega)
/-- All steps, as a text. -/
def stepsL (a b : ByteArray) : List Nat := backE (stepE (bx a) (bx b)) (a.size + b.size) a.size b.size
def textL (l : List Nat) : ByteArray := ⟨(l.map (fun c => UInt8.ofNat c)).toArray⟩
def vEditSteps1 (a b : ByteArray) : Bool := textB a && textB b
def vEditSteps0 (a b : ByteArray) : ByteArray := if vEditSteps1 a b then textL (stepsL a b).reverse else ⟨#[]⟩
end Go.Proofs.Ytcnamfjojdjjgaa
