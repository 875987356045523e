/- Rows of structs of four numbers compared: the numbers. -/
import Derived.Test.YteagfbedbbnomaaRowEq
set_option linter.unusedVariables false
namespace Go.Proofs.Yteagfbedbbnomaa
open Go.RowKit

/-- Four numbers of two rows are the same. -/
def quadB (f g : Nat → Int) (k : Nat) : Bool := decide (f (k * 4) = g (k * 4)) && (decide (f (k * 4 + 1) = g (k * 4 + 1)) && (decide (f (k * 4 + 2) = g (k * 4 + 2)) && decide (f (k * 4 + 3) = g (k * 4 + 3))))
def arcEqB (f g : Nat → Int) (n m : Nat) : Bool := decide (n = m) && (List.range n).all fun i => quadB f g i
section
variable {f g : Nat → Int} {n m k : Nat}
theorem arcEqB_iff : arcEqB f g n m = true ↔ n = m ∧ ∀ i, i < n → quadB f g i = true := by
  unfold arcEqB
  simp [List.all_eq_true]
theorem arcEqB_len (h : ¬ n = m) : arcEqB f g n m = false := by unfold arcEqB; simp [h]
theorem arcEqB_at (hk : k < n) (h : quadB f g k = false) : arcEqB f g n m = false := by
  cases e : arcEqB f g n m
  · rfl
  · rw [(arcEqB_iff.1 e).2 k hk] at h; cases h
end
end Go.Proofs.Yteagfbedbbnomaa
