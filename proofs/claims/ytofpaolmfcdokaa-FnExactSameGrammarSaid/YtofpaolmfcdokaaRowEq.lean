/- Rows compared: the library's and the reference's. -/
import Derived.Test.YtofpaolmfcdokaaOwn
import Derived.Test.YtofpaolmfcdokaaCells
set_option linter.unusedVariables false
namespace Go.Proofs.Ytofpaolmfcdokaa
open Go.RowKit

/-- The first n of f are the first m of g. -/
def rowEqB {α : Type} [DecidableEq α] (f g : Nat → α) (n m : Nat) : Bool := decide (n = m) && (List.range n).all fun i => decide (f i = g i)
section
variable {α : Type} [DecidableEq α] {f g : Nat → α} {n m k : Nat}
theorem rowEqB_iff : rowEqB f g n m = true ↔ n = m ∧ ∀ i, i < n → f i = g i := by
  unfold rowEqB
  simp [List.all_eq_true]
theorem rowEqB_len (h : ¬ n = m) : rowEqB f g n m = false := by unfold rowEqB; simp [h]
theorem rowEqB_at (hk : k < n) (h : ¬ f k = g k) : rowEqB f g n m = false := by
  cases e : rowEqB f g n m
  · rfl
  · exact absurd ((rowEqB_iff.1 e).2 k hk) h
theorem rowEqB_refl : rowEqB f f n n = true := rowEqB_iff.2 ⟨rfl, fun _ _ => rfl⟩
end

end Go.Proofs.Ytofpaolmfcdokaa
