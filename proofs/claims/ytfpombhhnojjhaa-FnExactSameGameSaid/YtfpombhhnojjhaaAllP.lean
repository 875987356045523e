/- All numbers of a row, and all fours of a row, have what is asked. -/
import Derived.Test.YtfpombhhnojjhaaIn
import Derived.Test.YtfpombhhnojjhaaOwn
set_option linter.unusedVariables false
namespace Go.Proofs.Ytfpombhhnojjhaa
open Go.RowKit
/-- All of the first n of f are as told. -/
def allP {α : Type} (p : α → Bool) (f : Nat → α) (n : Nat) : Bool := (List.range n).all fun i => p (f i)
theorem allP_iff {α : Type} {p : α → Bool} {f : Nat → α} {n : Nat} : allP p f n = true ↔ ∀ i, i < n → p (f i) = true := by
  unfold allP; rw [List.all_eq_true]; simp
theorem allP_no {α : Type} {p : α → Bool} {f : Nat → α} {n k : Nat} (hk : k < n) (h : p (f k) = false) : allP p f n = false := by
  cases e : allP p f n
  · rfl
  · rw [allP_iff.1 e k hk] at h; cases h
/-- All of the first n fours of f are as told. -/
def allQ (p : Int → Int → Int → Int → Bool) (f : Nat → Int) (n : Nat) : Bool := (List.range n).all fun i => p (f (i * 4)) (f (i * 4 + 1)) (f (i * 4 + 2)) (f (i * 4 + 3))
theorem allQ_iff {p : Int → Int → Int → Int → Bool} {f : Nat → Int} {n : Nat} : allQ p f n = true ↔ ∀ i, i < n → p (f (i * 4)) (f (i * 4 + 1)) (f (i * 4 + 2)) (f (i * 4 + 3)) = true := by
  unfold allQ; rw [List.all_eq_true]; simp
theorem allQ_no {p : Int → Int → Int → Int → Bool} {f : Nat → Int} {n k : Nat} (hk : k < n) (h : p (f (k * 4)) (f (k * 4 + 1)) (f (k * 4 + 2)) (f (k * 4 + 3)) = false) : allQ p f n = false := by
  cases e : allQ p f n
  · rfl
  · rw [allQ_iff.1 e k hk] at h; cases h
/-- A number from 0 to a bound. -/
def letP (l : Int) (x : Int) : Bool := inB x 0 (l - 1)
/-- The index that a search answers: not below 0 where b says so. -/
def IdxRes (b : Bool) (r : Nat) (e : Ending) : Prop := ∃ i : Int, e = .returned (.int .i64 i) ∧ (decide (0 ≤ i)) = b ∧ -1 ≤ i ∧ i ≤ r
end Go.Proofs.Ytfpombhhnojjhaa
