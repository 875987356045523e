/- Results of the type Zone, and whether it succeeds. -/
import Derived.Test.YtfpombhhnojjhaaBoxFN
import Derived.Test.YtfpombhhnojjhaaIRes
set_option linter.unusedVariables false
namespace Go.Proofs.Ytfpombhhnojjhaa
open Go.RowKit
/-- What a call returns: rows of its own, in blocks of their own. -/
def ZoneRes (w w' : World) (e : Ending) (v : Bool) (s : Int) (n : Nat) (f : Nat → Int) : Prop :=
  ∃ (A : Option Addr) (c : Nat) (e1 : Nat), e = .returned (.tuple #[.agg #[.int .i64 s, .slice A n c], .bool v]) ∧
    w.heap.size ≤ e1 ∧ True ∧ OwnC w' e1 A n (fun i => .int .i64 (f i)) ∧ Below w.heap.size w w'
theorem ZoneRes.none_ {w w' : World} {e : Ending} {s : Int} {n : Nat} {f : Nat → Int} (he : e = .returned (.tuple #[.agg #[.int .i64 0, .slice none 0 0], .bool false])) (hb : Below w.heap.size w w') :
    ZoneRes w w' e false (ifI false s) (ifN false n) f :=
  ⟨none, 0, w.heap.size, he, Nat.le_refl _, trivial, by unfold ifN; simp only [Bool.false_eq_true, if_false]; exact OwnC.zero, hb⟩
end Go.Proofs.Ytfpombhhnojjhaa
