/- Results of the type Grammar, and whether it succeeds. -/
import Derived.Test.YtofpaolmfcdokaaBoxFN
import Derived.Test.YtofpaolmfcdokaaIRes
set_option linter.unusedVariables false
namespace Go.Proofs.Ytofpaolmfcdokaa
open Go.RowKit
/-- What a call returns: rows of its own, in blocks of their own. -/
def GrammarRes (w w' : World) (e : Ending) (v : Bool) (s l : Int) (n : Nat) (f : Nat → Int) : Prop :=
  ∃ (A : Option Addr) (c : Nat) (e1 : Nat), e = .returned (.tuple #[.agg #[.int .i64 s, .int .i64 l, .slice A n c], .bool v]) ∧
    w.heap.size ≤ e1 ∧ True ∧ OwnC w' e1 A (n * 4) (fun i => .int .i64 (f i)) ∧ Below w.heap.size w w'
theorem GrammarRes.none_ {w w' : World} {e : Ending} {s l : Int} {n : Nat} {f : Nat → Int} (he : e = .returned (.tuple #[.agg #[.int .i64 0, .int .i64 0, .slice none 0 0], .bool false])) (hb : Below w.heap.size w w') :
    GrammarRes w w' e false (ifI false s) (ifI false l) (ifN false n) f :=
  ⟨none, 0, w.heap.size, he, Nat.le_refl _, trivial, by unfold ifN; simp only [Bool.false_eq_true, if_false, Nat.zero_mul]; exact OwnC.zero, hb⟩
end Go.Proofs.Ytofpaolmfcdokaa
