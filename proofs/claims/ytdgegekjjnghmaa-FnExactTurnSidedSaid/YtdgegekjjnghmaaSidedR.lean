/- Results of the type Sided, and whether it succeeds. -/
import Derived.Test.YtdgegekjjnghmaaBoxFN
import Derived.Test.YtdgegekjjnghmaaIRes
set_option linter.unusedVariables false
namespace Go.Proofs.Ytdgegekjjnghmaa
open Go.RowKit
/-- What a call returns: rows of its own, in blocks of their own. -/
def SidedRes (w w' : World) (e : Ending) (v : Bool) (s l : Int) (n m : Nat) (f : Nat → Int) (g : Nat → Bool) : Prop :=
  ∃ (A : Option Addr) (c : Nat) (B : Option Addr) (d : Nat) (e1 e2 : Nat), e = .returned (.tuple #[.agg #[.int .i64 s, .int .i64 l, .slice A n c, .slice B m d], .bool v]) ∧
    (w.heap.size ≤ e1 ∧ w.heap.size ≤ e2) ∧ (e1 ≠ e2) ∧ OwnC w' e1 A (n * 4) (fun i => .int .i64 (f i)) ∧ OwnC w' e2 B m (fun i => .bool (g i)) ∧ Below w.heap.size w w'
theorem SidedRes.none_ {w w' : World} {e : Ending} {s l : Int} {n m : Nat} {f : Nat → Int} {g : Nat → Bool} (he : e = .returned (.tuple #[.agg #[.int .i64 0, .int .i64 0, .slice none 0 0, .slice none 0 0], .bool false])) (hb : Below w.heap.size w w') :
    SidedRes w w' e false (ifI false s) (ifI false l) (ifN false n) (ifN false m) f g :=
  ⟨none, 0, none, 0, w.heap.size, w.heap.size + 1, he, ⟨by omega, by omega⟩, by omega, by unfold ifN; simp only [Bool.false_eq_true, if_false, Nat.zero_mul]; exact OwnC.zero, by unfold ifN; simp only [Bool.false_eq_true, if_false]; exact OwnC.zero, hb⟩
/-- Rows in blocks of their own, the empty ones wherever there is room. -/
theorem SidedRes.make {w w' : World} {lo e1 e2 n c m d : Nat} {s l : Int} {A : Option Addr} {B : Option Addr} {f : Nat → Int} {g : Nat → Bool}
    (hlo : w.heap.size ≤ lo) (l1 : lo ≤ e1) (l2 : lo ≤ e2)
    (d12 : 0 < (n * 4) → 0 < m → e1 ≠ e2)
    (a1 : OwnC w' e1 A (n * 4) (fun i => .int .i64 (f i))) (a2 : OwnC w' e2 B m (fun i => .bool (g i))) (hb : Below w.heap.size w w') :
    SidedRes w w' (.returned (.tuple #[.agg #[.int .i64 s, .int .i64 l, .slice A n c, .slice B m d], .bool true])) true (ifI true s) (ifI true l) (ifN true n) (ifN true m) f g := by
  have h1 := a1.lt
  have h2 := a2.lt
  have hs := hb.size
  refine ⟨A, c, B, d, if (n * 4) = 0 then w'.heap.size + lo + 0 else e1, if m = 0 then w'.heap.size + lo + 1 else e2, rfl, ?_, ?_, ?_, ?_, hb⟩
  · refine ⟨?_, ?_⟩ <;> split <;> omega
  · split <;> split <;> omega
  · unfold ifN; simp only [if_true]
    split
    · rename_i h; rw [h]; exact OwnC.zero
    · exact a1
  · unfold ifN; simp only [if_true]
    split
    · rename_i h; rw [h]; exact OwnC.zero
    · exact a2
end Go.Proofs.Ytdgegekjjnghmaa
