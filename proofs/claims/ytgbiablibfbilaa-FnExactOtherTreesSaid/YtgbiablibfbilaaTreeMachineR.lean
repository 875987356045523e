/- Results of the type TreeMachine, and whether it succeeds. -/
import Derived.Test.YtgbiablibfbilaaBoxFN
import Derived.Test.YtgbiablibfbilaaIRes
set_option linter.unusedVariables false
namespace Go.Proofs.Ytgbiablibfbilaa
open Go.RowKit
/-- What a call returns: rows of its own, in blocks of their own. -/
def TreeMachineRes (w w' : World) (e : Ending) (v : Bool) (s l : Int) (n m o : Nat) (f : Nat → Int) (g : Nat → Int) (h : Nat → Bool) : Prop :=
  ∃ (A : Option Addr) (c : Nat) (B : Option Addr) (d : Nat) (C : Option Addr) (q : Nat) (e1 e2 e3 : Nat), e = .returned (.tuple #[.agg #[.int .i64 s, .int .i64 l, .slice A n c, .slice B m d, .slice C o q], .bool v]) ∧
    (w.heap.size ≤ e1 ∧ w.heap.size ≤ e2 ∧ w.heap.size ≤ e3) ∧ (e1 ≠ e2 ∧ e1 ≠ e3 ∧ e2 ≠ e3) ∧ OwnC w' e1 A n (fun i => .int .i64 (f i)) ∧ OwnC w' e2 B m (fun i => .int .i64 (g i)) ∧ OwnC w' e3 C o (fun i => .bool (h i)) ∧ Below w.heap.size w w'
theorem TreeMachineRes.none_ {w w' : World} {e : Ending} {s l : Int} {n m o : Nat} {f : Nat → Int} {g : Nat → Int} {h : Nat → Bool} (he : e = .returned (.tuple #[.agg #[.int .i64 0, .int .i64 0, .slice none 0 0, .slice none 0 0, .slice none 0 0], .bool false])) (hb : Below w.heap.size w w') :
    TreeMachineRes w w' e false (ifI false s) (ifI false l) (ifN false n) (ifN false m) (ifN false o) f g h :=
  ⟨none, 0, none, 0, none, 0, w.heap.size, w.heap.size + 1, w.heap.size + 2, he, ⟨by omega, by omega, by omega⟩, ⟨by omega, by omega, by omega⟩, by unfold ifN; simp only [Bool.false_eq_true, if_false]; exact OwnC.zero, by unfold ifN; simp only [Bool.false_eq_true, if_false]; exact OwnC.zero, by unfold ifN; simp only [Bool.false_eq_true, if_false]; exact OwnC.zero, hb⟩
/-- Rows in blocks of their own, the empty ones wherever there is room. -/
theorem TreeMachineRes.make {w w' : World} {lo e1 e2 e3 n c m d o q : Nat} {s l : Int} {A : Option Addr} {B : Option Addr} {C : Option Addr} {f : Nat → Int} {g : Nat → Int} {h : Nat → Bool}
    (hlo : w.heap.size ≤ lo) (l1 : lo ≤ e1) (l2 : lo ≤ e2) (l3 : lo ≤ e3)
    (d12 : 0 < n → 0 < m → e1 ≠ e2) (d13 : 0 < n → 0 < o → e1 ≠ e3) (d23 : 0 < m → 0 < o → e2 ≠ e3)
    (a1 : OwnC w' e1 A n (fun i => .int .i64 (f i))) (a2 : OwnC w' e2 B m (fun i => .int .i64 (g i))) (a3 : OwnC w' e3 C o (fun i => .bool (h i))) (hb : Below w.heap.size w w') :
    TreeMachineRes w w' (.returned (.tuple #[.agg #[.int .i64 s, .int .i64 l, .slice A n c, .slice B m d, .slice C o q], .bool true])) true (ifI true s) (ifI true l) (ifN true n) (ifN true m) (ifN true o) f g h := by
  have h1 := a1.lt
  have h2 := a2.lt
  have h3 := a3.lt
  have hs := hb.size
  refine ⟨A, c, B, d, C, q, if n = 0 then w'.heap.size + lo + 0 else e1, if m = 0 then w'.heap.size + lo + 1 else e2, if o = 0 then w'.heap.size + lo + 2 else e3, rfl, ?_, ?_, ?_, ?_, ?_, hb⟩
  · refine ⟨?_, ?_, ?_⟩ <;> split <;> omega
  · refine ⟨?_, ?_, ?_⟩ <;> split <;> split <;> omega
  · unfold ifN; simp only [if_true]
    split
    · rename_i h; rw [h]; exact OwnC.zero
    · exact a1
  · unfold ifN; simp only [if_true]
    split
    · rename_i h; rw [h]; exact OwnC.zero
    · exact a2
  · unfold ifN; simp only [if_true]
    split
    · rename_i h; rw [h]; exact OwnC.zero
    · exact a3
end Go.Proofs.Ytgbiablibfbilaa
