/- Results that are rows of numbers; rows of numbers that grow. -/
import Derived.Test.YtfpombhhnojjhaaOwn
import Derived.Test.YtfpombhhnojjhaaAppend
import Derived.Test.YtfpombhhnojjhaaClone
set_option linter.unusedVariables false
namespace Go.Proofs.Ytfpombhhnojjhaa
open Go.RowKit

/-- A row of numbers and whether it succeeds. -/
def IRes (w w' : World) (e : Ending) (v : Bool) (n : Nat) (F : Nat → Int) : Prop :=
  ∃ (A : Option Addr) (c g : Nat), e = .returned (.tuple #[.slice A n c, .bool v]) ∧ w.heap.size ≤ g ∧ True ∧ OwnC w' g A n (fun i => .int .i64 (F i)) ∧ Below w.heap.size w w'
def ifN (v : Bool) (x : Nat) : Nat := if v then x else 0
theorem ifN_le (v : Bool) (x : Nat) : ifN v x ≤ x := by unfold ifN; cases v <;> simp
theorem IRes.none_ {w w' : World} {e : Ending} {n : Nat} {F : Nat → Int} (he : e = .returned (.tuple #[.slice none 0 0, .bool false])) (hb : Below w.heap.size w w') : IRes w w' e false (ifN false n) F :=
  ⟨none, 0, w.heap.size, he, Nat.le_refl _, trivial, by unfold ifN; simp only [Bool.false_eq_true, if_false]; exact OwnC.zero, hb⟩
/-- Numbers as values. -/
def valsI (L : List Int) : List Value := L.map (Value.int .i64)
theorem valsI_len (L : List Int) : (valsI L).length = L.length := by unfold valsI; simp
theorem valsI_add (L : List Int) (x : Int) : valsI L ++ listV (1 * 1) (fun _ => .int .i64 x) = valsI (L ++ [x]) := by unfold valsI listV; simp
/-- A literal of one value. -/
theorem cells_lit1 {w : World} {t : TypeId} {a : Value} {N : Nat} (h : w.heap.size = N) : Cells (w.alloc (.cells #[a] t)) (some ⟨N, 0, none⟩) (1 * 1) (fun _ => a) := by
  subst h
  intro k hk
  obtain rfl : k = 0 := by omega
  exact ⟨_, rfl, by rw [add0]; simp [go_sem]⟩
/-- A row that has grown, as cells of the call's own. -/
theorem own_valsI {w : World} {base n : Nat} {e : TypeId} {v : Value} {L : List Int} (h : w.ownsRow base e 1 v n (valsI L)) (hn : n = L.length) :
    ∃ (A : Option Addr) (c g : Nat), v = .slice A n c ∧ base ≤ g ∧ OwnC w g A n (fun i => .int .i64 (L.getD i 0)) := by
  obtain ⟨A, c, g, h1, h2, h3⟩ := OwnC.of_rowV h
  rw [Nat.mul_one] at h3
  refine ⟨A, c, g, h1, h2, h3.congr fun i hi => ?_⟩
  have hi' : i < L.length := by omega
  unfold valsI
  simp [List.getD, hi']
theorem IRes.row {w w' : World} {n : Nat} {e : TypeId} {v : Value} {L : List Int} (h : w'.ownsRow w.heap.size e 1 v n (valsI L)) (hn : n = L.length) (hb : Below w.heap.size w w') :
    ∃ A c, v = .slice A n c ∧ IRes w w' (.returned (.tuple #[.slice A n c, .bool true])) true (ifN true n) (fun i => L.getD i 0) := by
  obtain ⟨A, c, g, h1, h2, h3⟩ := own_valsI h hn
  exact ⟨A, c, h1, A, c, g, rfl, h2, trivial, h3, hb⟩
end Go.Proofs.Ytfpombhhnojjhaa
