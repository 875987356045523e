/- Bounds of numbers: both sides. -/
import Derived.Test.YtfpombhhnojjhaaChecked
import Derived.Lib.Hide
import Derived.LoopTactic
import Derived.Deep.Draws
import Derived.OwnWalk
import Derived.WalkKit
import Derived.Deep.QuietTactic
import Derived.Below
set_option linter.unusedVariables false
namespace Go.Proofs.Ytfpombhhnojjhaa
open Go.RowKit

/-- n is from a to b. -/
def inB (n a b : Int) : Bool := decide (a ≤ n) && decide (n ≤ b)
theorem inB_iff {n a b : Int} : inB n a b = true ↔ a ≤ n ∧ n ≤ b := by unfold inB; simp
theorem inB_no {n a b : Int} (h : inB n a b = false) : ¬ (a ≤ n ∧ n ≤ b) := by rw [← inB_iff, h]; simp

theorem l00In_any (n a b : Int) (w : World) : Calls Try.prog 130 #[.int .i64 n, .int .i64 a, .int .i64 b] w fun e w' => e = .returned (.bool (inB n a b)) ∧ w = w' := by
  by_cases h1 : a ≤ n
  · by_cases h2 : n ≤ b
    · have e : inB n a b = true := inB_iff.2 ⟨h1, h2⟩
      rw [e]
      clear e
      go_enter Try.func130, Try.ntmps130
      go_wp2
      go_ret
      exact ⟨rfl, rfl⟩
    · have e : inB n a b = false := by unfold inB; simp [h2]
      rw [e]
      clear e
      go_enter Try.func130, Try.ntmps130
      go_wp2
      go_ret
      exact ⟨rfl, rfl⟩
  · have e : inB n a b = false := by unfold inB; simp [h1]
    rw [e]
    clear e
    go_enter Try.func130, Try.ntmps130
    go_wp2
    go_ret
    exact ⟨rfl, rfl⟩
theorem between_any (n a b : Int) (w : World) : Calls Try.prog 96 #[.int .i64 n, .int .i64 a, .int .i64 b] w fun e w' => e = .returned (.bool (inB n a b)) ∧ w = w' := by
  by_cases h1 : a ≤ n
  · by_cases h2 : n ≤ b
    · have e : inB n a b = true := inB_iff.2 ⟨h1, h2⟩
      rw [e]
      clear e
      go_enter Try.func96, Try.ntmps96
      go_wp2
      go_ret
      exact ⟨rfl, rfl⟩
    · have e : inB n a b = false := by unfold inB; simp [h2]
      rw [e]
      clear e
      go_enter Try.func96, Try.ntmps96
      go_wp2
      go_ret
      exact ⟨rfl, rfl⟩
  · have e : inB n a b = false := by unfold inB; simp [h1]
    rw [e]
    clear e
    go_enter Try.func96, Try.ntmps96
    go_wp2
    go_ret
    exact ⟨rfl, rfl⟩
theorem l00In_is {n a b : Int} {r : Bool} (h : inB n a b = r) (w : World) : Calls Try.prog 130 #[.int .i64 n, .int .i64 a, .int .i64 b] w fun e w' => e = .returned (.bool r) ∧ w' = w :=
  (l00In_any n a b w).mono fun e w' q => ⟨by rw [q.1, h], q.2.symm⟩
theorem between_is {n a b : Int} {r : Bool} (h : inB n a b = r) (w : World) : Calls Try.prog 96 #[.int .i64 n, .int .i64 a, .int .i64 b] w fun e w' => e = .returned (.bool r) ∧ w' = w :=
  (between_any n a b w).mono fun e w' q => ⟨by rw [q.1, h], q.2.symm⟩
end Go.Proofs.Ytfpombhhnojjhaa
