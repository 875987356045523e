/- Zones compared, on both sides. -/
import Derived.Test.YtpelmfanchkpeaaRowEq
import Derived.Test.YtpelmfanchkpeaaZoneM
set_option linter.unusedVariables false
namespace Go.Proofs.Ytpelmfanchkpeaa
open Go.RowKit

def sameZoneB (s s2 : Int) (f f2 : Nat → Int) (n n2 : Nat) : Bool := decide (s = s2) && (rowEqB f f2 n n2)
theorem implSameZone_any
  (s : Int) (A : Option Addr) (n c : Nat) (f : Nat → Int) (s2 : Int) (A2 : Option Addr) (n2 c2 : Nat) (f2 : Nat → Int) (w : World)
  (hn : n ≤ 1048576) (hA : Cells w A n (fun i => .int .i64 (f i)))
  (hn2 : n2 ≤ 1048576) (hA2 : Cells w A2 n2 (fun i => .int .i64 (f2 i)))
  : Calls Try.prog 32 #[.agg #[.int .i64 s, .slice A n c], .agg #[.int .i64 s2, .slice A2 n2 c2]] w fun e w' => e = .returned (.bool (sameZoneB s s2 f f2 n n2)) ∧ Below w.heap.size w w' := by
  have HU := Lib.hid (show sameZoneB s s2 f f2 n n2 = (decide (s = s2) && (rowEqB f f2 n n2)) from rfl)
  have HF0 := Lib.hid (fun W y1 y2 => slicesEqualI_any A A2 n n2 c c2 f f2 W (by omega) (by omega) y1 y2)
  have hA := Lib.hid hA
  have hA2 := Lib.hid hA2
  generalize sameZoneB s s2 f f2 n n2 = r at *
  generalize rowEqB f f2 n n2 = r0 at *
  by_cases hs : s = s2
  rotate_left
  · have bs : (s == s2) = false := by simpa using hs
    go_enter Try.func32, Try.ntmps32
    go_wp2_with fail
    go_ret
    exact ⟨ret_bool (by rw [HU.out]; simp [hs]), (by repeat (first | with_reducible exact Below.refl _ _ | exact Hid.out (by with_reducible assumption) | refine Below.setCell ?_ (by simp <;> omega) _ | refine below_alloc ?_ _ | refine Below.alloc ?_ (by simp <;> omega) _ | refine Below.drew ?_ | refine below_drewN ?_ _ | exact Below.refl _ _))⟩
  subst hs
  go_enter Try.func32, Try.ntmps32
  go_wp2_with fail
  refine (HF0.out _ (hA.out.below (by repeat (first | with_reducible exact Below.refl _ _ | exact Hid.out (by with_reducible assumption) | refine Below.setCell ?_ (by simp <;> omega) _ | refine below_alloc ?_ _ | refine Below.alloc ?_ (by simp <;> omega) _ | refine Below.drew ?_ | refine below_drewN ?_ _ | exact Below.refl _ _))) (hA2.out.below (by repeat (first | with_reducible exact Below.refl _ _ | exact Hid.out (by with_reducible assumption) | refine Below.setCell ?_ (by simp <;> omega) _ | refine below_alloc ?_ _ | refine Below.alloc ?_ (by simp <;> omega) _ | refine Below.drew ?_ | refine below_drewN ?_ _ | exact Below.refl _ _)))).mono ?_
  rintro e w0 ⟨rfl, j0, rfl⟩
  go_wp2_with fail
  go_ret
  exact ⟨ret_bool (by rw [HU.out] <;> simp), (by repeat (first | with_reducible exact Below.refl _ _ | exact Hid.out (by with_reducible assumption) | refine Below.setCell ?_ (by simp <;> omega) _ | refine below_alloc ?_ _ | refine Below.alloc ?_ (by simp <;> omega) _ | refine Below.drew ?_ | refine below_drewN ?_ _ | exact Below.refl _ _))⟩
theorem specSameZone_any
  (s : Int) (A : Option Addr) (n c : Nat) (f : Nat → Int) (s2 : Int) (A2 : Option Addr) (n2 c2 : Nat) (f2 : Nat → Int) (w : World)
  (hn : n ≤ 1048576) (hA : Cells w A n (fun i => .int .i64 (f i)))
  (hn2 : n2 ≤ 1048576) (hA2 : Cells w A2 n2 (fun i => .int .i64 (f2 i)))
  : Calls Try.prog 31 #[.agg #[.int .i64 s, .slice A n c], .agg #[.int .i64 s2, .slice A2 n2 c2]] w fun e w' => e = .returned (.bool (sameZoneB s s2 f f2 n n2)) ∧ Below w.heap.size w w' := by
  have HU := Lib.hid (show sameZoneB s s2 f f2 n n2 = (decide (s = s2) && (rowEqB f f2 n n2)) from rfl)
  have HF0 := Lib.hid (fun W y1 y2 => l00Same_any A A2 n n2 c c2 f f2 W (by omega) (by omega) y1 y2)
  have hA := Lib.hid hA
  have hA2 := Lib.hid hA2
  generalize sameZoneB s s2 f f2 n n2 = r at *
  generalize rowEqB f f2 n n2 = r0 at *
  by_cases hs : s = s2
  rotate_left
  · have bs : (s == s2) = false := by simpa using hs
    go_enter Try.func31, Try.ntmps31
    go_wp2_with fail
    go_ret
    exact ⟨ret_bool (by rw [HU.out]; simp [hs]), (by repeat (first | with_reducible exact Below.refl _ _ | exact Hid.out (by with_reducible assumption) | refine Below.setCell ?_ (by simp <;> omega) _ | refine below_alloc ?_ _ | refine Below.alloc ?_ (by simp <;> omega) _ | refine Below.drew ?_ | refine below_drewN ?_ _ | exact Below.refl _ _))⟩
  subst hs
  go_enter Try.func31, Try.ntmps31
  go_wp2_with fail
  refine (HF0.out _ (hA.out.below (by repeat (first | with_reducible exact Below.refl _ _ | exact Hid.out (by with_reducible assumption) | refine Below.setCell ?_ (by simp <;> omega) _ | refine below_alloc ?_ _ | refine Below.alloc ?_ (by simp <;> omega) _ | refine Below.drew ?_ | refine below_drewN ?_ _ | exact Below.refl _ _))) (hA2.out.below (by repeat (first | with_reducible exact Below.refl _ _ | exact Hid.out (by with_reducible assumption) | refine Below.setCell ?_ (by simp <;> omega) _ | refine below_alloc ?_ _ | refine Below.alloc ?_ (by simp <;> omega) _ | refine Below.drew ?_ | refine below_drewN ?_ _ | exact Below.refl _ _)))).mono ?_
  rintro e w0 ⟨rfl, j0, rfl⟩
  go_wp2_with fail
  go_ret
  exact ⟨ret_bool (by rw [HU.out] <;> simp), (by repeat (first | with_reducible exact Below.refl _ _ | exact Hid.out (by with_reducible assumption) | refine Below.setCell ?_ (by simp <;> omega) _ | refine below_alloc ?_ _ | refine Below.alloc ?_ (by simp <;> omega) _ | refine Below.drew ?_ | refine below_drewN ?_ _ | exact Below.refl _ _))⟩
end Go.Proofs.Ytpelmfanchkpeaa
