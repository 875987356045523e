/- Desks: whether they are valid, on both sides. -/
import Derived.Test.YteagfbedbbnomaaDeskM
import Derived.Test.YteagfbedbbnomaaMachV
import Derived.Test.YteagfbedbbnomaaPlainV5
import Derived.Test.YteagfbedbbnomaaGrmV9
import Derived.Test.YteagfbedbbnomaaWordC
set_option linter.unusedVariables false
namespace Go.Proofs.Yteagfbedbbnomaa
open Go.RowKit

/-- A valid desk. -/
def validD (s1 l1 s2 l2 s3 l3 : Int) (n1 n2 n3 n4 n5 n6 n7 : Nat) (f1 f2 f3 f4 : Nat → Int) (f5 : Nat → Bool) (f6 f7 : Nat → Int) : Bool :=
  validM s1 l1 n1 n2 n3 f1 f2 f3 && (decide (n1 ≤ 16) && (validP s2 l2 n4 n5 f4 && (decide (n4 ≤ 64) && (validG s3 l3 n6 f6 && (decide (n6 ≤ 16) && wordB f7 n7 3)))))
set_option maxHeartbeats 4000000 in
theorem implValidDesk_any (s1 l1 s2 l2 s3 l3 : Int) (A1 A2 A3 A4 A5 A6 A7 : Option Addr) (n1 c1 n2 c2 n3 c3 n4 c4 n5 c5 n6 c6 n7 c7 : Nat) (f1 f2 f3 f4 : Nat → Int) (f5 : Nat → Bool) (f6 f7 : Nat → Int) (w : World) (h1 : n1 ≤ 1048576) (h2 : n2 ≤ 1048576) (h3 : n3 ≤ 1048576) (h4 : n4 ≤ 1048576) (h5 : n5 ≤ 1048576) (h6 : n6 ≤ 1048576) (h7 : n7 ≤ 1048576) (k1 : Cells w A1 (n1 * 4) (fun i => .int .i64 (f1 i))) (k2 : Cells w A2 n2 (fun i => .int .i64 (f2 i))) (k3 : Cells w A3 n3 (fun i => .int .i64 (f3 i))) (k4 : Cells w A4 n4 (fun i => .int .i64 (f4 i))) (k5 : Cells w A5 n5 (fun i => .bool (f5 i))) (k6 : Cells w A6 (n6 * 4) (fun i => .int .i64 (f6 i))) (k7 : Cells w A7 n7 (fun i => .int .i64 (f7 i))) :
    Calls Try.prog 9 #[.agg #[.int .i64 s1, .int .i64 l1, .slice A1 n1 c1, .slice A2 n2 c2, .slice A3 n3 c3, .int .i64 s2, .int .i64 l2, .slice A4 n4 c4, .slice A5 n5 c5, .int .i64 s3, .int .i64 l3, .slice A6 n6 c6, .slice A7 n7 c7]] w fun e w' => e = .returned (.bool (validD s1 l1 s2 l2 s3 l3 n1 n2 n3 n4 n5 n6 n7 f1 f2 f3 f4 f5 f6 f7)) ∧ Below w.heap.size w w' := by
  have HU := Lib.hid (show validD s1 l1 s2 l2 s3 l3 n1 n2 n3 n4 n5 n6 n7 f1 f2 f3 f4 f5 f6 f7 = (validM s1 l1 n1 n2 n3 f1 f2 f3 && (decide (n1 ≤ 16) && (validP s2 l2 n4 n5 f4 && (decide (n4 ≤ 64) && (validG s3 l3 n6 f6 && (decide (n6 ≤ 16) && wordB f7 n7 3)))))) from rfl)
  have k1 := Lib.hid k1
  have k2 := Lib.hid k2
  have k3 := Lib.hid k3
  have k4 := Lib.hid k4
  have k5 := Lib.hid k5
  have k6 := Lib.hid k6
  have k7 := Lib.hid k7
  have HC0 := Lib.hid (fun W y1 y2 y3 => implValidMachine_any s1 l1 A1 A2 A3 n1 c1 n2 c2 n3 c3 f1 f2 f3 W h1 h2 h3 y1 y2 y3)
  have HC1 := Lib.hid (fun W y1 => implValidPlain_any s2 l2 A4 A5 n4 c4 n5 c5 f4 W (by omega) (by omega) y1)
  have HC2 := Lib.hid (fun W y1 => implValidGrammar_any s3 l3 A6 n6 c6 f6 W h6 y1)
  have HC3 := Lib.hid (fun W y1 => implIsWord_any A7 n7 c7 f7 4 W (by omega) y1)
  have HI4 : inB 4 1 4 = true := by decide
  rw [HI4, Bool.true_and, show (4 : Int) - 1 = 3 from rfl] at HC3
  clear HI4
  generalize validD s1 l1 s2 l2 s3 l3 n1 n2 n3 n4 n5 n6 n7 f1 f2 f3 f4 f5 f6 f7 = r at *
  generalize validM s1 l1 n1 n2 n3 f1 f2 f3 = r0 at *
  generalize validP s2 l2 n4 n5 f4 = r1 at *
  generalize validG s3 l3 n6 f6 = r2 at *
  generalize wordB f7 n7 3 = r3 at *
  cases r0
  · skip
    go_enter Try.func9, Try.ntmps9
    go_wp2_with fail
    refine (HC0.out _ (k1.out.below (by repeat (first | with_reducible exact Below.refl _ _ | exact Hid.out (by with_reducible assumption) | refine Below.setCell ?_ (by simp <;> omega) _ | refine below_alloc ?_ _ | refine Below.alloc ?_ (by simp <;> omega) _ | refine Below.drew ?_ | refine below_drewN ?_ _))) (k2.out.below (by repeat (first | with_reducible exact Below.refl _ _ | exact Hid.out (by with_reducible assumption) | refine Below.setCell ?_ (by simp <;> omega) _ | refine below_alloc ?_ _ | refine Below.alloc ?_ (by simp <;> omega) _ | refine Below.drew ?_ | refine below_drewN ?_ _))) (k3.out.below (by repeat (first | with_reducible exact Below.refl _ _ | exact Hid.out (by with_reducible assumption) | refine Below.setCell ?_ (by simp <;> omega) _ | refine below_alloc ?_ _ | refine Below.alloc ?_ (by simp <;> omega) _ | refine Below.drew ?_ | refine below_drewN ?_ _)))).mono ?_
    rintro e w1 ⟨rfl, hb⟩
    have N1 := Lib.hid (show Below w.heap.size w w1 from Below.trans (by repeat (first | with_reducible exact Below.refl _ _ | exact Hid.out (by with_reducible assumption) | refine Below.setCell ?_ (by simp <;> omega) _ | refine below_alloc ?_ _ | refine Below.alloc ?_ (by simp <;> omega) _ | refine Below.drew ?_ | refine below_drewN ?_ _)) (hb.mono (by simp)))
    have X1 := Lib.hid (Box13.below (Box13.new w 44 (.int .i64 s1) (.int .i64 l1) (.slice A1 n1 c1) (.slice A2 n2 c2) (.slice A3 n3 c3) (.int .i64 s2) (.int .i64 l2) (.slice A4 n4 c4) (.slice A5 n5 c5) (.int .i64 s3) (.int .i64 l3) (.slice A6 n6 c6) (.slice A7 n7 c7)) hb)
    obtain ⟨x0, x1, x2, x3, x4, x5, x6, x7, x8, x9, x10, x11, x12⟩ := X1.out
    clear hb
    go_wp2_with fail
    go_ret
    exact ⟨ret_bool (by rw [HU.out]; simp), (by repeat (first | with_reducible exact Below.refl _ _ | exact Hid.out (by with_reducible assumption) | refine Below.setCell ?_ (by simp <;> omega) _ | refine below_alloc ?_ _ | refine Below.alloc ?_ (by simp <;> omega) _ | refine Below.drew ?_ | refine below_drewN ?_ _))⟩
  by_cases q0 : n1 ≤ 16
  rotate_left
  · have d0 : ¬ (n1 : Int) ≤ 16 := by omega
    go_enter Try.func9, Try.ntmps9
    go_wp2_with fail
    refine (HC0.out _ (k1.out.below (by repeat (first | with_reducible exact Below.refl _ _ | exact Hid.out (by with_reducible assumption) | refine Below.setCell ?_ (by simp <;> omega) _ | refine below_alloc ?_ _ | refine Below.alloc ?_ (by simp <;> omega) _ | refine Below.drew ?_ | refine below_drewN ?_ _))) (k2.out.below (by repeat (first | with_reducible exact Below.refl _ _ | exact Hid.out (by with_reducible assumption) | refine Below.setCell ?_ (by simp <;> omega) _ | refine below_alloc ?_ _ | refine Below.alloc ?_ (by simp <;> omega) _ | refine Below.drew ?_ | refine below_drewN ?_ _))) (k3.out.below (by repeat (first | with_reducible exact Below.refl _ _ | exact Hid.out (by with_reducible assumption) | refine Below.setCell ?_ (by simp <;> omega) _ | refine below_alloc ?_ _ | refine Below.alloc ?_ (by simp <;> omega) _ | refine Below.drew ?_ | refine below_drewN ?_ _)))).mono ?_
    rintro e w1 ⟨rfl, hb⟩
    have N1 := Lib.hid (show Below w.heap.size w w1 from Below.trans (by repeat (first | with_reducible exact Below.refl _ _ | exact Hid.out (by with_reducible assumption) | refine Below.setCell ?_ (by simp <;> omega) _ | refine below_alloc ?_ _ | refine Below.alloc ?_ (by simp <;> omega) _ | refine Below.drew ?_ | refine below_drewN ?_ _)) (hb.mono (by simp)))
    have X1 := Lib.hid (Box13.below (Box13.new w 44 (.int .i64 s1) (.int .i64 l1) (.slice A1 n1 c1) (.slice A2 n2 c2) (.slice A3 n3 c3) (.int .i64 s2) (.int .i64 l2) (.slice A4 n4 c4) (.slice A5 n5 c5) (.int .i64 s3) (.int .i64 l3) (.slice A6 n6 c6) (.slice A7 n7 c7)) hb)
    obtain ⟨x0, x1, x2, x3, x4, x5, x6, x7, x8, x9, x10, x11, x12⟩ := X1.out
    clear hb
    go_wp2_with fail
    go_ret
    exact ⟨ret_bool (by rw [HU.out]; simp [q0]), (by repeat (first | with_reducible exact Below.refl _ _ | exact Hid.out (by with_reducible assumption) | refine Below.setCell ?_ (by simp <;> omega) _ | refine below_alloc ?_ _ | refine Below.alloc ?_ (by simp <;> omega) _ | refine Below.drew ?_ | refine below_drewN ?_ _))⟩
  have d0 : (n1 : Int) ≤ 16 := by omega
  cases r1
  · skip
    go_enter Try.func9, Try.ntmps9
    go_wp2_with fail
    refine (HC0.out _ (k1.out.below (by repeat (first | with_reducible exact Below.refl _ _ | exact Hid.out (by with_reducible assumption) | refine Below.setCell ?_ (by simp <;> omega) _ | refine below_alloc ?_ _ | refine Below.alloc ?_ (by simp <;> omega) _ | refine Below.drew ?_ | refine below_drewN ?_ _))) (k2.out.below (by repeat (first | with_reducible exact Below.refl _ _ | exact Hid.out (by with_reducible assumption) | refine Below.setCell ?_ (by simp <;> omega) _ | refine below_alloc ?_ _ | refine Below.alloc ?_ (by simp <;> omega) _ | refine Below.drew ?_ | refine below_drewN ?_ _))) (k3.out.below (by repeat (first | with_reducible exact Below.refl _ _ | exact Hid.out (by with_reducible assumption) | refine Below.setCell ?_ (by simp <;> omega) _ | refine below_alloc ?_ _ | refine Below.alloc ?_ (by simp <;> omega) _ | refine Below.drew ?_ | refine below_drewN ?_ _)))).mono ?_
    rintro e w1 ⟨rfl, hb⟩
    have N1 := Lib.hid (show Below w.heap.size w w1 from Below.trans (by repeat (first | with_reducible exact Below.refl _ _ | exact Hid.out (by with_reducible assumption) | refine Below.setCell ?_ (by simp <;> omega) _ | refine below_alloc ?_ _ | refine Below.alloc ?_ (by simp <;> omega) _ | refine Below.drew ?_ | refine below_drewN ?_ _)) (hb.mono (by simp)))
    have X1 := Lib.hid (Box13.below (Box13.new w 44 (.int .i64 s1) (.int .i64 l1) (.slice A1 n1 c1) (.slice A2 n2 c2) (.slice A3 n3 c3) (.int .i64 s2) (.int .i64 l2) (.slice A4 n4 c4) (.slice A5 n5 c5) (.int .i64 s3) (.int .i64 l3) (.slice A6 n6 c6) (.slice A7 n7 c7)) hb)
    obtain ⟨x0, x1, x2, x3, x4, x5, x6, x7, x8, x9, x10, x11, x12⟩ := X1.out
    clear hb
    go_wp2_with fail
    refine (HC1.out _ (k4.out.below (by repeat (first | with_reducible exact Below.refl _ _ | exact Hid.out (by with_reducible assumption) | refine Below.setCell ?_ (by simp <;> omega) _ | refine below_alloc ?_ _ | refine Below.alloc ?_ (by simp <;> omega) _ | refine Below.drew ?_ | refine below_drewN ?_ _)))).mono ?_
    rintro e w2 ⟨rfl, hb⟩
    have N2 := Lib.hid (show Below w.heap.size w w2 from Below.trans (by repeat (first | with_reducible exact Below.refl _ _ | exact Hid.out (by with_reducible assumption) | refine Below.setCell ?_ (by simp <;> omega) _ | refine below_alloc ?_ _ | refine Below.alloc ?_ (by simp <;> omega) _ | refine Below.drew ?_ | refine below_drewN ?_ _)) (hb.mono (by exact N1.out.size)))
    have X2 := Lib.hid (Box13.below X1.out hb)
    clear x0 x1 x2 x3 x4 x5 x6 x7 x8 x9 x10 x11 x12
    obtain ⟨x0, x1, x2, x3, x4, x5, x6, x7, x8, x9, x10, x11, x12⟩ := X2.out
    clear hb
    go_wp2_with fail
    go_ret
    exact ⟨ret_bool (by rw [HU.out]; simp), (by repeat (first | with_reducible exact Below.refl _ _ | exact Hid.out (by with_reducible assumption) | refine Below.setCell ?_ (by simp <;> omega) _ | refine below_alloc ?_ _ | refine Below.alloc ?_ (by simp <;> omega) _ | refine Below.drew ?_ | refine below_drewN ?_ _))⟩
  by_cases q1 : n4 ≤ 64
  rotate_left
  · have d1 : ¬ (n4 : Int) ≤ 64 := by omega
    go_enter Try.func9, Try.ntmps9
    go_wp2_with fail
    refine (HC0.out _ (k1.out.below (by repeat (first | with_reducible exact Below.refl _ _ | exact Hid.out (by with_reducible assumption) | refine Below.setCell ?_ (by simp <;> omega) _ | refine below_alloc ?_ _ | refine Below.alloc ?_ (by simp <;> omega) _ | refine Below.drew ?_ | refine below_drewN ?_ _))) (k2.out.below (by repeat (first | with_reducible exact Below.refl _ _ | exact Hid.out (by with_reducible assumption) | refine Below.setCell ?_ (by simp <;> omega) _ | refine below_alloc ?_ _ | refine Below.alloc ?_ (by simp <;> omega) _ | refine Below.drew ?_ | refine below_drewN ?_ _))) (k3.out.below (by repeat (first | with_reducible exact Below.refl _ _ | exact Hid.out (by with_reducible assumption) | refine Below.setCell ?_ (by simp <;> omega) _ | refine below_alloc ?_ _ | refine Below.alloc ?_ (by simp <;> omega) _ | refine Below.drew ?_ | refine below_drewN ?_ _)))).mono ?_
    rintro e w1 ⟨rfl, hb⟩
    have N1 := Lib.hid (show Below w.heap.size w w1 from Below.trans (by repeat (first | with_reducible exact Below.refl _ _ | exact Hid.out (by with_reducible assumption) | refine Below.setCell ?_ (by simp <;> omega) _ | refine below_alloc ?_ _ | refine Below.alloc ?_ (by simp <;> omega) _ | refine Below.drew ?_ | refine below_drewN ?_ _)) (hb.mono (by simp)))
    have X1 := Lib.hid (Box13.below (Box13.new w 44 (.int .i64 s1) (.int .i64 l1) (.slice A1 n1 c1) (.slice A2 n2 c2) (.slice A3 n3 c3) (.int .i64 s2) (.int .i64 l2) (.slice A4 n4 c4) (.slice A5 n5 c5) (.int .i64 s3) (.int .i64 l3) (.slice A6 n6 c6) (.slice A7 n7 c7)) hb)
    obtain ⟨x0, x1, x2, x3, x4, x5, x6, x7, x8, x9, x10, x11, x12⟩ := X1.out
    clear hb
    go_wp2_with fail
    refine (HC1.out _ (k4.out.below (by repeat (first | with_reducible exact Below.refl _ _ | exact Hid.out (by with_reducible assumption) | refine Below.setCell ?_ (by simp <;> omega) _ | refine below_alloc ?_ _ | refine Below.alloc ?_ (by simp <;> omega) _ | refine Below.drew ?_ | refine below_drewN ?_ _)))).mono ?_
    rintro e w2 ⟨rfl, hb⟩
    have N2 := Lib.hid (show Below w.heap.size w w2 from Below.trans (by repeat (first | with_reducible exact Below.refl _ _ | exact Hid.out (by with_reducible assumption) | refine Below.setCell ?_ (by simp <;> omega) _ | refine below_alloc ?_ _ | refine Below.alloc ?_ (by simp <;> omega) _ | refine Below.drew ?_ | refine below_drewN ?_ _)) (hb.mono (by exact N1.out.size)))
    have X2 := Lib.hid (Box13.below X1.out hb)
    clear x0 x1 x2 x3 x4 x5 x6 x7 x8 x9 x10 x11 x12
    obtain ⟨x0, x1, x2, x3, x4, x5, x6, x7, x8, x9, x10, x11, x12⟩ := X2.out
    clear hb
    go_wp2_with fail
    go_ret
    exact ⟨ret_bool (by rw [HU.out]; simp [q1]), (by repeat (first | with_reducible exact Below.refl _ _ | exact Hid.out (by with_reducible assumption) | refine Below.setCell ?_ (by simp <;> omega) _ | refine below_alloc ?_ _ | refine Below.alloc ?_ (by simp <;> omega) _ | refine Below.drew ?_ | refine below_drewN ?_ _))⟩
  have d1 : (n4 : Int) ≤ 64 := by omega
  cases r2
  · skip
    go_enter Try.func9, Try.ntmps9
    go_wp2_with fail
    refine (HC0.out _ (k1.out.below (by repeat (first | with_reducible exact Below.refl _ _ | exact Hid.out (by with_reducible assumption) | refine Below.setCell ?_ (by simp <;> omega) _ | refine below_alloc ?_ _ | refine Below.alloc ?_ (by simp <;> omega) _ | refine Below.drew ?_ | refine below_drewN ?_ _))) (k2.out.below (by repeat (first | with_reducible exact Below.refl _ _ | exact Hid.out (by with_reducible assumption) | refine Below.setCell ?_ (by simp <;> omega) _ | refine below_alloc ?_ _ | refine Below.alloc ?_ (by simp <;> omega) _ | refine Below.drew ?_ | refine below_drewN ?_ _))) (k3.out.below (by repeat (first | with_reducible exact Below.refl _ _ | exact Hid.out (by with_reducible assumption) | refine Below.setCell ?_ (by simp <;> omega) _ | refine below_alloc ?_ _ | refine Below.alloc ?_ (by simp <;> omega) _ | refine Below.drew ?_ | refine below_drewN ?_ _)))).mono ?_
    rintro e w1 ⟨rfl, hb⟩
    have N1 := Lib.hid (show Below w.heap.size w w1 from Below.trans (by repeat (first | with_reducible exact Below.refl _ _ | exact Hid.out (by with_reducible assumption) | refine Below.setCell ?_ (by simp <;> omega) _ | refine below_alloc ?_ _ | refine Below.alloc ?_ (by simp <;> omega) _ | refine Below.drew ?_ | refine below_drewN ?_ _)) (hb.mono (by simp)))
    have X1 := Lib.hid (Box13.below (Box13.new w 44 (.int .i64 s1) (.int .i64 l1) (.slice A1 n1 c1) (.slice A2 n2 c2) (.slice A3 n3 c3) (.int .i64 s2) (.int .i64 l2) (.slice A4 n4 c4) (.slice A5 n5 c5) (.int .i64 s3) (.int .i64 l3) (.slice A6 n6 c6) (.slice A7 n7 c7)) hb)
    obtain ⟨x0, x1, x2, x3, x4, x5, x6, x7, x8, x9, x10, x11, x12⟩ := X1.out
    clear hb
    go_wp2_with fail
    refine (HC1.out _ (k4.out.below (by repeat (first | with_reducible exact Below.refl _ _ | exact Hid.out (by with_reducible assumption) | refine Below.setCell ?_ (by simp <;> omega) _ | refine below_alloc ?_ _ | refine Below.alloc ?_ (by simp <;> omega) _ | refine Below.drew ?_ | refine below_drewN ?_ _)))).mono ?_
    rintro e w2 ⟨rfl, hb⟩
    have N2 := Lib.hid (show Below w.heap.size w w2 from Below.trans (by repeat (first | with_reducible exact Below.refl _ _ | exact Hid.out (by with_reducible assumption) | refine Below.setCell ?_ (by simp <;> omega) _ | refine below_alloc ?_ _ | refine Below.alloc ?_ (by simp <;> omega) _ | refine Below.drew ?_ | refine below_drewN ?_ _)) (hb.mono (by exact N1.out.size)))
    have X2 := Lib.hid (Box13.below X1.out hb)
    clear x0 x1 x2 x3 x4 x5 x6 x7 x8 x9 x10 x11 x12
    obtain ⟨x0, x1, x2, x3, x4, x5, x6, x7, x8, x9, x10, x11, x12⟩ := X2.out
    clear hb
    go_wp2_with fail
    refine (HC2.out _ (k6.out.below (by repeat (first | with_reducible exact Below.refl _ _ | exact Hid.out (by with_reducible assumption) | refine Below.setCell ?_ (by simp <;> omega) _ | refine below_alloc ?_ _ | refine Below.alloc ?_ (by simp <;> omega) _ | refine Below.drew ?_ | refine below_drewN ?_ _)))).mono ?_
    rintro e w3 ⟨rfl, hb⟩
    have N3 := Lib.hid (show Below w.heap.size w w3 from Below.trans (by repeat (first | with_reducible exact Below.refl _ _ | exact Hid.out (by with_reducible assumption) | refine Below.setCell ?_ (by simp <;> omega) _ | refine below_alloc ?_ _ | refine Below.alloc ?_ (by simp <;> omega) _ | refine Below.drew ?_ | refine below_drewN ?_ _)) (hb.mono (by exact N2.out.size)))
    have X3 := Lib.hid (Box13.below X2.out hb)
    clear x0 x1 x2 x3 x4 x5 x6 x7 x8 x9 x10 x11 x12
    obtain ⟨x0, x1, x2, x3, x4, x5, x6, x7, x8, x9, x10, x11, x12⟩ := X3.out
    clear hb
    go_wp2_with fail
    go_ret
    exact ⟨ret_bool (by rw [HU.out]; simp), (by repeat (first | with_reducible exact Below.refl _ _ | exact Hid.out (by with_reducible assumption) | refine Below.setCell ?_ (by simp <;> omega) _ | refine below_alloc ?_ _ | refine Below.alloc ?_ (by simp <;> omega) _ | refine Below.drew ?_ | refine below_drewN ?_ _))⟩
  by_cases q2 : n6 ≤ 16
  rotate_left
  · have d2 : ¬ (n6 : Int) ≤ 16 := by omega
    go_enter Try.func9, Try.ntmps9
    go_wp2_with fail
    refine (HC0.out _ (k1.out.below (by repeat (first | with_reducible exact Below.refl _ _ | exact Hid.out (by with_reducible assumption) | refine Below.setCell ?_ (by simp <;> omega) _ | refine below_alloc ?_ _ | refine Below.alloc ?_ (by simp <;> omega) _ | refine Below.drew ?_ | refine below_drewN ?_ _))) (k2.out.below (by repeat (first | with_reducible exact Below.refl _ _ | exact Hid.out (by with_reducible assumption) | refine Below.setCell ?_ (by simp <;> omega) _ | refine below_alloc ?_ _ | refine Below.alloc ?_ (by simp <;> omega) _ | refine Below.drew ?_ | refine below_drewN ?_ _))) (k3.out.below (by repeat (first | with_reducible exact Below.refl _ _ | exact Hid.out (by with_reducible assumption) | refine Below.setCell ?_ (by simp <;> omega) _ | refine below_alloc ?_ _ | refine Below.alloc ?_ (by simp <;> omega) _ | refine Below.drew ?_ | refine below_drewN ?_ _)))).mono ?_
    rintro e w1 ⟨rfl, hb⟩
    have N1 := Lib.hid (show Below w.heap.size w w1 from Below.trans (by repeat (first | with_reducible exact Below.refl _ _ | exact Hid.out (by with_reducible assumption) | refine Below.setCell ?_ (by simp <;> omega) _ | refine below_alloc ?_ _ | refine Below.alloc ?_ (by simp <;> omega) _ | refine Below.drew ?_ | refine below_drewN ?_ _)) (hb.mono (by simp)))
    have X1 := Lib.hid (Box13.below (Box13.new w 44 (.int .i64 s1) (.int .i64 l1) (.slice A1 n1 c1) (.slice A2 n2 c2) (.slice A3 n3 c3) (.int .i64 s2) (.int .i64 l2) (.slice A4 n4 c4) (.slice A5 n5 c5) (.int .i64 s3) (.int .i64 l3) (.slice A6 n6 c6) (.slice A7 n7 c7)) hb)
    obtain ⟨x0, x1, x2, x3, x4, x5, x6, x7, x8, x9, x10, x11, x12⟩ := X1.out
    clear hb
    go_wp2_with fail
    refine (HC1.out _ (k4.out.below (by repeat (first | with_reducible exact Below.refl _ _ | exact Hid.out (by with_reducible assumption) | refine Below.setCell ?_ (by simp <;> omega) _ | refine below_alloc ?_ _ | refine Below.alloc ?_ (by simp <;> omega) _ | refine Below.drew ?_ | refine below_drewN ?_ _)))).mono ?_
    rintro e w2 ⟨rfl, hb⟩
    have N2 := Lib.hid (show Below w.heap.size w w2 from Below.trans (by repeat (first | with_reducible exact Below.refl _ _ | exact Hid.out (by with_reducible assumption) | refine Below.setCell ?_ (by simp <;> omega) _ | refine below_alloc ?_ _ | refine Below.alloc ?_ (by simp <;> omega) _ | refine Below.drew ?_ | refine below_drewN ?_ _)) (hb.mono (by exact N1.out.size)))
    have X2 := Lib.hid (Box13.below X1.out hb)
    clear x0 x1 x2 x3 x4 x5 x6 x7 x8 x9 x10 x11 x12
    obtain ⟨x0, x1, x2, x3, x4, x5, x6, x7, x8, x9, x10, x11, x12⟩ := X2.out
    clear hb
    go_wp2_with fail
    refine (HC2.out _ (k6.out.below (by repeat (first | with_reducible exact Below.refl _ _ | exact Hid.out (by with_reducible assumption) | refine Below.setCell ?_ (by simp <;> omega) _ | refine below_alloc ?_ _ | refine Below.alloc ?_ (by simp <;> omega) _ | refine Below.drew ?_ | refine below_drewN ?_ _)))).mono ?_
    rintro e w3 ⟨rfl, hb⟩
    have N3 := Lib.hid (show Below w.heap.size w w3 from Below.trans (by repeat (first | with_reducible exact Below.refl _ _ | exact Hid.out (by with_reducible assumption) | refine Below.setCell ?_ (by simp <;> omega) _ | refine below_alloc ?_ _ | refine Below.alloc ?_ (by simp <;> omega) _ | refine Below.drew ?_ | refine below_drewN ?_ _)) (hb.mono (by exact N2.out.size)))
    have X3 := Lib.hid (Box13.below X2.out hb)
    clear x0 x1 x2 x3 x4 x5 x6 x7 x8 x9 x10 x11 x12
    obtain ⟨x0, x1, x2, x3, x4, x5, x6, x7, x8, x9, x10, x11, x12⟩ := X3.out
    clear hb
    go_wp2_with fail
    go_ret
    exact ⟨ret_bool (by rw [HU.out]; simp [q2]), (by repeat (first | with_reducible exact Below.refl _ _ | exact Hid.out (by with_reducible assumption) | refine Below.setCell ?_ (by simp <;> omega) _ | refine below_alloc ?_ _ | refine Below.alloc ?_ (by simp <;> omega) _ | refine Below.drew ?_ | refine below_drewN ?_ _))⟩
  have d2 : (n6 : Int) ≤ 16 := by omega
  go_enter Try.func9, Try.ntmps9
  go_wp2_with fail
  refine (HC0.out _ (k1.out.below (by repeat (first | with_reducible exact Below.refl _ _ | exact Hid.out (by with_reducible assumption) | refine Below.setCell ?_ (by simp <;> omega) _ | refine below_alloc ?_ _ | refine Below.alloc ?_ (by simp <;> omega) _ | refine Below.drew ?_ | refine below_drewN ?_ _))) (k2.out.below (by repeat (first | with_reducible exact Below.refl _ _ | exact Hid.out (by with_reducible assumption) | refine Below.setCell ?_ (by simp <;> omega) _ | refine below_alloc ?_ _ | refine Below.alloc ?_ (by simp <;> omega) _ | refine Below.drew ?_ | refine below_drewN ?_ _))) (k3.out.below (by repeat (first | with_reducible exact Below.refl _ _ | exact Hid.out (by with_reducible assumption) | refine Below.setCell ?_ (by simp <;> omega) _ | refine below_alloc ?_ _ | refine Below.alloc ?_ (by simp <;> omega) _ | refine Below.drew ?_ | refine below_drewN ?_ _)))).mono ?_
  rintro e w1 ⟨rfl, hb⟩
  have N1 := Lib.hid (show Below w.heap.size w w1 from Below.trans (by repeat (first | with_reducible exact Below.refl _ _ | exact Hid.out (by with_reducible assumption) | refine Below.setCell ?_ (by simp <;> omega) _ | refine below_alloc ?_ _ | refine Below.alloc ?_ (by simp <;> omega) _ | refine Below.drew ?_ | refine below_drewN ?_ _)) (hb.mono (by simp)))
  have X1 := Lib.hid (Box13.below (Box13.new w 44 (.int .i64 s1) (.int .i64 l1) (.slice A1 n1 c1) (.slice A2 n2 c2) (.slice A3 n3 c3) (.int .i64 s2) (.int .i64 l2) (.slice A4 n4 c4) (.slice A5 n5 c5) (.int .i64 s3) (.int .i64 l3) (.slice A6 n6 c6) (.slice A7 n7 c7)) hb)
  obtain ⟨x0, x1, x2, x3, x4, x5, x6, x7, x8, x9, x10, x11, x12⟩ := X1.out
  clear hb
  go_wp2_with fail
  refine (HC1.out _ (k4.out.below (by repeat (first | with_reducible exact Below.refl _ _ | exact Hid.out (by with_reducible assumption) | refine Below.setCell ?_ (by simp <;> omega) _ | refine below_alloc ?_ _ | refine Below.alloc ?_ (by simp <;> omega) _ | refine Below.drew ?_ | refine below_drewN ?_ _)))).mono ?_
  rintro e w2 ⟨rfl, hb⟩
  have N2 := Lib.hid (show Below w.heap.size w w2 from Below.trans (by repeat (first | with_reducible exact Below.refl _ _ | exact Hid.out (by with_reducible assumption) | refine Below.setCell ?_ (by simp <;> omega) _ | refine below_alloc ?_ _ | refine Below.alloc ?_ (by simp <;> omega) _ | refine Below.drew ?_ | refine below_drewN ?_ _)) (hb.mono (by exact N1.out.size)))
  have X2 := Lib.hid (Box13.below X1.out hb)
  clear x0 x1 x2 x3 x4 x5 x6 x7 x8 x9 x10 x11 x12
  obtain ⟨x0, x1, x2, x3, x4, x5, x6, x7, x8, x9, x10, x11, x12⟩ := X2.out
  clear hb
  go_wp2_with fail
  refine (HC2.out _ (k6.out.below (by repeat (first | with_reducible exact Below.refl _ _ | exact Hid.out (by with_reducible assumption) | refine Below.setCell ?_ (by simp <;> omega) _ | refine below_alloc ?_ _ | refine Below.alloc ?_ (by simp <;> omega) _ | refine Below.drew ?_ | refine below_drewN ?_ _)))).mono ?_
  rintro e w3 ⟨rfl, hb⟩
  have N3 := Lib.hid (show Below w.heap.size w w3 from Below.trans (by repeat (first | with_reducible exact Below.refl _ _ | exact Hid.out (by with_reducible assumption) | refine Below.setCell ?_ (by simp <;> omega) _ | refine below_alloc ?_ _ | refine Below.alloc ?_ (by simp <;> omega) _ | refine Below.drew ?_ | refine below_drewN ?_ _)) (hb.mono (by exact N2.out.size)))
  have X3 := Lib.hid (Box13.below X2.out hb)
  clear x0 x1 x2 x3 x4 x5 x6 x7 x8 x9 x10 x11 x12
  obtain ⟨x0, x1, x2, x3, x4, x5, x6, x7, x8, x9, x10, x11, x12⟩ := X3.out
  clear hb
  go_wp2_with fail
  refine (HC3.out _ (k7.out.below (by repeat (first | with_reducible exact Below.refl _ _ | exact Hid.out (by with_reducible assumption) | refine Below.setCell ?_ (by simp <;> omega) _ | refine below_alloc ?_ _ | refine Below.alloc ?_ (by simp <;> omega) _ | refine Below.drew ?_ | refine below_drewN ?_ _)))).mono ?_
  rintro e w' ⟨rfl, rfl⟩
  go_wp2_with fail
  go_ret
  exact ⟨ret_bool (by rw [HU.out]; simp [q0, q1, q2]), (by repeat (first | with_reducible exact Below.refl _ _ | exact Hid.out (by with_reducible assumption) | refine Below.setCell ?_ (by simp <;> omega) _ | refine below_alloc ?_ _ | refine Below.alloc ?_ (by simp <;> omega) _ | refine Below.drew ?_ | refine below_drewN ?_ _))⟩
set_option maxHeartbeats 4000000 in
theorem l08Is_any (P : Nat) (s1 l1 s2 l2 s3 l3 : Int) (A1 A2 A3 A4 A5 A6 A7 : Option Addr) (n1 c1 n2 c2 n3 c3 n4 c4 n5 c5 n6 c6 n7 c7 : Nat) (f1 f2 f3 f4 : Nat → Int) (f5 : Nat → Bool) (f6 f7 : Nat → Int) (w : World) (h1 : n1 ≤ 1048576) (h2 : n2 ≤ 1048576) (h3 : n3 ≤ 1048576) (h4 : n4 ≤ 1048576) (h5 : n5 ≤ 1048576) (h6 : n6 ≤ 1048576) (h7 : n7 ≤ 1048576) (k1 : Cells w A1 (n1 * 4) (fun i => .int .i64 (f1 i))) (k2 : Cells w A2 n2 (fun i => .int .i64 (f2 i))) (k3 : Cells w A3 n3 (fun i => .int .i64 (f3 i))) (k4 : Cells w A4 n4 (fun i => .int .i64 (f4 i))) (k5 : Cells w A5 n5 (fun i => .bool (f5 i))) (k6 : Cells w A6 (n6 * 4) (fun i => .int .i64 (f6 i))) (k7 : Cells w A7 n7 (fun i => .int .i64 (f7 i))) (b : Box13 w P (.int .i64 s1) (.int .i64 l1) (.slice A1 n1 c1) (.slice A2 n2 c2) (.slice A3 n3 c3) (.int .i64 s2) (.int .i64 l2) (.slice A4 n4 c4) (.slice A5 n5 c5) (.int .i64 s3) (.int .i64 l3) (.slice A6 n6 c6) (.slice A7 n7 c7)) :
    Calls Try.prog 21 #[.pointer (some ⟨P, 0, none⟩)] w fun e w' => e = .returned (.bool (validD s1 l1 s2 l2 s3 l3 n1 n2 n3 n4 n5 n6 n7 f1 f2 f3 f4 f5 f6 f7)) ∧ Below w.heap.size w w' := by
  have HU := Lib.hid (show validD s1 l1 s2 l2 s3 l3 n1 n2 n3 n4 n5 n6 n7 f1 f2 f3 f4 f5 f6 f7 = (validM s1 l1 n1 n2 n3 f1 f2 f3 && (decide (n1 ≤ 16) && (validP s2 l2 n4 n5 f4 && (decide (n4 ≤ 64) && (validG s3 l3 n6 f6 && (decide (n6 ≤ 16) && wordB f7 n7 3)))))) from rfl)
  have k1 := Lib.hid k1
  have k2 := Lib.hid k2
  have k3 := Lib.hid k3
  have k4 := Lib.hid k4
  have k5 := Lib.hid k5
  have k6 := Lib.hid k6
  have k7 := Lib.hid k7
  have b := Lib.hid b
  obtain ⟨x0, x1, x2, x3, x4, x5, x6, x7, x8, x9, x10, x11, x12⟩ := b.out
  have HC0 := Lib.hid (fun W y1 y2 y3 b => l02Is_any P s1 l1 A1 A2 A3 n1 c1 n2 c2 n3 c3 f1 f2 f3 W h1 h2 h3 y1 y2 y3 b)
  have HC1 := Lib.hid (fun W y1 b0 b1 b2 b3 => l02Plain_at5 P s2 l2 A4 A5 n4 c4 n5 c5 f4 W (by omega) (by omega) y1 b0 b1 b2 b3)
  have HC2 := Lib.hid (fun W y1 b => l06Is_at9 P s3 l3 A6 n6 c6 f6 W h6 y1 b)
  have HC3 := Lib.hid (fun W y1 => l02Word_any A7 n7 c7 f7 4 W (by omega) y1 (by omega) (by omega))
  rw [show (4 : Int) - 1 = 3 from rfl] at HC3
  generalize validD s1 l1 s2 l2 s3 l3 n1 n2 n3 n4 n5 n6 n7 f1 f2 f3 f4 f5 f6 f7 = r at *
  generalize validM s1 l1 n1 n2 n3 f1 f2 f3 = r0 at *
  generalize validP s2 l2 n4 n5 f4 = r1 at *
  generalize validG s3 l3 n6 f6 = r2 at *
  generalize wordB f7 n7 3 = r3 at *
  cases r0
  · skip
    go_enter Try.func21, Try.ntmps21
    go_wp2_with fail
    refine (HC0.out _ (k1.out.below (by repeat (first | with_reducible exact Below.refl _ _ | exact Hid.out (by with_reducible assumption) | refine Below.setCell ?_ (by simp <;> omega) _ | refine below_alloc ?_ _ | refine Below.alloc ?_ (by simp <;> omega) _ | refine Below.drew ?_ | refine below_drewN ?_ _))) (k2.out.below (by repeat (first | with_reducible exact Below.refl _ _ | exact Hid.out (by with_reducible assumption) | refine Below.setCell ?_ (by simp <;> omega) _ | refine below_alloc ?_ _ | refine Below.alloc ?_ (by simp <;> omega) _ | refine Below.drew ?_ | refine below_drewN ?_ _))) (k3.out.below (by repeat (first | with_reducible exact Below.refl _ _ | exact Hid.out (by with_reducible assumption) | refine Below.setCell ?_ (by simp <;> omega) _ | refine below_alloc ?_ _ | refine Below.alloc ?_ (by simp <;> omega) _ | refine Below.drew ?_ | refine below_drewN ?_ _))) b.out.mach).mono ?_
    rintro e w1 ⟨rfl, hb⟩
    have N1 := Lib.hid (show Below w.heap.size w w1 from hb)
    have X1 := Lib.hid (Box13.below b.out hb)
    clear x0 x1 x2 x3 x4 x5 x6 x7 x8 x9 x10 x11 x12
    obtain ⟨x0, x1, x2, x3, x4, x5, x6, x7, x8, x9, x10, x11, x12⟩ := X1.out
    clear hb
    go_wp2_with fail
    go_ret
    exact ⟨ret_bool (by rw [HU.out]; simp), (by repeat (first | with_reducible exact Below.refl _ _ | exact Hid.out (by with_reducible assumption) | refine Below.setCell ?_ (by simp <;> omega) _ | refine below_alloc ?_ _ | refine Below.alloc ?_ (by simp <;> omega) _ | refine Below.drew ?_ | refine below_drewN ?_ _))⟩
  by_cases q0 : n1 ≤ 16
  rotate_left
  · have d0 : ¬ (n1 : Int) ≤ 16 := by omega
    go_enter Try.func21, Try.ntmps21
    go_wp2_with fail
    refine (HC0.out _ (k1.out.below (by repeat (first | with_reducible exact Below.refl _ _ | exact Hid.out (by with_reducible assumption) | refine Below.setCell ?_ (by simp <;> omega) _ | refine below_alloc ?_ _ | refine Below.alloc ?_ (by simp <;> omega) _ | refine Below.drew ?_ | refine below_drewN ?_ _))) (k2.out.below (by repeat (first | with_reducible exact Below.refl _ _ | exact Hid.out (by with_reducible assumption) | refine Below.setCell ?_ (by simp <;> omega) _ | refine below_alloc ?_ _ | refine Below.alloc ?_ (by simp <;> omega) _ | refine Below.drew ?_ | refine below_drewN ?_ _))) (k3.out.below (by repeat (first | with_reducible exact Below.refl _ _ | exact Hid.out (by with_reducible assumption) | refine Below.setCell ?_ (by simp <;> omega) _ | refine below_alloc ?_ _ | refine Below.alloc ?_ (by simp <;> omega) _ | refine Below.drew ?_ | refine below_drewN ?_ _))) b.out.mach).mono ?_
    rintro e w1 ⟨rfl, hb⟩
    have N1 := Lib.hid (show Below w.heap.size w w1 from hb)
    have X1 := Lib.hid (Box13.below b.out hb)
    clear x0 x1 x2 x3 x4 x5 x6 x7 x8 x9 x10 x11 x12
    obtain ⟨x0, x1, x2, x3, x4, x5, x6, x7, x8, x9, x10, x11, x12⟩ := X1.out
    clear hb
    go_wp2_with fail
    go_ret
    exact ⟨ret_bool (by rw [HU.out]; simp [q0]), (by repeat (first | with_reducible exact Below.refl _ _ | exact Hid.out (by with_reducible assumption) | refine Below.setCell ?_ (by simp <;> omega) _ | refine below_alloc ?_ _ | refine Below.alloc ?_ (by simp <;> omega) _ | refine Below.drew ?_ | refine below_drewN ?_ _))⟩
  have d0 : (n1 : Int) ≤ 16 := by omega
  cases r1
  · skip
    go_enter Try.func21, Try.ntmps21
    go_wp2_with fail
    refine (HC0.out _ (k1.out.below (by repeat (first | with_reducible exact Below.refl _ _ | exact Hid.out (by with_reducible assumption) | refine Below.setCell ?_ (by simp <;> omega) _ | refine below_alloc ?_ _ | refine Below.alloc ?_ (by simp <;> omega) _ | refine Below.drew ?_ | refine below_drewN ?_ _))) (k2.out.below (by repeat (first | with_reducible exact Below.refl _ _ | exact Hid.out (by with_reducible assumption) | refine Below.setCell ?_ (by simp <;> omega) _ | refine below_alloc ?_ _ | refine Below.alloc ?_ (by simp <;> omega) _ | refine Below.drew ?_ | refine below_drewN ?_ _))) (k3.out.below (by repeat (first | with_reducible exact Below.refl _ _ | exact Hid.out (by with_reducible assumption) | refine Below.setCell ?_ (by simp <;> omega) _ | refine below_alloc ?_ _ | refine Below.alloc ?_ (by simp <;> omega) _ | refine Below.drew ?_ | refine below_drewN ?_ _))) b.out.mach).mono ?_
    rintro e w1 ⟨rfl, hb⟩
    have N1 := Lib.hid (show Below w.heap.size w w1 from hb)
    have X1 := Lib.hid (Box13.below b.out hb)
    clear x0 x1 x2 x3 x4 x5 x6 x7 x8 x9 x10 x11 x12
    obtain ⟨x0, x1, x2, x3, x4, x5, x6, x7, x8, x9, x10, x11, x12⟩ := X1.out
    clear hb
    go_wp2_with fail
    obtain ⟨p0, p1, p2, p3⟩ := X1.out.pln
    refine (HC1.out _ (k4.out.below (by repeat (first | with_reducible exact Below.refl _ _ | exact Hid.out (by with_reducible assumption) | refine Below.setCell ?_ (by simp <;> omega) _ | refine below_alloc ?_ _ | refine Below.alloc ?_ (by simp <;> omega) _ | refine Below.drew ?_ | refine below_drewN ?_ _))) p0 p1 p2 p3).mono ?_
    rintro e w2 ⟨rfl, mq, hw2⟩
    have hb : Below w1.heap.size w1 w2 := by rw [hw2]; exact (by repeat (first | with_reducible exact Below.refl _ _ | exact Hid.out (by with_reducible assumption) | refine Below.setCell ?_ (by simp <;> omega) _ | refine below_alloc ?_ _ | refine Below.alloc ?_ (by simp <;> omega) _ | refine Below.drew ?_ | refine below_drewN ?_ _))
    clear hw2 p0 p1 p2 p3
    have N2 := Lib.hid (show Below w.heap.size w w2 from N1.out.trans (hb.mono N1.out.size))
    have X2 := Lib.hid (Box13.below X1.out hb)
    clear x0 x1 x2 x3 x4 x5 x6 x7 x8 x9 x10 x11 x12
    obtain ⟨x0, x1, x2, x3, x4, x5, x6, x7, x8, x9, x10, x11, x12⟩ := X2.out
    clear hb
    go_wp2_with fail
    go_ret
    exact ⟨ret_bool (by rw [HU.out]; simp), (by repeat (first | with_reducible exact Below.refl _ _ | exact Hid.out (by with_reducible assumption) | refine Below.setCell ?_ (by simp <;> omega) _ | refine below_alloc ?_ _ | refine Below.alloc ?_ (by simp <;> omega) _ | refine Below.drew ?_ | refine below_drewN ?_ _))⟩
  by_cases q1 : n4 ≤ 64
  rotate_left
  · have d1 : ¬ (n4 : Int) ≤ 64 := by omega
    go_enter Try.func21, Try.ntmps21
    go_wp2_with fail
    refine (HC0.out _ (k1.out.below (by repeat (first | with_reducible exact Below.refl _ _ | exact Hid.out (by with_reducible assumption) | refine Below.setCell ?_ (by simp <;> omega) _ | refine below_alloc ?_ _ | refine Below.alloc ?_ (by simp <;> omega) _ | refine Below.drew ?_ | refine below_drewN ?_ _))) (k2.out.below (by repeat (first | with_reducible exact Below.refl _ _ | exact Hid.out (by with_reducible assumption) | refine Below.setCell ?_ (by simp <;> omega) _ | refine below_alloc ?_ _ | refine Below.alloc ?_ (by simp <;> omega) _ | refine Below.drew ?_ | refine below_drewN ?_ _))) (k3.out.below (by repeat (first | with_reducible exact Below.refl _ _ | exact Hid.out (by with_reducible assumption) | refine Below.setCell ?_ (by simp <;> omega) _ | refine below_alloc ?_ _ | refine Below.alloc ?_ (by simp <;> omega) _ | refine Below.drew ?_ | refine below_drewN ?_ _))) b.out.mach).mono ?_
    rintro e w1 ⟨rfl, hb⟩
    have N1 := Lib.hid (show Below w.heap.size w w1 from hb)
    have X1 := Lib.hid (Box13.below b.out hb)
    clear x0 x1 x2 x3 x4 x5 x6 x7 x8 x9 x10 x11 x12
    obtain ⟨x0, x1, x2, x3, x4, x5, x6, x7, x8, x9, x10, x11, x12⟩ := X1.out
    clear hb
    go_wp2_with fail
    obtain ⟨p0, p1, p2, p3⟩ := X1.out.pln
    refine (HC1.out _ (k4.out.below (by repeat (first | with_reducible exact Below.refl _ _ | exact Hid.out (by with_reducible assumption) | refine Below.setCell ?_ (by simp <;> omega) _ | refine below_alloc ?_ _ | refine Below.alloc ?_ (by simp <;> omega) _ | refine Below.drew ?_ | refine below_drewN ?_ _))) p0 p1 p2 p3).mono ?_
    rintro e w2 ⟨rfl, mq, hw2⟩
    have hb : Below w1.heap.size w1 w2 := by rw [hw2]; exact (by repeat (first | with_reducible exact Below.refl _ _ | exact Hid.out (by with_reducible assumption) | refine Below.setCell ?_ (by simp <;> omega) _ | refine below_alloc ?_ _ | refine Below.alloc ?_ (by simp <;> omega) _ | refine Below.drew ?_ | refine below_drewN ?_ _))
    clear hw2 p0 p1 p2 p3
    have N2 := Lib.hid (show Below w.heap.size w w2 from N1.out.trans (hb.mono N1.out.size))
    have X2 := Lib.hid (Box13.below X1.out hb)
    clear x0 x1 x2 x3 x4 x5 x6 x7 x8 x9 x10 x11 x12
    obtain ⟨x0, x1, x2, x3, x4, x5, x6, x7, x8, x9, x10, x11, x12⟩ := X2.out
    clear hb
    go_wp2_with fail
    go_ret
    exact ⟨ret_bool (by rw [HU.out]; simp [q1]), (by repeat (first | with_reducible exact Below.refl _ _ | exact Hid.out (by with_reducible assumption) | refine Below.setCell ?_ (by simp <;> omega) _ | refine below_alloc ?_ _ | refine Below.alloc ?_ (by simp <;> omega) _ | refine Below.drew ?_ | refine below_drewN ?_ _))⟩
  have d1 : (n4 : Int) ≤ 64 := by omega
  cases r2
  · skip
    go_enter Try.func21, Try.ntmps21
    go_wp2_with fail
    refine (HC0.out _ (k1.out.below (by repeat (first | with_reducible exact Below.refl _ _ | exact Hid.out (by with_reducible assumption) | refine Below.setCell ?_ (by simp <;> omega) _ | refine below_alloc ?_ _ | refine Below.alloc ?_ (by simp <;> omega) _ | refine Below.drew ?_ | refine below_drewN ?_ _))) (k2.out.below (by repeat (first | with_reducible exact Below.refl _ _ | exact Hid.out (by with_reducible assumption) | refine Below.setCell ?_ (by simp <;> omega) _ | refine below_alloc ?_ _ | refine Below.alloc ?_ (by simp <;> omega) _ | refine Below.drew ?_ | refine below_drewN ?_ _))) (k3.out.below (by repeat (first | with_reducible exact Below.refl _ _ | exact Hid.out (by with_reducible assumption) | refine Below.setCell ?_ (by simp <;> omega) _ | refine below_alloc ?_ _ | refine Below.alloc ?_ (by simp <;> omega) _ | refine Below.drew ?_ | refine below_drewN ?_ _))) b.out.mach).mono ?_
    rintro e w1 ⟨rfl, hb⟩
    have N1 := Lib.hid (show Below w.heap.size w w1 from hb)
    have X1 := Lib.hid (Box13.below b.out hb)
    clear x0 x1 x2 x3 x4 x5 x6 x7 x8 x9 x10 x11 x12
    obtain ⟨x0, x1, x2, x3, x4, x5, x6, x7, x8, x9, x10, x11, x12⟩ := X1.out
    clear hb
    go_wp2_with fail
    obtain ⟨p0, p1, p2, p3⟩ := X1.out.pln
    refine (HC1.out _ (k4.out.below (by repeat (first | with_reducible exact Below.refl _ _ | exact Hid.out (by with_reducible assumption) | refine Below.setCell ?_ (by simp <;> omega) _ | refine below_alloc ?_ _ | refine Below.alloc ?_ (by simp <;> omega) _ | refine Below.drew ?_ | refine below_drewN ?_ _))) p0 p1 p2 p3).mono ?_
    rintro e w2 ⟨rfl, mq, hw2⟩
    have hb : Below w1.heap.size w1 w2 := by rw [hw2]; exact (by repeat (first | with_reducible exact Below.refl _ _ | exact Hid.out (by with_reducible assumption) | refine Below.setCell ?_ (by simp <;> omega) _ | refine below_alloc ?_ _ | refine Below.alloc ?_ (by simp <;> omega) _ | refine Below.drew ?_ | refine below_drewN ?_ _))
    clear hw2 p0 p1 p2 p3
    have N2 := Lib.hid (show Below w.heap.size w w2 from N1.out.trans (hb.mono N1.out.size))
    have X2 := Lib.hid (Box13.below X1.out hb)
    clear x0 x1 x2 x3 x4 x5 x6 x7 x8 x9 x10 x11 x12
    obtain ⟨x0, x1, x2, x3, x4, x5, x6, x7, x8, x9, x10, x11, x12⟩ := X2.out
    clear hb
    go_wp2_with fail
    refine (HC2.out _ (k6.out.below (by repeat (first | with_reducible exact Below.refl _ _ | exact Hid.out (by with_reducible assumption) | refine Below.setCell ?_ (by simp <;> omega) _ | refine below_alloc ?_ _ | refine Below.alloc ?_ (by simp <;> omega) _ | refine Below.drew ?_ | refine below_drewN ?_ _))) X2.out.grm).mono ?_
    rintro e w3 ⟨rfl, hb⟩
    have N3 := Lib.hid (show Below w.heap.size w w3 from N2.out.trans (hb.mono N2.out.size))
    have X3 := Lib.hid (Box13.below X2.out hb)
    clear x0 x1 x2 x3 x4 x5 x6 x7 x8 x9 x10 x11 x12
    obtain ⟨x0, x1, x2, x3, x4, x5, x6, x7, x8, x9, x10, x11, x12⟩ := X3.out
    clear hb
    go_wp2_with fail
    go_ret
    exact ⟨ret_bool (by rw [HU.out]; simp), (by repeat (first | with_reducible exact Below.refl _ _ | exact Hid.out (by with_reducible assumption) | refine Below.setCell ?_ (by simp <;> omega) _ | refine below_alloc ?_ _ | refine Below.alloc ?_ (by simp <;> omega) _ | refine Below.drew ?_ | refine below_drewN ?_ _))⟩
  by_cases q2 : n6 ≤ 16
  rotate_left
  · have d2 : ¬ (n6 : Int) ≤ 16 := by omega
    go_enter Try.func21, Try.ntmps21
    go_wp2_with fail
    refine (HC0.out _ (k1.out.below (by repeat (first | with_reducible exact Below.refl _ _ | exact Hid.out (by with_reducible assumption) | refine Below.setCell ?_ (by simp <;> omega) _ | refine below_alloc ?_ _ | refine Below.alloc ?_ (by simp <;> omega) _ | refine Below.drew ?_ | refine below_drewN ?_ _))) (k2.out.below (by repeat (first | with_reducible exact Below.refl _ _ | exact Hid.out (by with_reducible assumption) | refine Below.setCell ?_ (by simp <;> omega) _ | refine below_alloc ?_ _ | refine Below.alloc ?_ (by simp <;> omega) _ | refine Below.drew ?_ | refine below_drewN ?_ _))) (k3.out.below (by repeat (first | with_reducible exact Below.refl _ _ | exact Hid.out (by with_reducible assumption) | refine Below.setCell ?_ (by simp <;> omega) _ | refine below_alloc ?_ _ | refine Below.alloc ?_ (by simp <;> omega) _ | refine Below.drew ?_ | refine below_drewN ?_ _))) b.out.mach).mono ?_
    rintro e w1 ⟨rfl, hb⟩
    have N1 := Lib.hid (show Below w.heap.size w w1 from hb)
    have X1 := Lib.hid (Box13.below b.out hb)
    clear x0 x1 x2 x3 x4 x5 x6 x7 x8 x9 x10 x11 x12
    obtain ⟨x0, x1, x2, x3, x4, x5, x6, x7, x8, x9, x10, x11, x12⟩ := X1.out
    clear hb
    go_wp2_with fail
    obtain ⟨p0, p1, p2, p3⟩ := X1.out.pln
    refine (HC1.out _ (k4.out.below (by repeat (first | with_reducible exact Below.refl _ _ | exact Hid.out (by with_reducible assumption) | refine Below.setCell ?_ (by simp <;> omega) _ | refine below_alloc ?_ _ | refine Below.alloc ?_ (by simp <;> omega) _ | refine Below.drew ?_ | refine below_drewN ?_ _))) p0 p1 p2 p3).mono ?_
    rintro e w2 ⟨rfl, mq, hw2⟩
    have hb : Below w1.heap.size w1 w2 := by rw [hw2]; exact (by repeat (first | with_reducible exact Below.refl _ _ | exact Hid.out (by with_reducible assumption) | refine Below.setCell ?_ (by simp <;> omega) _ | refine below_alloc ?_ _ | refine Below.alloc ?_ (by simp <;> omega) _ | refine Below.drew ?_ | refine below_drewN ?_ _))
    clear hw2 p0 p1 p2 p3
    have N2 := Lib.hid (show Below w.heap.size w w2 from N1.out.trans (hb.mono N1.out.size))
    have X2 := Lib.hid (Box13.below X1.out hb)
    clear x0 x1 x2 x3 x4 x5 x6 x7 x8 x9 x10 x11 x12
    obtain ⟨x0, x1, x2, x3, x4, x5, x6, x7, x8, x9, x10, x11, x12⟩ := X2.out
    clear hb
    go_wp2_with fail
    refine (HC2.out _ (k6.out.below (by repeat (first | with_reducible exact Below.refl _ _ | exact Hid.out (by with_reducible assumption) | refine Below.setCell ?_ (by simp <;> omega) _ | refine below_alloc ?_ _ | refine Below.alloc ?_ (by simp <;> omega) _ | refine Below.drew ?_ | refine below_drewN ?_ _))) X2.out.grm).mono ?_
    rintro e w3 ⟨rfl, hb⟩
    have N3 := Lib.hid (show Below w.heap.size w w3 from N2.out.trans (hb.mono N2.out.size))
    have X3 := Lib.hid (Box13.below X2.out hb)
    clear x0 x1 x2 x3 x4 x5 x6 x7 x8 x9 x10 x11 x12
    obtain ⟨x0, x1, x2, x3, x4, x5, x6, x7, x8, x9, x10, x11, x12⟩ := X3.out
    clear hb
    go_wp2_with fail
    go_ret
    exact ⟨ret_bool (by rw [HU.out]; simp [q2]), (by repeat (first | with_reducible exact Below.refl _ _ | exact Hid.out (by with_reducible assumption) | refine Below.setCell ?_ (by simp <;> omega) _ | refine below_alloc ?_ _ | refine Below.alloc ?_ (by simp <;> omega) _ | refine Below.drew ?_ | refine below_drewN ?_ _))⟩
  have d2 : (n6 : Int) ≤ 16 := by omega
  go_enter Try.func21, Try.ntmps21
  go_wp2_with fail
  refine (HC0.out _ (k1.out.below (by repeat (first | with_reducible exact Below.refl _ _ | exact Hid.out (by with_reducible assumption) | refine Below.setCell ?_ (by simp <;> omega) _ | refine below_alloc ?_ _ | refine Below.alloc ?_ (by simp <;> omega) _ | refine Below.drew ?_ | refine below_drewN ?_ _))) (k2.out.below (by repeat (first | with_reducible exact Below.refl _ _ | exact Hid.out (by with_reducible assumption) | refine Below.setCell ?_ (by simp <;> omega) _ | refine below_alloc ?_ _ | refine Below.alloc ?_ (by simp <;> omega) _ | refine Below.drew ?_ | refine below_drewN ?_ _))) (k3.out.below (by repeat (first | with_reducible exact Below.refl _ _ | exact Hid.out (by with_reducible assumption) | refine Below.setCell ?_ (by simp <;> omega) _ | refine below_alloc ?_ _ | refine Below.alloc ?_ (by simp <;> omega) _ | refine Below.drew ?_ | refine below_drewN ?_ _))) b.out.mach).mono ?_
  rintro e w1 ⟨rfl, hb⟩
  have N1 := Lib.hid (show Below w.heap.size w w1 from hb)
  have X1 := Lib.hid (Box13.below b.out hb)
  clear x0 x1 x2 x3 x4 x5 x6 x7 x8 x9 x10 x11 x12
  obtain ⟨x0, x1, x2, x3, x4, x5, x6, x7, x8, x9, x10, x11, x12⟩ := X1.out
  clear hb
  go_wp2_with fail
  obtain ⟨p0, p1, p2, p3⟩ := X1.out.pln
  refine (HC1.out _ (k4.out.below (by repeat (first | with_reducible exact Below.refl _ _ | exact Hid.out (by with_reducible assumption) | refine Below.setCell ?_ (by simp <;> omega) _ | refine below_alloc ?_ _ | refine Below.alloc ?_ (by simp <;> omega) _ | refine Below.drew ?_ | refine below_drewN ?_ _))) p0 p1 p2 p3).mono ?_
  rintro e w2 ⟨rfl, mq, hw2⟩
  have hb : Below w1.heap.size w1 w2 := by rw [hw2]; exact (by repeat (first | with_reducible exact Below.refl _ _ | exact Hid.out (by with_reducible assumption) | refine Below.setCell ?_ (by simp <;> omega) _ | refine below_alloc ?_ _ | refine Below.alloc ?_ (by simp <;> omega) _ | refine Below.drew ?_ | refine below_drewN ?_ _))
  clear hw2 p0 p1 p2 p3
  have N2 := Lib.hid (show Below w.heap.size w w2 from N1.out.trans (hb.mono N1.out.size))
  have X2 := Lib.hid (Box13.below X1.out hb)
  clear x0 x1 x2 x3 x4 x5 x6 x7 x8 x9 x10 x11 x12
  obtain ⟨x0, x1, x2, x3, x4, x5, x6, x7, x8, x9, x10, x11, x12⟩ := X2.out
  clear hb
  go_wp2_with fail
  refine (HC2.out _ (k6.out.below (by repeat (first | with_reducible exact Below.refl _ _ | exact Hid.out (by with_reducible assumption) | refine Below.setCell ?_ (by simp <;> omega) _ | refine below_alloc ?_ _ | refine Below.alloc ?_ (by simp <;> omega) _ | refine Below.drew ?_ | refine below_drewN ?_ _))) X2.out.grm).mono ?_
  rintro e w3 ⟨rfl, hb⟩
  have N3 := Lib.hid (show Below w.heap.size w w3 from N2.out.trans (hb.mono N2.out.size))
  have X3 := Lib.hid (Box13.below X2.out hb)
  clear x0 x1 x2 x3 x4 x5 x6 x7 x8 x9 x10 x11 x12
  obtain ⟨x0, x1, x2, x3, x4, x5, x6, x7, x8, x9, x10, x11, x12⟩ := X3.out
  clear hb
  go_wp2_with fail
  refine (HC3.out _ (k7.out.below (by repeat (first | with_reducible exact Below.refl _ _ | exact Hid.out (by with_reducible assumption) | refine Below.setCell ?_ (by simp <;> omega) _ | refine below_alloc ?_ _ | refine Below.alloc ?_ (by simp <;> omega) _ | refine Below.drew ?_ | refine below_drewN ?_ _)))).mono ?_
  rintro e w' ⟨rfl, rfl⟩
  go_wp2_with fail
  go_ret
  exact ⟨ret_bool (by rw [HU.out]; simp [q0, q1, q2]), (by repeat (first | with_reducible exact Below.refl _ _ | exact Hid.out (by with_reducible assumption) | refine Below.setCell ?_ (by simp <;> omega) _ | refine below_alloc ?_ _ | refine Below.alloc ?_ (by simp <;> omega) _ | refine Below.drew ?_ | refine below_drewN ?_ _))⟩
theorem specValidDesk_any (s1 l1 s2 l2 s3 l3 : Int) (A1 A2 A3 A4 A5 A6 A7 : Option Addr) (n1 c1 n2 c2 n3 c3 n4 c4 n5 c5 n6 c6 n7 c7 : Nat) (f1 f2 f3 f4 : Nat → Int) (f5 : Nat → Bool) (f6 f7 : Nat → Int) (w : World) (h1 : n1 ≤ 1048576) (h2 : n2 ≤ 1048576) (h3 : n3 ≤ 1048576) (h4 : n4 ≤ 1048576) (h5 : n5 ≤ 1048576) (h6 : n6 ≤ 1048576) (h7 : n7 ≤ 1048576) (k1 : Cells w A1 (n1 * 4) (fun i => .int .i64 (f1 i))) (k2 : Cells w A2 n2 (fun i => .int .i64 (f2 i))) (k3 : Cells w A3 n3 (fun i => .int .i64 (f3 i))) (k4 : Cells w A4 n4 (fun i => .int .i64 (f4 i))) (k5 : Cells w A5 n5 (fun i => .bool (f5 i))) (k6 : Cells w A6 (n6 * 4) (fun i => .int .i64 (f6 i))) (k7 : Cells w A7 n7 (fun i => .int .i64 (f7 i))) :
    Calls Try.prog 7 #[.agg #[.int .i64 s1, .int .i64 l1, .slice A1 n1 c1, .slice A2 n2 c2, .slice A3 n3 c3, .int .i64 s2, .int .i64 l2, .slice A4 n4 c4, .slice A5 n5 c5, .int .i64 s3, .int .i64 l3, .slice A6 n6 c6, .slice A7 n7 c7]] w fun e w' => e = .returned (.bool (validD s1 l1 s2 l2 s3 l3 n1 n2 n3 n4 n5 n6 n7 f1 f2 f3 f4 f5 f6 f7)) ∧ Below w.heap.size w w' := by
  have k1 := Lib.hid k1
  have k2 := Lib.hid k2
  have k3 := Lib.hid k3
  have k4 := Lib.hid k4
  have k5 := Lib.hid k5
  have k6 := Lib.hid k6
  have k7 := Lib.hid k7
  have HL := Lib.hid (fun P W y1 y2 y3 y4 y5 y6 y7 b => l08Is_any P s1 l1 s2 l2 s3 l3 A1 A2 A3 A4 A5 A6 A7 n1 c1 n2 c2 n3 c3 n4 c4 n5 c5 n6 c6 n7 c7 f1 f2 f3 f4 f5 f6 f7 W h1 h2 h3 h4 h5 h6 h7 y1 y2 y3 y4 y5 y6 y7 b)
  generalize validD s1 l1 s2 l2 s3 l3 n1 n2 n3 n4 n5 n6 n7 f1 f2 f3 f4 f5 f6 f7 = r at *
  go_enter Try.func7, Try.ntmps7
  go_wp2_with fail
  refine (HL.out w.heap.size _ (k1.out.below (by repeat (first | with_reducible exact Below.refl _ _ | exact Hid.out (by with_reducible assumption) | refine Below.setCell ?_ (by simp <;> omega) _ | refine below_alloc ?_ _ | refine Below.alloc ?_ (by simp <;> omega) _ | refine Below.drew ?_ | refine below_drewN ?_ _))) (k2.out.below (by repeat (first | with_reducible exact Below.refl _ _ | exact Hid.out (by with_reducible assumption) | refine Below.setCell ?_ (by simp <;> omega) _ | refine below_alloc ?_ _ | refine Below.alloc ?_ (by simp <;> omega) _ | refine Below.drew ?_ | refine below_drewN ?_ _))) (k3.out.below (by repeat (first | with_reducible exact Below.refl _ _ | exact Hid.out (by with_reducible assumption) | refine Below.setCell ?_ (by simp <;> omega) _ | refine below_alloc ?_ _ | refine Below.alloc ?_ (by simp <;> omega) _ | refine Below.drew ?_ | refine below_drewN ?_ _))) (k4.out.below (by repeat (first | with_reducible exact Below.refl _ _ | exact Hid.out (by with_reducible assumption) | refine Below.setCell ?_ (by simp <;> omega) _ | refine below_alloc ?_ _ | refine Below.alloc ?_ (by simp <;> omega) _ | refine Below.drew ?_ | refine below_drewN ?_ _))) (k5.out.below (by repeat (first | with_reducible exact Below.refl _ _ | exact Hid.out (by with_reducible assumption) | refine Below.setCell ?_ (by simp <;> omega) _ | refine below_alloc ?_ _ | refine Below.alloc ?_ (by simp <;> omega) _ | refine Below.drew ?_ | refine below_drewN ?_ _))) (k6.out.below (by repeat (first | with_reducible exact Below.refl _ _ | exact Hid.out (by with_reducible assumption) | refine Below.setCell ?_ (by simp <;> omega) _ | refine below_alloc ?_ _ | refine Below.alloc ?_ (by simp <;> omega) _ | refine Below.drew ?_ | refine below_drewN ?_ _))) (k7.out.below (by repeat (first | with_reducible exact Below.refl _ _ | exact Hid.out (by with_reducible assumption) | refine Below.setCell ?_ (by simp <;> omega) _ | refine below_alloc ?_ _ | refine Below.alloc ?_ (by simp <;> omega) _ | refine Below.drew ?_ | refine below_drewN ?_ _))) (Box13.new w _ _ _ _ _ _ _ _ _ _ _ _ _ _)).mono ?_
  rintro e w1 ⟨rfl, hb⟩
  have N1 := Lib.hid (show Below w.heap.size w w1 from Below.trans (by repeat (first | with_reducible exact Below.refl _ _ | exact Hid.out (by with_reducible assumption) | refine Below.setCell ?_ (by simp <;> omega) _ | refine below_alloc ?_ _ | refine Below.alloc ?_ (by simp <;> omega) _ | refine Below.drew ?_ | refine below_drewN ?_ _)) (hb.mono (by simp)))
  clear hb
  go_wp2_with fail
  go_ret
  exact ⟨rfl, N1.out⟩
end Go.Proofs.Yteagfbedbbnomaa
