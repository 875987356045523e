/- Desks compared, on both sides. -/
import Derived.Test.YteagfbedbbnomaaDeskM
import Derived.Test.YteagfbedbbnomaaSameM
import Derived.Test.YteagfbedbbnomaaSameP5
import Derived.Test.YteagfbedbbnomaaGrmS9
set_option linter.unusedVariables false
namespace Go.Proofs.Yteagfbedbbnomaa
open Go.RowKit

def sameDB (s1 l1 s2 l2 s3 l3 : Int) (t1 u1 t2 u2 t3 u3 : Int) (n1 n2 n3 n4 n5 n6 n7 m1 m2 m3 m4 m5 m6 m7 : Nat) (f1 f2 f3 f4 : Nat → Int) (f5 : Nat → Bool) (f6 f7 : Nat → Int) (g1 g2 g3 g4 : Nat → Int) (g5 : Nat → Bool) (g6 g7 : Nat → Int) : Bool := sameMB s1 t1 l1 u1 f1 g1 n1 m1 f2 g2 n2 m2 f3 g3 n3 m3 && (samePB s2 t2 l2 u2 f4 g4 n4 m4 f5 g5 n5 m5 && (sameGB s3 t3 l3 u3 f6 g6 n6 m6 && rowEqB f7 g7 n7 m7))
set_option maxHeartbeats 8000000 in
theorem implSameDesk_any (s1 l1 s2 l2 s3 l3 : Int) (A1 A2 A3 A4 A5 A6 A7 : Option Addr) (n1 c1 n2 c2 n3 c3 n4 c4 n5 c5 n6 c6 n7 c7 : Nat) (f1 f2 f3 f4 : Nat → Int) (f5 : Nat → Bool) (f6 f7 : Nat → Int) (t1 u1 t2 u2 t3 u3 : Int) (B1 B2 B3 B4 B5 B6 B7 : Option Addr) (m1 d1 m2 d2 m3 d3 m4 d4 m5 d5 m6 d6 m7 d7 : Nat) (g1 g2 g3 g4 : Nat → Int) (g5 : Nat → Bool) (g6 g7 : Nat → Int) (w : World) (h1 : n1 ≤ 1048576) (h2 : n2 ≤ 1048576) (h3 : n3 ≤ 1048576) (h4 : n4 ≤ 1048576) (h5 : n5 ≤ 1048576) (h6 : n6 ≤ 1048576) (h7 : n7 ≤ 1048576) (k1 : Cells w A1 (n1 * 4) (fun i => .int .i64 (f1 i))) (k2 : Cells w A2 n2 (fun i => .int .i64 (f2 i))) (k3 : Cells w A3 n3 (fun i => .int .i64 (f3 i))) (k4 : Cells w A4 n4 (fun i => .int .i64 (f4 i))) (k5 : Cells w A5 n5 (fun i => .bool (f5 i))) (k6 : Cells w A6 (n6 * 4) (fun i => .int .i64 (f6 i))) (k7 : Cells w A7 n7 (fun i => .int .i64 (f7 i))) (i1 : m1 ≤ 1048576) (i2 : m2 ≤ 1048576) (i3 : m3 ≤ 1048576) (i4 : m4 ≤ 1048576) (i5 : m5 ≤ 1048576) (i6 : m6 ≤ 1048576) (i7 : m7 ≤ 1048576) (j1 : Cells w B1 (m1 * 4) (fun i => .int .i64 (g1 i))) (j2 : Cells w B2 m2 (fun i => .int .i64 (g2 i))) (j3 : Cells w B3 m3 (fun i => .int .i64 (g3 i))) (j4 : Cells w B4 m4 (fun i => .int .i64 (g4 i))) (j5 : Cells w B5 m5 (fun i => .bool (g5 i))) (j6 : Cells w B6 (m6 * 4) (fun i => .int .i64 (g6 i))) (j7 : Cells w B7 m7 (fun i => .int .i64 (g7 i))) :
    Calls Try.prog 12 #[.agg #[.int .i64 s1, .int .i64 l1, .slice A1 n1 c1, .slice A2 n2 c2, .slice A3 n3 c3, .int .i64 s2, .int .i64 l2, .slice A4 n4 c4, .slice A5 n5 c5, .int .i64 s3, .int .i64 l3, .slice A6 n6 c6, .slice A7 n7 c7], .agg #[.int .i64 t1, .int .i64 u1, .slice B1 m1 d1, .slice B2 m2 d2, .slice B3 m3 d3, .int .i64 t2, .int .i64 u2, .slice B4 m4 d4, .slice B5 m5 d5, .int .i64 t3, .int .i64 u3, .slice B6 m6 d6, .slice B7 m7 d7]] w fun e w' => e = .returned (.bool (sameDB s1 l1 s2 l2 s3 l3 t1 u1 t2 u2 t3 u3 n1 n2 n3 n4 n5 n6 n7 m1 m2 m3 m4 m5 m6 m7 f1 f2 f3 f4 f5 f6 f7 g1 g2 g3 g4 g5 g6 g7)) ∧ Below w.heap.size w w' := by
  have HU := Lib.hid (show sameDB s1 l1 s2 l2 s3 l3 t1 u1 t2 u2 t3 u3 n1 n2 n3 n4 n5 n6 n7 m1 m2 m3 m4 m5 m6 m7 f1 f2 f3 f4 f5 f6 f7 g1 g2 g3 g4 g5 g6 g7 = (sameMB s1 t1 l1 u1 f1 g1 n1 m1 f2 g2 n2 m2 f3 g3 n3 m3 && (samePB s2 t2 l2 u2 f4 g4 n4 m4 f5 g5 n5 m5 && (sameGB s3 t3 l3 u3 f6 g6 n6 m6 && rowEqB f7 g7 n7 m7))) from rfl)
  have k1 := Lib.hid k1
  have j1 := Lib.hid j1
  have k2 := Lib.hid k2
  have j2 := Lib.hid j2
  have k3 := Lib.hid k3
  have j3 := Lib.hid j3
  have k4 := Lib.hid k4
  have j4 := Lib.hid j4
  have k5 := Lib.hid k5
  have j5 := Lib.hid j5
  have k6 := Lib.hid k6
  have j6 := Lib.hid j6
  have k7 := Lib.hid k7
  have j7 := Lib.hid j7
  have HC0 := Lib.hid (fun W y1 y2 y3 y4 y5 y6 => implSameMachine_any s1 l1 A1 A2 A3 n1 c1 n2 c2 n3 c3 f1 f2 f3 t1 u1 B1 B2 B3 m1 d1 m2 d2 m3 d3 g1 g2 g3 W h1 h2 h3 y1 y2 y3 i1 i2 i3 y4 y5 y6)
  have HC1 := Lib.hid (fun W y1 y2 y3 y4 => implSamePlain_any A4 A5 B4 B5 n4 n5 m4 m5 c4 c5 d4 d5 s2 l2 t2 u2 f4 g4 f5 g5 W h4 h5 i4 i5 y1 y2 y3 y4)
  have HC2 := Lib.hid (fun W y1 y2 => implSameGrammar_any s3 l3 A6 n6 c6 f6 t3 u3 B6 m6 d6 g6 W h6 y1 i6 y2)
  have HC3 := Lib.hid (fun W y1 y2 => slicesEqualI_any A7 B7 n7 m7 c7 d7 f7 g7 W (by omega) (by omega) y1 y2)
  generalize sameDB s1 l1 s2 l2 s3 l3 t1 u1 t2 u2 t3 u3 n1 n2 n3 n4 n5 n6 n7 m1 m2 m3 m4 m5 m6 m7 f1 f2 f3 f4 f5 f6 f7 g1 g2 g3 g4 g5 g6 g7 = r at *
  generalize sameMB s1 t1 l1 u1 f1 g1 n1 m1 f2 g2 n2 m2 f3 g3 n3 m3 = r0 at *
  generalize samePB s2 t2 l2 u2 f4 g4 n4 m4 f5 g5 n5 m5 = r1 at *
  generalize sameGB s3 t3 l3 u3 f6 g6 n6 m6 = r2 at *
  generalize rowEqB f7 g7 n7 m7 = r3 at *
  cases r0
  · skip
    go_enter Try.func12, Try.ntmps12
    go_wp2_with fail
    refine (HC0.out _ (k1.out.below (by repeat (first | with_reducible exact Below.refl _ _ | exact Hid.out (by with_reducible assumption) | refine Below.setCell ?_ (by simp <;> omega) _ | refine below_alloc ?_ _ | refine Below.alloc ?_ (by simp <;> omega) _ | refine Below.drew ?_ | refine below_drewN ?_ _))) (k2.out.below (by repeat (first | with_reducible exact Below.refl _ _ | exact Hid.out (by with_reducible assumption) | refine Below.setCell ?_ (by simp <;> omega) _ | refine below_alloc ?_ _ | refine Below.alloc ?_ (by simp <;> omega) _ | refine Below.drew ?_ | refine below_drewN ?_ _))) (k3.out.below (by repeat (first | with_reducible exact Below.refl _ _ | exact Hid.out (by with_reducible assumption) | refine Below.setCell ?_ (by simp <;> omega) _ | refine below_alloc ?_ _ | refine Below.alloc ?_ (by simp <;> omega) _ | refine Below.drew ?_ | refine below_drewN ?_ _))) (j1.out.below (by repeat (first | with_reducible exact Below.refl _ _ | exact Hid.out (by with_reducible assumption) | refine Below.setCell ?_ (by simp <;> omega) _ | refine below_alloc ?_ _ | refine Below.alloc ?_ (by simp <;> omega) _ | refine Below.drew ?_ | refine below_drewN ?_ _))) (j2.out.below (by repeat (first | with_reducible exact Below.refl _ _ | exact Hid.out (by with_reducible assumption) | refine Below.setCell ?_ (by simp <;> omega) _ | refine below_alloc ?_ _ | refine Below.alloc ?_ (by simp <;> omega) _ | refine Below.drew ?_ | refine below_drewN ?_ _))) (j3.out.below (by repeat (first | with_reducible exact Below.refl _ _ | exact Hid.out (by with_reducible assumption) | refine Below.setCell ?_ (by simp <;> omega) _ | refine below_alloc ?_ _ | refine Below.alloc ?_ (by simp <;> omega) _ | refine Below.drew ?_ | refine below_drewN ?_ _)))).mono ?_
    rintro e w1 ⟨rfl, hb⟩
    have N1 := Lib.hid (show Below w.heap.size w w1 from Below.trans (by repeat (first | with_reducible exact Below.refl _ _ | exact Hid.out (by with_reducible assumption) | refine Below.setCell ?_ (by simp <;> omega) _ | refine below_alloc ?_ _ | refine Below.alloc ?_ (by simp <;> omega) _ | refine Below.drew ?_ | refine below_drewN ?_ _)) (hb.mono (by simp <;> omega)))
    have X1 := Lib.hid (Box13.below (Box13.alloc (Box13.new w 44 (.int .i64 s1) (.int .i64 l1) (.slice A1 n1 c1) (.slice A2 n2 c2) (.slice A3 n3 c3) (.int .i64 s2) (.int .i64 l2) (.slice A4 n4 c4) (.slice A5 n5 c5) (.int .i64 s3) (.int .i64 l3) (.slice A6 n6 c6) (.slice A7 n7 c7)) _) hb)
    have Y1 := Lib.hid (Box13.below (show Box13 _ (w.heap.size + 1) _ _ _ _ _ _ _ _ _ _ _ _ _ from by simpa using (Box13.new (w.alloc (.cells #[.int .i64 s1, .int .i64 l1, .slice A1 n1 c1, .slice A2 n2 c2, .slice A3 n3 c3, .int .i64 s2, .int .i64 l2, .slice A4 n4 c4, .slice A5 n5 c5, .int .i64 s3, .int .i64 l3, .slice A6 n6 c6, .slice A7 n7 c7] 44)) 44 (.int .i64 t1) (.int .i64 u1) (.slice B1 m1 d1) (.slice B2 m2 d2) (.slice B3 m3 d3) (.int .i64 t2) (.int .i64 u2) (.slice B4 m4 d4) (.slice B5 m5 d5) (.int .i64 t3) (.int .i64 u3) (.slice B6 m6 d6) (.slice B7 m7 d7))) hb)
    clear hb
    obtain ⟨x0, x1, x2, x3, x4, x5, x6, x7, x8, x9, x10, x11, x12⟩ := X1.out
    obtain ⟨y0, y1, y2, y3, y4, y5, y6, y7, y8, y9, y10, y11, y12⟩ := Y1.out
    go_wp2_with fail
    go_ret
    exact ⟨ret_bool (by rw [HU.out] <;> simp), N1.out⟩
  cases r1
  · skip
    go_enter Try.func12, Try.ntmps12
    go_wp2_with fail
    refine (HC0.out _ (k1.out.below (by repeat (first | with_reducible exact Below.refl _ _ | exact Hid.out (by with_reducible assumption) | refine Below.setCell ?_ (by simp <;> omega) _ | refine below_alloc ?_ _ | refine Below.alloc ?_ (by simp <;> omega) _ | refine Below.drew ?_ | refine below_drewN ?_ _))) (k2.out.below (by repeat (first | with_reducible exact Below.refl _ _ | exact Hid.out (by with_reducible assumption) | refine Below.setCell ?_ (by simp <;> omega) _ | refine below_alloc ?_ _ | refine Below.alloc ?_ (by simp <;> omega) _ | refine Below.drew ?_ | refine below_drewN ?_ _))) (k3.out.below (by repeat (first | with_reducible exact Below.refl _ _ | exact Hid.out (by with_reducible assumption) | refine Below.setCell ?_ (by simp <;> omega) _ | refine below_alloc ?_ _ | refine Below.alloc ?_ (by simp <;> omega) _ | refine Below.drew ?_ | refine below_drewN ?_ _))) (j1.out.below (by repeat (first | with_reducible exact Below.refl _ _ | exact Hid.out (by with_reducible assumption) | refine Below.setCell ?_ (by simp <;> omega) _ | refine below_alloc ?_ _ | refine Below.alloc ?_ (by simp <;> omega) _ | refine Below.drew ?_ | refine below_drewN ?_ _))) (j2.out.below (by repeat (first | with_reducible exact Below.refl _ _ | exact Hid.out (by with_reducible assumption) | refine Below.setCell ?_ (by simp <;> omega) _ | refine below_alloc ?_ _ | refine Below.alloc ?_ (by simp <;> omega) _ | refine Below.drew ?_ | refine below_drewN ?_ _))) (j3.out.below (by repeat (first | with_reducible exact Below.refl _ _ | exact Hid.out (by with_reducible assumption) | refine Below.setCell ?_ (by simp <;> omega) _ | refine below_alloc ?_ _ | refine Below.alloc ?_ (by simp <;> omega) _ | refine Below.drew ?_ | refine below_drewN ?_ _)))).mono ?_
    rintro e w1 ⟨rfl, hb⟩
    have N1 := Lib.hid (show Below w.heap.size w w1 from Below.trans (by repeat (first | with_reducible exact Below.refl _ _ | exact Hid.out (by with_reducible assumption) | refine Below.setCell ?_ (by simp <;> omega) _ | refine below_alloc ?_ _ | refine Below.alloc ?_ (by simp <;> omega) _ | refine Below.drew ?_ | refine below_drewN ?_ _)) (hb.mono (by simp <;> omega)))
    have X1 := Lib.hid (Box13.below (Box13.alloc (Box13.new w 44 (.int .i64 s1) (.int .i64 l1) (.slice A1 n1 c1) (.slice A2 n2 c2) (.slice A3 n3 c3) (.int .i64 s2) (.int .i64 l2) (.slice A4 n4 c4) (.slice A5 n5 c5) (.int .i64 s3) (.int .i64 l3) (.slice A6 n6 c6) (.slice A7 n7 c7)) _) hb)
    have Y1 := Lib.hid (Box13.below (show Box13 _ (w.heap.size + 1) _ _ _ _ _ _ _ _ _ _ _ _ _ from by simpa using (Box13.new (w.alloc (.cells #[.int .i64 s1, .int .i64 l1, .slice A1 n1 c1, .slice A2 n2 c2, .slice A3 n3 c3, .int .i64 s2, .int .i64 l2, .slice A4 n4 c4, .slice A5 n5 c5, .int .i64 s3, .int .i64 l3, .slice A6 n6 c6, .slice A7 n7 c7] 44)) 44 (.int .i64 t1) (.int .i64 u1) (.slice B1 m1 d1) (.slice B2 m2 d2) (.slice B3 m3 d3) (.int .i64 t2) (.int .i64 u2) (.slice B4 m4 d4) (.slice B5 m5 d5) (.int .i64 t3) (.int .i64 u3) (.slice B6 m6 d6) (.slice B7 m7 d7))) hb)
    clear hb
    obtain ⟨x0, x1, x2, x3, x4, x5, x6, x7, x8, x9, x10, x11, x12⟩ := X1.out
    obtain ⟨y0, y1, y2, y3, y4, y5, y6, y7, y8, y9, y10, y11, y12⟩ := Y1.out
    go_wp2_with fail
    refine (HC1.out _ (k4.out.below (by repeat (first | with_reducible exact Below.refl _ _ | exact Hid.out (by with_reducible assumption) | refine Below.setCell ?_ (by simp <;> omega) _ | refine below_alloc ?_ _ | refine Below.alloc ?_ (by simp <;> omega) _ | refine Below.drew ?_ | refine below_drewN ?_ _))) (k5.out.below (by repeat (first | with_reducible exact Below.refl _ _ | exact Hid.out (by with_reducible assumption) | refine Below.setCell ?_ (by simp <;> omega) _ | refine below_alloc ?_ _ | refine Below.alloc ?_ (by simp <;> omega) _ | refine Below.drew ?_ | refine below_drewN ?_ _))) (j4.out.below (by repeat (first | with_reducible exact Below.refl _ _ | exact Hid.out (by with_reducible assumption) | refine Below.setCell ?_ (by simp <;> omega) _ | refine below_alloc ?_ _ | refine Below.alloc ?_ (by simp <;> omega) _ | refine Below.drew ?_ | refine below_drewN ?_ _))) (j5.out.below (by repeat (first | with_reducible exact Below.refl _ _ | exact Hid.out (by with_reducible assumption) | refine Below.setCell ?_ (by simp <;> omega) _ | refine below_alloc ?_ _ | refine Below.alloc ?_ (by simp <;> omega) _ | refine Below.drew ?_ | refine below_drewN ?_ _)))).mono ?_
    rintro e w2 ⟨rfl, hb⟩
    have N2 := Lib.hid (show Below w.heap.size w w2 from Below.trans (by repeat (first | with_reducible exact Below.refl _ _ | exact Hid.out (by with_reducible assumption) | refine Below.setCell ?_ (by simp <;> omega) _ | refine below_alloc ?_ _ | refine Below.alloc ?_ (by simp <;> omega) _ | refine Below.drew ?_ | refine below_drewN ?_ _)) (hb.mono (by exact N1.out.size)))
    have X2 := Lib.hid (X1.out.below hb)
    have Y2 := Lib.hid (Y1.out.below hb)
    clear hb
    clear x0 y0 x1 y1 x2 y2 x3 y3 x4 y4 x5 y5 x6 y6 x7 y7 x8 y8 x9 y9 x10 y10 x11 y11 x12 y12
    obtain ⟨x0, x1, x2, x3, x4, x5, x6, x7, x8, x9, x10, x11, x12⟩ := X2.out
    obtain ⟨y0, y1, y2, y3, y4, y5, y6, y7, y8, y9, y10, y11, y12⟩ := Y2.out
    go_wp2_with fail
    go_ret
    exact ⟨ret_bool (by rw [HU.out] <;> simp), N2.out⟩
  cases r2
  · skip
    go_enter Try.func12, Try.ntmps12
    go_wp2_with fail
    refine (HC0.out _ (k1.out.below (by repeat (first | with_reducible exact Below.refl _ _ | exact Hid.out (by with_reducible assumption) | refine Below.setCell ?_ (by simp <;> omega) _ | refine below_alloc ?_ _ | refine Below.alloc ?_ (by simp <;> omega) _ | refine Below.drew ?_ | refine below_drewN ?_ _))) (k2.out.below (by repeat (first | with_reducible exact Below.refl _ _ | exact Hid.out (by with_reducible assumption) | refine Below.setCell ?_ (by simp <;> omega) _ | refine below_alloc ?_ _ | refine Below.alloc ?_ (by simp <;> omega) _ | refine Below.drew ?_ | refine below_drewN ?_ _))) (k3.out.below (by repeat (first | with_reducible exact Below.refl _ _ | exact Hid.out (by with_reducible assumption) | refine Below.setCell ?_ (by simp <;> omega) _ | refine below_alloc ?_ _ | refine Below.alloc ?_ (by simp <;> omega) _ | refine Below.drew ?_ | refine below_drewN ?_ _))) (j1.out.below (by repeat (first | with_reducible exact Below.refl _ _ | exact Hid.out (by with_reducible assumption) | refine Below.setCell ?_ (by simp <;> omega) _ | refine below_alloc ?_ _ | refine Below.alloc ?_ (by simp <;> omega) _ | refine Below.drew ?_ | refine below_drewN ?_ _))) (j2.out.below (by repeat (first | with_reducible exact Below.refl _ _ | exact Hid.out (by with_reducible assumption) | refine Below.setCell ?_ (by simp <;> omega) _ | refine below_alloc ?_ _ | refine Below.alloc ?_ (by simp <;> omega) _ | refine Below.drew ?_ | refine below_drewN ?_ _))) (j3.out.below (by repeat (first | with_reducible exact Below.refl _ _ | exact Hid.out (by with_reducible assumption) | refine Below.setCell ?_ (by simp <;> omega) _ | refine below_alloc ?_ _ | refine Below.alloc ?_ (by simp <;> omega) _ | refine Below.drew ?_ | refine below_drewN ?_ _)))).mono ?_
    rintro e w1 ⟨rfl, hb⟩
    have N1 := Lib.hid (show Below w.heap.size w w1 from Below.trans (by repeat (first | with_reducible exact Below.refl _ _ | exact Hid.out (by with_reducible assumption) | refine Below.setCell ?_ (by simp <;> omega) _ | refine below_alloc ?_ _ | refine Below.alloc ?_ (by simp <;> omega) _ | refine Below.drew ?_ | refine below_drewN ?_ _)) (hb.mono (by simp <;> omega)))
    have X1 := Lib.hid (Box13.below (Box13.alloc (Box13.new w 44 (.int .i64 s1) (.int .i64 l1) (.slice A1 n1 c1) (.slice A2 n2 c2) (.slice A3 n3 c3) (.int .i64 s2) (.int .i64 l2) (.slice A4 n4 c4) (.slice A5 n5 c5) (.int .i64 s3) (.int .i64 l3) (.slice A6 n6 c6) (.slice A7 n7 c7)) _) hb)
    have Y1 := Lib.hid (Box13.below (show Box13 _ (w.heap.size + 1) _ _ _ _ _ _ _ _ _ _ _ _ _ from by simpa using (Box13.new (w.alloc (.cells #[.int .i64 s1, .int .i64 l1, .slice A1 n1 c1, .slice A2 n2 c2, .slice A3 n3 c3, .int .i64 s2, .int .i64 l2, .slice A4 n4 c4, .slice A5 n5 c5, .int .i64 s3, .int .i64 l3, .slice A6 n6 c6, .slice A7 n7 c7] 44)) 44 (.int .i64 t1) (.int .i64 u1) (.slice B1 m1 d1) (.slice B2 m2 d2) (.slice B3 m3 d3) (.int .i64 t2) (.int .i64 u2) (.slice B4 m4 d4) (.slice B5 m5 d5) (.int .i64 t3) (.int .i64 u3) (.slice B6 m6 d6) (.slice B7 m7 d7))) hb)
    clear hb
    obtain ⟨x0, x1, x2, x3, x4, x5, x6, x7, x8, x9, x10, x11, x12⟩ := X1.out
    obtain ⟨y0, y1, y2, y3, y4, y5, y6, y7, y8, y9, y10, y11, y12⟩ := Y1.out
    go_wp2_with fail
    refine (HC1.out _ (k4.out.below (by repeat (first | with_reducible exact Below.refl _ _ | exact Hid.out (by with_reducible assumption) | refine Below.setCell ?_ (by simp <;> omega) _ | refine below_alloc ?_ _ | refine Below.alloc ?_ (by simp <;> omega) _ | refine Below.drew ?_ | refine below_drewN ?_ _))) (k5.out.below (by repeat (first | with_reducible exact Below.refl _ _ | exact Hid.out (by with_reducible assumption) | refine Below.setCell ?_ (by simp <;> omega) _ | refine below_alloc ?_ _ | refine Below.alloc ?_ (by simp <;> omega) _ | refine Below.drew ?_ | refine below_drewN ?_ _))) (j4.out.below (by repeat (first | with_reducible exact Below.refl _ _ | exact Hid.out (by with_reducible assumption) | refine Below.setCell ?_ (by simp <;> omega) _ | refine below_alloc ?_ _ | refine Below.alloc ?_ (by simp <;> omega) _ | refine Below.drew ?_ | refine below_drewN ?_ _))) (j5.out.below (by repeat (first | with_reducible exact Below.refl _ _ | exact Hid.out (by with_reducible assumption) | refine Below.setCell ?_ (by simp <;> omega) _ | refine below_alloc ?_ _ | refine Below.alloc ?_ (by simp <;> omega) _ | refine Below.drew ?_ | refine below_drewN ?_ _)))).mono ?_
    rintro e w2 ⟨rfl, hb⟩
    have N2 := Lib.hid (show Below w.heap.size w w2 from Below.trans (by repeat (first | with_reducible exact Below.refl _ _ | exact Hid.out (by with_reducible assumption) | refine Below.setCell ?_ (by simp <;> omega) _ | refine below_alloc ?_ _ | refine Below.alloc ?_ (by simp <;> omega) _ | refine Below.drew ?_ | refine below_drewN ?_ _)) (hb.mono (by exact N1.out.size)))
    have X2 := Lib.hid (X1.out.below hb)
    have Y2 := Lib.hid (Y1.out.below hb)
    clear hb
    clear x0 y0 x1 y1 x2 y2 x3 y3 x4 y4 x5 y5 x6 y6 x7 y7 x8 y8 x9 y9 x10 y10 x11 y11 x12 y12
    obtain ⟨x0, x1, x2, x3, x4, x5, x6, x7, x8, x9, x10, x11, x12⟩ := X2.out
    obtain ⟨y0, y1, y2, y3, y4, y5, y6, y7, y8, y9, y10, y11, y12⟩ := Y2.out
    go_wp2_with fail
    refine (HC2.out _ (k6.out.below (by repeat (first | with_reducible exact Below.refl _ _ | exact Hid.out (by with_reducible assumption) | refine Below.setCell ?_ (by simp <;> omega) _ | refine below_alloc ?_ _ | refine Below.alloc ?_ (by simp <;> omega) _ | refine Below.drew ?_ | refine below_drewN ?_ _))) (j6.out.below (by repeat (first | with_reducible exact Below.refl _ _ | exact Hid.out (by with_reducible assumption) | refine Below.setCell ?_ (by simp <;> omega) _ | refine below_alloc ?_ _ | refine Below.alloc ?_ (by simp <;> omega) _ | refine Below.drew ?_ | refine below_drewN ?_ _)))).mono ?_
    rintro e w3 ⟨rfl, hb⟩
    have N3 := Lib.hid (show Below w.heap.size w w3 from Below.trans (by repeat (first | with_reducible exact Below.refl _ _ | exact Hid.out (by with_reducible assumption) | refine Below.setCell ?_ (by simp <;> omega) _ | refine below_alloc ?_ _ | refine Below.alloc ?_ (by simp <;> omega) _ | refine Below.drew ?_ | refine below_drewN ?_ _)) (hb.mono (by exact N2.out.size)))
    have X3 := Lib.hid (X2.out.below hb)
    have Y3 := Lib.hid (Y2.out.below hb)
    clear hb
    clear x0 y0 x1 y1 x2 y2 x3 y3 x4 y4 x5 y5 x6 y6 x7 y7 x8 y8 x9 y9 x10 y10 x11 y11 x12 y12
    obtain ⟨x0, x1, x2, x3, x4, x5, x6, x7, x8, x9, x10, x11, x12⟩ := X3.out
    obtain ⟨y0, y1, y2, y3, y4, y5, y6, y7, y8, y9, y10, y11, y12⟩ := Y3.out
    go_wp2_with fail
    go_ret
    exact ⟨ret_bool (by rw [HU.out] <;> simp), N3.out⟩
  go_enter Try.func12, Try.ntmps12
  go_wp2_with fail
  refine (HC0.out _ (k1.out.below (by repeat (first | with_reducible exact Below.refl _ _ | exact Hid.out (by with_reducible assumption) | refine Below.setCell ?_ (by simp <;> omega) _ | refine below_alloc ?_ _ | refine Below.alloc ?_ (by simp <;> omega) _ | refine Below.drew ?_ | refine below_drewN ?_ _))) (k2.out.below (by repeat (first | with_reducible exact Below.refl _ _ | exact Hid.out (by with_reducible assumption) | refine Below.setCell ?_ (by simp <;> omega) _ | refine below_alloc ?_ _ | refine Below.alloc ?_ (by simp <;> omega) _ | refine Below.drew ?_ | refine below_drewN ?_ _))) (k3.out.below (by repeat (first | with_reducible exact Below.refl _ _ | exact Hid.out (by with_reducible assumption) | refine Below.setCell ?_ (by simp <;> omega) _ | refine below_alloc ?_ _ | refine Below.alloc ?_ (by simp <;> omega) _ | refine Below.drew ?_ | refine below_drewN ?_ _))) (j1.out.below (by repeat (first | with_reducible exact Below.refl _ _ | exact Hid.out (by with_reducible assumption) | refine Below.setCell ?_ (by simp <;> omega) _ | refine below_alloc ?_ _ | refine Below.alloc ?_ (by simp <;> omega) _ | refine Below.drew ?_ | refine below_drewN ?_ _))) (j2.out.below (by repeat (first | with_reducible exact Below.refl _ _ | exact Hid.out (by with_reducible assumption) | refine Below.setCell ?_ (by simp <;> omega) _ | refine below_alloc ?_ _ | refine Below.alloc ?_ (by simp <;> omega) _ | refine Below.drew ?_ | refine below_drewN ?_ _))) (j3.out.below (by repeat (first | with_reducible exact Below.refl _ _ | exact Hid.out (by with_reducible assumption) | refine Below.setCell ?_ (by simp <;> omega) _ | refine below_alloc ?_ _ | refine Below.alloc ?_ (by simp <;> omega) _ | refine Below.drew ?_ | refine below_drewN ?_ _)))).mono ?_
  rintro e w1 ⟨rfl, hb⟩
  have N1 := Lib.hid (show Below w.heap.size w w1 from Below.trans (by repeat (first | with_reducible exact Below.refl _ _ | exact Hid.out (by with_reducible assumption) | refine Below.setCell ?_ (by simp <;> omega) _ | refine below_alloc ?_ _ | refine Below.alloc ?_ (by simp <;> omega) _ | refine Below.drew ?_ | refine below_drewN ?_ _)) (hb.mono (by simp <;> omega)))
  have X1 := Lib.hid (Box13.below (Box13.alloc (Box13.new w 44 (.int .i64 s1) (.int .i64 l1) (.slice A1 n1 c1) (.slice A2 n2 c2) (.slice A3 n3 c3) (.int .i64 s2) (.int .i64 l2) (.slice A4 n4 c4) (.slice A5 n5 c5) (.int .i64 s3) (.int .i64 l3) (.slice A6 n6 c6) (.slice A7 n7 c7)) _) hb)
  have Y1 := Lib.hid (Box13.below (show Box13 _ (w.heap.size + 1) _ _ _ _ _ _ _ _ _ _ _ _ _ from by simpa using (Box13.new (w.alloc (.cells #[.int .i64 s1, .int .i64 l1, .slice A1 n1 c1, .slice A2 n2 c2, .slice A3 n3 c3, .int .i64 s2, .int .i64 l2, .slice A4 n4 c4, .slice A5 n5 c5, .int .i64 s3, .int .i64 l3, .slice A6 n6 c6, .slice A7 n7 c7] 44)) 44 (.int .i64 t1) (.int .i64 u1) (.slice B1 m1 d1) (.slice B2 m2 d2) (.slice B3 m3 d3) (.int .i64 t2) (.int .i64 u2) (.slice B4 m4 d4) (.slice B5 m5 d5) (.int .i64 t3) (.int .i64 u3) (.slice B6 m6 d6) (.slice B7 m7 d7))) hb)
  clear hb
  obtain ⟨x0, x1, x2, x3, x4, x5, x6, x7, x8, x9, x10, x11, x12⟩ := X1.out
  obtain ⟨y0, y1, y2, y3, y4, y5, y6, y7, y8, y9, y10, y11, y12⟩ := Y1.out
  go_wp2_with fail
  refine (HC1.out _ (k4.out.below (by repeat (first | with_reducible exact Below.refl _ _ | exact Hid.out (by with_reducible assumption) | refine Below.setCell ?_ (by simp <;> omega) _ | refine below_alloc ?_ _ | refine Below.alloc ?_ (by simp <;> omega) _ | refine Below.drew ?_ | refine below_drewN ?_ _))) (k5.out.below (by repeat (first | with_reducible exact Below.refl _ _ | exact Hid.out (by with_reducible assumption) | refine Below.setCell ?_ (by simp <;> omega) _ | refine below_alloc ?_ _ | refine Below.alloc ?_ (by simp <;> omega) _ | refine Below.drew ?_ | refine below_drewN ?_ _))) (j4.out.below (by repeat (first | with_reducible exact Below.refl _ _ | exact Hid.out (by with_reducible assumption) | refine Below.setCell ?_ (by simp <;> omega) _ | refine below_alloc ?_ _ | refine Below.alloc ?_ (by simp <;> omega) _ | refine Below.drew ?_ | refine below_drewN ?_ _))) (j5.out.below (by repeat (first | with_reducible exact Below.refl _ _ | exact Hid.out (by with_reducible assumption) | refine Below.setCell ?_ (by simp <;> omega) _ | refine below_alloc ?_ _ | refine Below.alloc ?_ (by simp <;> omega) _ | refine Below.drew ?_ | refine below_drewN ?_ _)))).mono ?_
  rintro e w2 ⟨rfl, hb⟩
  have N2 := Lib.hid (show Below w.heap.size w w2 from Below.trans (by repeat (first | with_reducible exact Below.refl _ _ | exact Hid.out (by with_reducible assumption) | refine Below.setCell ?_ (by simp <;> omega) _ | refine below_alloc ?_ _ | refine Below.alloc ?_ (by simp <;> omega) _ | refine Below.drew ?_ | refine below_drewN ?_ _)) (hb.mono (by exact N1.out.size)))
  have X2 := Lib.hid (X1.out.below hb)
  have Y2 := Lib.hid (Y1.out.below hb)
  clear hb
  clear x0 y0 x1 y1 x2 y2 x3 y3 x4 y4 x5 y5 x6 y6 x7 y7 x8 y8 x9 y9 x10 y10 x11 y11 x12 y12
  obtain ⟨x0, x1, x2, x3, x4, x5, x6, x7, x8, x9, x10, x11, x12⟩ := X2.out
  obtain ⟨y0, y1, y2, y3, y4, y5, y6, y7, y8, y9, y10, y11, y12⟩ := Y2.out
  go_wp2_with fail
  refine (HC2.out _ (k6.out.below (by repeat (first | with_reducible exact Below.refl _ _ | exact Hid.out (by with_reducible assumption) | refine Below.setCell ?_ (by simp <;> omega) _ | refine below_alloc ?_ _ | refine Below.alloc ?_ (by simp <;> omega) _ | refine Below.drew ?_ | refine below_drewN ?_ _))) (j6.out.below (by repeat (first | with_reducible exact Below.refl _ _ | exact Hid.out (by with_reducible assumption) | refine Below.setCell ?_ (by simp <;> omega) _ | refine below_alloc ?_ _ | refine Below.alloc ?_ (by simp <;> omega) _ | refine Below.drew ?_ | refine below_drewN ?_ _)))).mono ?_
  rintro e w3 ⟨rfl, hb⟩
  have N3 := Lib.hid (show Below w.heap.size w w3 from Below.trans (by repeat (first | with_reducible exact Below.refl _ _ | exact Hid.out (by with_reducible assumption) | refine Below.setCell ?_ (by simp <;> omega) _ | refine below_alloc ?_ _ | refine Below.alloc ?_ (by simp <;> omega) _ | refine Below.drew ?_ | refine below_drewN ?_ _)) (hb.mono (by exact N2.out.size)))
  have X3 := Lib.hid (X2.out.below hb)
  have Y3 := Lib.hid (Y2.out.below hb)
  clear hb
  clear x0 y0 x1 y1 x2 y2 x3 y3 x4 y4 x5 y5 x6 y6 x7 y7 x8 y8 x9 y9 x10 y10 x11 y11 x12 y12
  obtain ⟨x0, x1, x2, x3, x4, x5, x6, x7, x8, x9, x10, x11, x12⟩ := X3.out
  obtain ⟨y0, y1, y2, y3, y4, y5, y6, y7, y8, y9, y10, y11, y12⟩ := Y3.out
  go_wp2_with fail
  refine (HC3.out _ (k7.out.below (by repeat (first | with_reducible exact Below.refl _ _ | exact Hid.out (by with_reducible assumption) | refine Below.setCell ?_ (by simp <;> omega) _ | refine below_alloc ?_ _ | refine Below.alloc ?_ (by simp <;> omega) _ | refine Below.drew ?_ | refine below_drewN ?_ _))) (j7.out.below (by repeat (first | with_reducible exact Below.refl _ _ | exact Hid.out (by with_reducible assumption) | refine Below.setCell ?_ (by simp <;> omega) _ | refine below_alloc ?_ _ | refine Below.alloc ?_ (by simp <;> omega) _ | refine Below.drew ?_ | refine below_drewN ?_ _)))).mono ?_
  rintro e w4 ⟨rfl, mq, hw⟩
  skip
  have N4 := Lib.hid (show Below w.heap.size w w4 from by rw [hw]; exact below_drewN N3.out _)
  clear hw
  go_wp2_with fail
  go_ret
  exact ⟨ret_bool (by rw [HU.out] <;> simp), N4.out⟩
set_option maxHeartbeats 8000000 in
theorem specSameDesk_any (s1 l1 s2 l2 s3 l3 : Int) (A1 A2 A3 A4 A5 A6 A7 : Option Addr) (n1 c1 n2 c2 n3 c3 n4 c4 n5 c5 n6 c6 n7 c7 : Nat) (f1 f2 f3 f4 : Nat → Int) (f5 : Nat → Bool) (f6 f7 : Nat → Int) (t1 u1 t2 u2 t3 u3 : Int) (B1 B2 B3 B4 B5 B6 B7 : Option Addr) (m1 d1 m2 d2 m3 d3 m4 d4 m5 d5 m6 d6 m7 d7 : Nat) (g1 g2 g3 g4 : Nat → Int) (g5 : Nat → Bool) (g6 g7 : Nat → Int) (w : World) (h1 : n1 ≤ 1048576) (h2 : n2 ≤ 1048576) (h3 : n3 ≤ 1048576) (h4 : n4 ≤ 1048576) (h5 : n5 ≤ 1048576) (h6 : n6 ≤ 1048576) (h7 : n7 ≤ 1048576) (k1 : Cells w A1 (n1 * 4) (fun i => .int .i64 (f1 i))) (k2 : Cells w A2 n2 (fun i => .int .i64 (f2 i))) (k3 : Cells w A3 n3 (fun i => .int .i64 (f3 i))) (k4 : Cells w A4 n4 (fun i => .int .i64 (f4 i))) (k5 : Cells w A5 n5 (fun i => .bool (f5 i))) (k6 : Cells w A6 (n6 * 4) (fun i => .int .i64 (f6 i))) (k7 : Cells w A7 n7 (fun i => .int .i64 (f7 i))) (i1 : m1 ≤ 1048576) (i2 : m2 ≤ 1048576) (i3 : m3 ≤ 1048576) (i4 : m4 ≤ 1048576) (i5 : m5 ≤ 1048576) (i6 : m6 ≤ 1048576) (i7 : m7 ≤ 1048576) (j1 : Cells w B1 (m1 * 4) (fun i => .int .i64 (g1 i))) (j2 : Cells w B2 m2 (fun i => .int .i64 (g2 i))) (j3 : Cells w B3 m3 (fun i => .int .i64 (g3 i))) (j4 : Cells w B4 m4 (fun i => .int .i64 (g4 i))) (j5 : Cells w B5 m5 (fun i => .bool (g5 i))) (j6 : Cells w B6 (m6 * 4) (fun i => .int .i64 (g6 i))) (j7 : Cells w B7 m7 (fun i => .int .i64 (g7 i))) :
    Calls Try.prog 11 #[.agg #[.int .i64 s1, .int .i64 l1, .slice A1 n1 c1, .slice A2 n2 c2, .slice A3 n3 c3, .int .i64 s2, .int .i64 l2, .slice A4 n4 c4, .slice A5 n5 c5, .int .i64 s3, .int .i64 l3, .slice A6 n6 c6, .slice A7 n7 c7], .agg #[.int .i64 t1, .int .i64 u1, .slice B1 m1 d1, .slice B2 m2 d2, .slice B3 m3 d3, .int .i64 t2, .int .i64 u2, .slice B4 m4 d4, .slice B5 m5 d5, .int .i64 t3, .int .i64 u3, .slice B6 m6 d6, .slice B7 m7 d7]] w fun e w' => e = .returned (.bool (sameDB s1 l1 s2 l2 s3 l3 t1 u1 t2 u2 t3 u3 n1 n2 n3 n4 n5 n6 n7 m1 m2 m3 m4 m5 m6 m7 f1 f2 f3 f4 f5 f6 f7 g1 g2 g3 g4 g5 g6 g7)) ∧ Below w.heap.size w w' := by
  have HU := Lib.hid (show sameDB s1 l1 s2 l2 s3 l3 t1 u1 t2 u2 t3 u3 n1 n2 n3 n4 n5 n6 n7 m1 m2 m3 m4 m5 m6 m7 f1 f2 f3 f4 f5 f6 f7 g1 g2 g3 g4 g5 g6 g7 = (sameMB s1 t1 l1 u1 f1 g1 n1 m1 f2 g2 n2 m2 f3 g3 n3 m3 && (samePB s2 t2 l2 u2 f4 g4 n4 m4 f5 g5 n5 m5 && (sameGB s3 t3 l3 u3 f6 g6 n6 m6 && rowEqB f7 g7 n7 m7))) from rfl)
  have k1 := Lib.hid k1
  have j1 := Lib.hid j1
  have k2 := Lib.hid k2
  have j2 := Lib.hid j2
  have k3 := Lib.hid k3
  have j3 := Lib.hid j3
  have k4 := Lib.hid k4
  have j4 := Lib.hid j4
  have k5 := Lib.hid k5
  have j5 := Lib.hid j5
  have k6 := Lib.hid k6
  have j6 := Lib.hid j6
  have k7 := Lib.hid k7
  have j7 := Lib.hid j7
  have HC0 := Lib.hid (fun P Q W y1 y2 y3 y4 y5 y6 b b2 => l02Same_any P Q s1 l1 A1 A2 A3 n1 c1 n2 c2 n3 c3 f1 f2 f3 t1 u1 B1 B2 B3 m1 d1 m2 d2 m3 d3 g1 g2 g3 W h1 h2 h3 y1 y2 y3 i1 i2 i3 y4 y5 y6 b b2)
  have HC1 := Lib.hid (fun P Q W y1 y2 y3 y4 b b2 => l02SamePlain_at5 P Q A4 A5 B4 B5 n4 n5 m4 m5 c4 c5 d4 d5 s2 l2 t2 u2 f4 g4 f5 g5 W h4 h5 i4 i5 y1 y2 y3 y4 b b2)
  have HC2 := Lib.hid (fun P Q W y1 y2 b b2 => l06Same_at9 P Q s3 l3 A6 n6 c6 f6 t3 u3 B6 m6 d6 g6 W h6 y1 i6 y2 b b2)
  have HC3 := Lib.hid (fun W y1 y2 => l02Equal_any A7 B7 n7 m7 c7 d7 f7 g7 W (by omega) (by omega) y1 y2)
  generalize sameDB s1 l1 s2 l2 s3 l3 t1 u1 t2 u2 t3 u3 n1 n2 n3 n4 n5 n6 n7 m1 m2 m3 m4 m5 m6 m7 f1 f2 f3 f4 f5 f6 f7 g1 g2 g3 g4 g5 g6 g7 = r at *
  generalize sameMB s1 t1 l1 u1 f1 g1 n1 m1 f2 g2 n2 m2 f3 g3 n3 m3 = r0 at *
  generalize samePB s2 t2 l2 u2 f4 g4 n4 m4 f5 g5 n5 m5 = r1 at *
  generalize sameGB s3 t3 l3 u3 f6 g6 n6 m6 = r2 at *
  generalize rowEqB f7 g7 n7 m7 = r3 at *
  have X0 := Lib.hid (Box13.alloc (Box13.new w 44 (.int .i64 s1) (.int .i64 l1) (.slice A1 n1 c1) (.slice A2 n2 c2) (.slice A3 n3 c3) (.int .i64 s2) (.int .i64 l2) (.slice A4 n4 c4) (.slice A5 n5 c5) (.int .i64 s3) (.int .i64 l3) (.slice A6 n6 c6) (.slice A7 n7 c7)) (.cells #[.int .i64 t1, .int .i64 u1, .slice B1 m1 d1, .slice B2 m2 d2, .slice B3 m3 d3, .int .i64 t2, .int .i64 u2, .slice B4 m4 d4, .slice B5 m5 d5, .int .i64 t3, .int .i64 u3, .slice B6 m6 d6, .slice B7 m7 d7] 44))
  have Y0 := Lib.hid (show Box13 _ (w.heap.size + 1) _ _ _ _ _ _ _ _ _ _ _ _ _ from by simpa using (Box13.new (w.alloc (.cells #[.int .i64 s1, .int .i64 l1, .slice A1 n1 c1, .slice A2 n2 c2, .slice A3 n3 c3, .int .i64 s2, .int .i64 l2, .slice A4 n4 c4, .slice A5 n5 c5, .int .i64 s3, .int .i64 l3, .slice A6 n6 c6, .slice A7 n7 c7] 44)) 44 (.int .i64 t1) (.int .i64 u1) (.slice B1 m1 d1) (.slice B2 m2 d2) (.slice B3 m3 d3) (.int .i64 t2) (.int .i64 u2) (.slice B4 m4 d4) (.slice B5 m5 d5) (.int .i64 t3) (.int .i64 u3) (.slice B6 m6 d6) (.slice B7 m7 d7)))
  cases r0
  · skip
    go_enter Try.func11, Try.ntmps11
    go_wp2_with fail
    refine (HC0.out _ _ _ (k1.out.below (by repeat (first | with_reducible exact Below.refl _ _ | exact Hid.out (by with_reducible assumption) | refine Below.setCell ?_ (by simp <;> omega) _ | refine below_alloc ?_ _ | refine Below.alloc ?_ (by simp <;> omega) _ | refine Below.drew ?_ | refine below_drewN ?_ _))) (k2.out.below (by repeat (first | with_reducible exact Below.refl _ _ | exact Hid.out (by with_reducible assumption) | refine Below.setCell ?_ (by simp <;> omega) _ | refine below_alloc ?_ _ | refine Below.alloc ?_ (by simp <;> omega) _ | refine Below.drew ?_ | refine below_drewN ?_ _))) (k3.out.below (by repeat (first | with_reducible exact Below.refl _ _ | exact Hid.out (by with_reducible assumption) | refine Below.setCell ?_ (by simp <;> omega) _ | refine below_alloc ?_ _ | refine Below.alloc ?_ (by simp <;> omega) _ | refine Below.drew ?_ | refine below_drewN ?_ _))) (j1.out.below (by repeat (first | with_reducible exact Below.refl _ _ | exact Hid.out (by with_reducible assumption) | refine Below.setCell ?_ (by simp <;> omega) _ | refine below_alloc ?_ _ | refine Below.alloc ?_ (by simp <;> omega) _ | refine Below.drew ?_ | refine below_drewN ?_ _))) (j2.out.below (by repeat (first | with_reducible exact Below.refl _ _ | exact Hid.out (by with_reducible assumption) | refine Below.setCell ?_ (by simp <;> omega) _ | refine below_alloc ?_ _ | refine Below.alloc ?_ (by simp <;> omega) _ | refine Below.drew ?_ | refine below_drewN ?_ _))) (j3.out.below (by repeat (first | with_reducible exact Below.refl _ _ | exact Hid.out (by with_reducible assumption) | refine Below.setCell ?_ (by simp <;> omega) _ | refine below_alloc ?_ _ | refine Below.alloc ?_ (by simp <;> omega) _ | refine Below.drew ?_ | refine below_drewN ?_ _))) X0.out.mach Y0.out.mach).mono ?_
    rintro e w1 ⟨rfl, mq, hw⟩
    skip
    have X1 := Lib.hid (show Box13 w1 _ _ _ _ _ _ _ _ _ _ _ _ _ _ from by rw [hw]; exact X0.out.drewN mq)
    have Y1 := Lib.hid (show Box13 w1 _ _ _ _ _ _ _ _ _ _ _ _ _ _ from by rw [hw]; exact Y0.out.drewN mq)
    have N1 := Lib.hid (show Below w.heap.size w w1 from by rw [hw]; exact (by repeat (first | with_reducible exact Below.refl _ _ | exact Hid.out (by with_reducible assumption) | refine Below.setCell ?_ (by simp <;> omega) _ | refine below_alloc ?_ _ | refine Below.alloc ?_ (by simp <;> omega) _ | refine Below.drew ?_ | refine below_drewN ?_ _)))
    clear hw
    obtain ⟨x0, x1, x2, x3, x4, x5, x6, x7, x8, x9, x10, x11, x12⟩ := X1.out
    obtain ⟨y0, y1, y2, y3, y4, y5, y6, y7, y8, y9, y10, y11, y12⟩ := Y1.out
    go_wp2_with fail
    go_ret
    exact ⟨ret_bool (by rw [HU.out] <;> simp), N1.out⟩
  cases r1
  · skip
    go_enter Try.func11, Try.ntmps11
    go_wp2_with fail
    refine (HC0.out _ _ _ (k1.out.below (by repeat (first | with_reducible exact Below.refl _ _ | exact Hid.out (by with_reducible assumption) | refine Below.setCell ?_ (by simp <;> omega) _ | refine below_alloc ?_ _ | refine Below.alloc ?_ (by simp <;> omega) _ | refine Below.drew ?_ | refine below_drewN ?_ _))) (k2.out.below (by repeat (first | with_reducible exact Below.refl _ _ | exact Hid.out (by with_reducible assumption) | refine Below.setCell ?_ (by simp <;> omega) _ | refine below_alloc ?_ _ | refine Below.alloc ?_ (by simp <;> omega) _ | refine Below.drew ?_ | refine below_drewN ?_ _))) (k3.out.below (by repeat (first | with_reducible exact Below.refl _ _ | exact Hid.out (by with_reducible assumption) | refine Below.setCell ?_ (by simp <;> omega) _ | refine below_alloc ?_ _ | refine Below.alloc ?_ (by simp <;> omega) _ | refine Below.drew ?_ | refine below_drewN ?_ _))) (j1.out.below (by repeat (first | with_reducible exact Below.refl _ _ | exact Hid.out (by with_reducible assumption) | refine Below.setCell ?_ (by simp <;> omega) _ | refine below_alloc ?_ _ | refine Below.alloc ?_ (by simp <;> omega) _ | refine Below.drew ?_ | refine below_drewN ?_ _))) (j2.out.below (by repeat (first | with_reducible exact Below.refl _ _ | exact Hid.out (by with_reducible assumption) | refine Below.setCell ?_ (by simp <;> omega) _ | refine below_alloc ?_ _ | refine Below.alloc ?_ (by simp <;> omega) _ | refine Below.drew ?_ | refine below_drewN ?_ _))) (j3.out.below (by repeat (first | with_reducible exact Below.refl _ _ | exact Hid.out (by with_reducible assumption) | refine Below.setCell ?_ (by simp <;> omega) _ | refine below_alloc ?_ _ | refine Below.alloc ?_ (by simp <;> omega) _ | refine Below.drew ?_ | refine below_drewN ?_ _))) X0.out.mach Y0.out.mach).mono ?_
    rintro e w1 ⟨rfl, mq, hw⟩
    skip
    have X1 := Lib.hid (show Box13 w1 _ _ _ _ _ _ _ _ _ _ _ _ _ _ from by rw [hw]; exact X0.out.drewN mq)
    have Y1 := Lib.hid (show Box13 w1 _ _ _ _ _ _ _ _ _ _ _ _ _ _ from by rw [hw]; exact Y0.out.drewN mq)
    have N1 := Lib.hid (show Below w.heap.size w w1 from by rw [hw]; exact (by repeat (first | with_reducible exact Below.refl _ _ | exact Hid.out (by with_reducible assumption) | refine Below.setCell ?_ (by simp <;> omega) _ | refine below_alloc ?_ _ | refine Below.alloc ?_ (by simp <;> omega) _ | refine Below.drew ?_ | refine below_drewN ?_ _)))
    clear hw
    obtain ⟨x0, x1, x2, x3, x4, x5, x6, x7, x8, x9, x10, x11, x12⟩ := X1.out
    obtain ⟨y0, y1, y2, y3, y4, y5, y6, y7, y8, y9, y10, y11, y12⟩ := Y1.out
    go_wp2_with fail
    refine (HC1.out _ _ _ (k4.out.below (by repeat (first | with_reducible exact Below.refl _ _ | exact Hid.out (by with_reducible assumption) | refine Below.setCell ?_ (by simp <;> omega) _ | refine below_alloc ?_ _ | refine Below.alloc ?_ (by simp <;> omega) _ | refine Below.drew ?_ | refine below_drewN ?_ _))) (k5.out.below (by repeat (first | with_reducible exact Below.refl _ _ | exact Hid.out (by with_reducible assumption) | refine Below.setCell ?_ (by simp <;> omega) _ | refine below_alloc ?_ _ | refine Below.alloc ?_ (by simp <;> omega) _ | refine Below.drew ?_ | refine below_drewN ?_ _))) (j4.out.below (by repeat (first | with_reducible exact Below.refl _ _ | exact Hid.out (by with_reducible assumption) | refine Below.setCell ?_ (by simp <;> omega) _ | refine below_alloc ?_ _ | refine Below.alloc ?_ (by simp <;> omega) _ | refine Below.drew ?_ | refine below_drewN ?_ _))) (j5.out.below (by repeat (first | with_reducible exact Below.refl _ _ | exact Hid.out (by with_reducible assumption) | refine Below.setCell ?_ (by simp <;> omega) _ | refine below_alloc ?_ _ | refine Below.alloc ?_ (by simp <;> omega) _ | refine Below.drew ?_ | refine below_drewN ?_ _))) X1.out.pln Y1.out.pln).mono ?_
    rintro e w2 ⟨rfl, mq, hw⟩
    skip
    have X2 := Lib.hid (show Box13 w2 _ _ _ _ _ _ _ _ _ _ _ _ _ _ from by rw [hw]; exact X1.out.drewN mq)
    have Y2 := Lib.hid (show Box13 w2 _ _ _ _ _ _ _ _ _ _ _ _ _ _ from by rw [hw]; exact Y1.out.drewN mq)
    have N2 := Lib.hid (show Below w.heap.size w w2 from by rw [hw]; exact below_drewN N1.out _)
    clear hw
    clear x0 y0 x1 y1 x2 y2 x3 y3 x4 y4 x5 y5 x6 y6 x7 y7 x8 y8 x9 y9 x10 y10 x11 y11 x12 y12
    obtain ⟨x0, x1, x2, x3, x4, x5, x6, x7, x8, x9, x10, x11, x12⟩ := X2.out
    obtain ⟨y0, y1, y2, y3, y4, y5, y6, y7, y8, y9, y10, y11, y12⟩ := Y2.out
    go_wp2_with fail
    go_ret
    exact ⟨ret_bool (by rw [HU.out] <;> simp), N2.out⟩
  cases r2
  · skip
    go_enter Try.func11, Try.ntmps11
    go_wp2_with fail
    refine (HC0.out _ _ _ (k1.out.below (by repeat (first | with_reducible exact Below.refl _ _ | exact Hid.out (by with_reducible assumption) | refine Below.setCell ?_ (by simp <;> omega) _ | refine below_alloc ?_ _ | refine Below.alloc ?_ (by simp <;> omega) _ | refine Below.drew ?_ | refine below_drewN ?_ _))) (k2.out.below (by repeat (first | with_reducible exact Below.refl _ _ | exact Hid.out (by with_reducible assumption) | refine Below.setCell ?_ (by simp <;> omega) _ | refine below_alloc ?_ _ | refine Below.alloc ?_ (by simp <;> omega) _ | refine Below.drew ?_ | refine below_drewN ?_ _))) (k3.out.below (by repeat (first | with_reducible exact Below.refl _ _ | exact Hid.out (by with_reducible assumption) | refine Below.setCell ?_ (by simp <;> omega) _ | refine below_alloc ?_ _ | refine Below.alloc ?_ (by simp <;> omega) _ | refine Below.drew ?_ | refine below_drewN ?_ _))) (j1.out.below (by repeat (first | with_reducible exact Below.refl _ _ | exact Hid.out (by with_reducible assumption) | refine Below.setCell ?_ (by simp <;> omega) _ | refine below_alloc ?_ _ | refine Below.alloc ?_ (by simp <;> omega) _ | refine Below.drew ?_ | refine below_drewN ?_ _))) (j2.out.below (by repeat (first | with_reducible exact Below.refl _ _ | exact Hid.out (by with_reducible assumption) | refine Below.setCell ?_ (by simp <;> omega) _ | refine below_alloc ?_ _ | refine Below.alloc ?_ (by simp <;> omega) _ | refine Below.drew ?_ | refine below_drewN ?_ _))) (j3.out.below (by repeat (first | with_reducible exact Below.refl _ _ | exact Hid.out (by with_reducible assumption) | refine Below.setCell ?_ (by simp <;> omega) _ | refine below_alloc ?_ _ | refine Below.alloc ?_ (by simp <;> omega) _ | refine Below.drew ?_ | refine below_drewN ?_ _))) X0.out.mach Y0.out.mach).mono ?_
    rintro e w1 ⟨rfl, mq, hw⟩
    skip
    have X1 := Lib.hid (show Box13 w1 _ _ _ _ _ _ _ _ _ _ _ _ _ _ from by rw [hw]; exact X0.out.drewN mq)
    have Y1 := Lib.hid (show Box13 w1 _ _ _ _ _ _ _ _ _ _ _ _ _ _ from by rw [hw]; exact Y0.out.drewN mq)
    have N1 := Lib.hid (show Below w.heap.size w w1 from by rw [hw]; exact (by repeat (first | with_reducible exact Below.refl _ _ | exact Hid.out (by with_reducible assumption) | refine Below.setCell ?_ (by simp <;> omega) _ | refine below_alloc ?_ _ | refine Below.alloc ?_ (by simp <;> omega) _ | refine Below.drew ?_ | refine below_drewN ?_ _)))
    clear hw
    obtain ⟨x0, x1, x2, x3, x4, x5, x6, x7, x8, x9, x10, x11, x12⟩ := X1.out
    obtain ⟨y0, y1, y2, y3, y4, y5, y6, y7, y8, y9, y10, y11, y12⟩ := Y1.out
    go_wp2_with fail
    refine (HC1.out _ _ _ (k4.out.below (by repeat (first | with_reducible exact Below.refl _ _ | exact Hid.out (by with_reducible assumption) | refine Below.setCell ?_ (by simp <;> omega) _ | refine below_alloc ?_ _ | refine Below.alloc ?_ (by simp <;> omega) _ | refine Below.drew ?_ | refine below_drewN ?_ _))) (k5.out.below (by repeat (first | with_reducible exact Below.refl _ _ | exact Hid.out (by with_reducible assumption) | refine Below.setCell ?_ (by simp <;> omega) _ | refine below_alloc ?_ _ | refine Below.alloc ?_ (by simp <;> omega) _ | refine Below.drew ?_ | refine below_drewN ?_ _))) (j4.out.below (by repeat (first | with_reducible exact Below.refl _ _ | exact Hid.out (by with_reducible assumption) | refine Below.setCell ?_ (by simp <;> omega) _ | refine below_alloc ?_ _ | refine Below.alloc ?_ (by simp <;> omega) _ | refine Below.drew ?_ | refine below_drewN ?_ _))) (j5.out.below (by repeat (first | with_reducible exact Below.refl _ _ | exact Hid.out (by with_reducible assumption) | refine Below.setCell ?_ (by simp <;> omega) _ | refine below_alloc ?_ _ | refine Below.alloc ?_ (by simp <;> omega) _ | refine Below.drew ?_ | refine below_drewN ?_ _))) X1.out.pln Y1.out.pln).mono ?_
    rintro e w2 ⟨rfl, mq, hw⟩
    skip
    have X2 := Lib.hid (show Box13 w2 _ _ _ _ _ _ _ _ _ _ _ _ _ _ from by rw [hw]; exact X1.out.drewN mq)
    have Y2 := Lib.hid (show Box13 w2 _ _ _ _ _ _ _ _ _ _ _ _ _ _ from by rw [hw]; exact Y1.out.drewN mq)
    have N2 := Lib.hid (show Below w.heap.size w w2 from by rw [hw]; exact below_drewN N1.out _)
    clear hw
    clear x0 y0 x1 y1 x2 y2 x3 y3 x4 y4 x5 y5 x6 y6 x7 y7 x8 y8 x9 y9 x10 y10 x11 y11 x12 y12
    obtain ⟨x0, x1, x2, x3, x4, x5, x6, x7, x8, x9, x10, x11, x12⟩ := X2.out
    obtain ⟨y0, y1, y2, y3, y4, y5, y6, y7, y8, y9, y10, y11, y12⟩ := Y2.out
    go_wp2_with fail
    refine (HC2.out _ _ _ (k6.out.below (by repeat (first | with_reducible exact Below.refl _ _ | exact Hid.out (by with_reducible assumption) | refine Below.setCell ?_ (by simp <;> omega) _ | refine below_alloc ?_ _ | refine Below.alloc ?_ (by simp <;> omega) _ | refine Below.drew ?_ | refine below_drewN ?_ _))) (j6.out.below (by repeat (first | with_reducible exact Below.refl _ _ | exact Hid.out (by with_reducible assumption) | refine Below.setCell ?_ (by simp <;> omega) _ | refine below_alloc ?_ _ | refine Below.alloc ?_ (by simp <;> omega) _ | refine Below.drew ?_ | refine below_drewN ?_ _))) X2.out.grm Y2.out.grm).mono ?_
    rintro e w3 ⟨rfl, mq, hw⟩
    skip
    have X3 := Lib.hid (show Box13 w3 _ _ _ _ _ _ _ _ _ _ _ _ _ _ from by rw [hw]; exact X2.out.drewN mq)
    have Y3 := Lib.hid (show Box13 w3 _ _ _ _ _ _ _ _ _ _ _ _ _ _ from by rw [hw]; exact Y2.out.drewN mq)
    have N3 := Lib.hid (show Below w.heap.size w w3 from by rw [hw]; exact below_drewN N2.out _)
    clear hw
    clear x0 y0 x1 y1 x2 y2 x3 y3 x4 y4 x5 y5 x6 y6 x7 y7 x8 y8 x9 y9 x10 y10 x11 y11 x12 y12
    obtain ⟨x0, x1, x2, x3, x4, x5, x6, x7, x8, x9, x10, x11, x12⟩ := X3.out
    obtain ⟨y0, y1, y2, y3, y4, y5, y6, y7, y8, y9, y10, y11, y12⟩ := Y3.out
    go_wp2_with fail
    go_ret
    exact ⟨ret_bool (by rw [HU.out] <;> simp), N3.out⟩
  go_enter Try.func11, Try.ntmps11
  go_wp2_with fail
  refine (HC0.out _ _ _ (k1.out.below (by repeat (first | with_reducible exact Below.refl _ _ | exact Hid.out (by with_reducible assumption) | refine Below.setCell ?_ (by simp <;> omega) _ | refine below_alloc ?_ _ | refine Below.alloc ?_ (by simp <;> omega) _ | refine Below.drew ?_ | refine below_drewN ?_ _))) (k2.out.below (by repeat (first | with_reducible exact Below.refl _ _ | exact Hid.out (by with_reducible assumption) | refine Below.setCell ?_ (by simp <;> omega) _ | refine below_alloc ?_ _ | refine Below.alloc ?_ (by simp <;> omega) _ | refine Below.drew ?_ | refine below_drewN ?_ _))) (k3.out.below (by repeat (first | with_reducible exact Below.refl _ _ | exact Hid.out (by with_reducible assumption) | refine Below.setCell ?_ (by simp <;> omega) _ | refine below_alloc ?_ _ | refine Below.alloc ?_ (by simp <;> omega) _ | refine Below.drew ?_ | refine below_drewN ?_ _))) (j1.out.below (by repeat (first | with_reducible exact Below.refl _ _ | exact Hid.out (by with_reducible assumption) | refine Below.setCell ?_ (by simp <;> omega) _ | refine below_alloc ?_ _ | refine Below.alloc ?_ (by simp <;> omega) _ | refine Below.drew ?_ | refine below_drewN ?_ _))) (j2.out.below (by repeat (first | with_reducible exact Below.refl _ _ | exact Hid.out (by with_reducible assumption) | refine Below.setCell ?_ (by simp <;> omega) _ | refine below_alloc ?_ _ | refine Below.alloc ?_ (by simp <;> omega) _ | refine Below.drew ?_ | refine below_drewN ?_ _))) (j3.out.below (by repeat (first | with_reducible exact Below.refl _ _ | exact Hid.out (by with_reducible assumption) | refine Below.setCell ?_ (by simp <;> omega) _ | refine below_alloc ?_ _ | refine Below.alloc ?_ (by simp <;> omega) _ | refine Below.drew ?_ | refine below_drewN ?_ _))) X0.out.mach Y0.out.mach).mono ?_
  rintro e w1 ⟨rfl, mq, hw⟩
  skip
  have X1 := Lib.hid (show Box13 w1 _ _ _ _ _ _ _ _ _ _ _ _ _ _ from by rw [hw]; exact X0.out.drewN mq)
  have Y1 := Lib.hid (show Box13 w1 _ _ _ _ _ _ _ _ _ _ _ _ _ _ from by rw [hw]; exact Y0.out.drewN mq)
  have N1 := Lib.hid (show Below w.heap.size w w1 from by rw [hw]; exact (by repeat (first | with_reducible exact Below.refl _ _ | exact Hid.out (by with_reducible assumption) | refine Below.setCell ?_ (by simp <;> omega) _ | refine below_alloc ?_ _ | refine Below.alloc ?_ (by simp <;> omega) _ | refine Below.drew ?_ | refine below_drewN ?_ _)))
  clear hw
  obtain ⟨x0, x1, x2, x3, x4, x5, x6, x7, x8, x9, x10, x11, x12⟩ := X1.out
  obtain ⟨y0, y1, y2, y3, y4, y5, y6, y7, y8, y9, y10, y11, y12⟩ := Y1.out
  go_wp2_with fail
  refine (HC1.out _ _ _ (k4.out.below (by repeat (first | with_reducible exact Below.refl _ _ | exact Hid.out (by with_reducible assumption) | refine Below.setCell ?_ (by simp <;> omega) _ | refine below_alloc ?_ _ | refine Below.alloc ?_ (by simp <;> omega) _ | refine Below.drew ?_ | refine below_drewN ?_ _))) (k5.out.below (by repeat (first | with_reducible exact Below.refl _ _ | exact Hid.out (by with_reducible assumption) | refine Below.setCell ?_ (by simp <;> omega) _ | refine below_alloc ?_ _ | refine Below.alloc ?_ (by simp <;> omega) _ | refine Below.drew ?_ | refine below_drewN ?_ _))) (j4.out.below (by repeat (first | with_reducible exact Below.refl _ _ | exact Hid.out (by with_reducible assumption) | refine Below.setCell ?_ (by simp <;> omega) _ | refine below_alloc ?_ _ | refine Below.alloc ?_ (by simp <;> omega) _ | refine Below.drew ?_ | refine below_drewN ?_ _))) (j5.out.below (by repeat (first | with_reducible exact Below.refl _ _ | exact Hid.out (by with_reducible assumption) | refine Below.setCell ?_ (by simp <;> omega) _ | refine below_alloc ?_ _ | refine Below.alloc ?_ (by simp <;> omega) _ | refine Below.drew ?_ | refine below_drewN ?_ _))) X1.out.pln Y1.out.pln).mono ?_
  rintro e w2 ⟨rfl, mq, hw⟩
  skip
  have X2 := Lib.hid (show Box13 w2 _ _ _ _ _ _ _ _ _ _ _ _ _ _ from by rw [hw]; exact X1.out.drewN mq)
  have Y2 := Lib.hid (show Box13 w2 _ _ _ _ _ _ _ _ _ _ _ _ _ _ from by rw [hw]; exact Y1.out.drewN mq)
  have N2 := Lib.hid (show Below w.heap.size w w2 from by rw [hw]; exact below_drewN N1.out _)
  clear hw
  clear x0 y0 x1 y1 x2 y2 x3 y3 x4 y4 x5 y5 x6 y6 x7 y7 x8 y8 x9 y9 x10 y10 x11 y11 x12 y12
  obtain ⟨x0, x1, x2, x3, x4, x5, x6, x7, x8, x9, x10, x11, x12⟩ := X2.out
  obtain ⟨y0, y1, y2, y3, y4, y5, y6, y7, y8, y9, y10, y11, y12⟩ := Y2.out
  go_wp2_with fail
  refine (HC2.out _ _ _ (k6.out.below (by repeat (first | with_reducible exact Below.refl _ _ | exact Hid.out (by with_reducible assumption) | refine Below.setCell ?_ (by simp <;> omega) _ | refine below_alloc ?_ _ | refine Below.alloc ?_ (by simp <;> omega) _ | refine Below.drew ?_ | refine below_drewN ?_ _))) (j6.out.below (by repeat (first | with_reducible exact Below.refl _ _ | exact Hid.out (by with_reducible assumption) | refine Below.setCell ?_ (by simp <;> omega) _ | refine below_alloc ?_ _ | refine Below.alloc ?_ (by simp <;> omega) _ | refine Below.drew ?_ | refine below_drewN ?_ _))) X2.out.grm Y2.out.grm).mono ?_
  rintro e w3 ⟨rfl, mq, hw⟩
  skip
  have X3 := Lib.hid (show Box13 w3 _ _ _ _ _ _ _ _ _ _ _ _ _ _ from by rw [hw]; exact X2.out.drewN mq)
  have Y3 := Lib.hid (show Box13 w3 _ _ _ _ _ _ _ _ _ _ _ _ _ _ from by rw [hw]; exact Y2.out.drewN mq)
  have N3 := Lib.hid (show Below w.heap.size w w3 from by rw [hw]; exact below_drewN N2.out _)
  clear hw
  clear x0 y0 x1 y1 x2 y2 x3 y3 x4 y4 x5 y5 x6 y6 x7 y7 x8 y8 x9 y9 x10 y10 x11 y11 x12 y12
  obtain ⟨x0, x1, x2, x3, x4, x5, x6, x7, x8, x9, x10, x11, x12⟩ := X3.out
  obtain ⟨y0, y1, y2, y3, y4, y5, y6, y7, y8, y9, y10, y11, y12⟩ := Y3.out
  go_wp2_with fail
  refine (HC3.out _ (k7.out.below (by repeat (first | with_reducible exact Below.refl _ _ | exact Hid.out (by with_reducible assumption) | refine Below.setCell ?_ (by simp <;> omega) _ | refine below_alloc ?_ _ | refine Below.alloc ?_ (by simp <;> omega) _ | refine Below.drew ?_ | refine below_drewN ?_ _))) (j7.out.below (by repeat (first | with_reducible exact Below.refl _ _ | exact Hid.out (by with_reducible assumption) | refine Below.setCell ?_ (by simp <;> omega) _ | refine below_alloc ?_ _ | refine Below.alloc ?_ (by simp <;> omega) _ | refine Below.drew ?_ | refine below_drewN ?_ _)))).mono ?_
  rintro e w4 ⟨rfl, mq, hw⟩
  skip
  have N4 := Lib.hid (show Below w.heap.size w w4 from by rw [hw]; exact below_drewN N3.out _)
  clear hw
  go_wp2_with fail
  go_ret
  exact ⟨ret_bool (by rw [HU.out] <;> simp), N4.out⟩
end Go.Proofs.Yteagfbedbbnomaa
