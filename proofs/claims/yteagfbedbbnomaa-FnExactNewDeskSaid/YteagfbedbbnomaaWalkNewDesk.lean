/- The law on new desks walked. -/
import Derived.Test.YteagfbedbbnomaaNewD
import Derived.Deep.CutRange
set_option linter.unusedVariables false
set_option linter.unusedSimpArgs false
namespace Go.Proofs.Yteagfbedbbnomaa
open Go.RowKit

set_option maxRecDepth 20000 in
set_option maxHeartbeats 16000000 in
theorem fnExactNewDesk.walk (w : World) : Calls Try.prog 5 #[] w fun e w' => e = .returned (.bool true) ∧ Below w.heap.size w w' := by
  have HS := Lib.hid (fun W => specNewDesk_any W)
  have HI := Lib.hid (fun W => implNewDesk_any W)
  have HE := Lib.hid (fun a1 a2 a3 a4 a5 a6 a7 b1 b2 b3 b4 b5 b6 b7 W y1 y2 y3 y4 y5 y6 y7 y8 y9 y10 y11 y12 y13 y14 => eqDesk_any 2 1 2 1 1 1 a1 a2 a3 a4 a5 a6 a7 b1 b2 b3 b4 b5 b6 b7 1 1 2 2 2 2 2 2 2 2 2 2 1 1 1 2 2 2 2 2 1 nf1 nf2 nf3 nf4 nf5 nf6 nf7 W (by omega) (by omega) (by omega) (by omega) (by omega) (by omega) (by omega) y1 y2 y3 y4 y5 y6 y7 y8 y9 y10 y11 y12 y13 y14)
  go_enter Try.func5, Try.ntmps5
  go_wp2_with fail
  refine (HS.out _).mono ?_
  rintro e w1 ⟨p1, p2, p3, p4, p5, p6, p7, _, _, _, rfl, hge, -, hlt, o1, o2, o3, o4, o5, o6, o7, hb⟩
  have B1 := Lib.hid hb
  have S1 := Lib.hid hb.size
  have P1_1 := Lib.hid o1
  have P2_1 := Lib.hid o2
  have P3_1 := Lib.hid o3
  have P4_1 := Lib.hid o4
  have P5_1 := Lib.hid o5
  have P6_1 := Lib.hid o6
  have P7_1 := Lib.hid o7
  have PL := Lib.hid (show p1 < w1.heap.size ∧ p2 < w1.heap.size ∧ p3 < w1.heap.size ∧ p4 < w1.heap.size ∧ p5 < w1.heap.size ∧ p6 < w1.heap.size ∧ p7 < w1.heap.size from ⟨by omega, by omega, by omega, by omega, by omega, by omega, by omega⟩)
  clear hb hge hlt o1 o2 o3 o4 o5 o6 o7
  go_wp2_with fail
  refine (HI.out _).mono ?_
  rintro e w2 ⟨g1, g2, g3, g4, g5, g6, g7, k1, k2, k3, rfl, hge, hdis, hord, o1, o2, o3, o4, o5, o6, o7, hb⟩
  have hge2 : w1.heap.size < g1 ∧ w1.heap.size < g2 ∧ w1.heap.size < g3 ∧ w1.heap.size < g4 ∧ w1.heap.size < g5 ∧ w1.heap.size < g6 ∧ w1.heap.size < g7 := by simp at hge; omega
  have GE := Lib.hid hge2
  have GD := Lib.hid hdis
  have GO := Lib.hid hord
  have X2 := Lib.hid (Box13.below (Box13.new w1 44 (.int .i64 2) (.int .i64 1) (.slice (some ⟨p1, 0, none⟩) 1 1) (.slice (some ⟨p2, 0, none⟩) 2 2) (.slice (some ⟨p3, 0, none⟩) 2 2) (.int .i64 2) (.int .i64 1) (.slice (some ⟨p4, 0, none⟩) 2 2) (.slice (some ⟨p5, 0, none⟩) 2 2) (.int .i64 1) (.int .i64 1) (.slice (some ⟨p6, 0, none⟩) 2 2) (.slice (some ⟨p7, 0, none⟩) 1 1)) hb)
  have N2 := Lib.hid (show Below w1.heap.size w1 w2 from Below.trans (by repeat (first | with_reducible exact Below.refl _ _ | exact Hid.out (by with_reducible assumption) | refine Below.setCell ?_ (by simp <;> omega) _ | refine below_alloc ?_ _ | refine Below.alloc ?_ (by simp <;> omega) _ | refine Below.drew ?_ | refine below_drewN ?_ _)) (hb.mono (by simp)))
  have B2 := Lib.hid (show Below w.heap.size w w2 from B1.out.trans (N2.out.mono S1.out))
  have P1_2 := Lib.hid (P1_1.out.below N2.out)
  have G1_2 := Lib.hid o1
  have P2_2 := Lib.hid (P2_1.out.below N2.out)
  have G2_2 := Lib.hid o2
  have P3_2 := Lib.hid (P3_1.out.below N2.out)
  have G3_2 := Lib.hid o3
  have P4_2 := Lib.hid (P4_1.out.below N2.out)
  have G4_2 := Lib.hid o4
  have P5_2 := Lib.hid (P5_1.out.below N2.out)
  have G5_2 := Lib.hid o5
  have P6_2 := Lib.hid (P6_1.out.below N2.out)
  have G6_2 := Lib.hid o6
  have P7_2 := Lib.hid (P7_1.out.below N2.out)
  have G7_2 := Lib.hid o7
  have S2 := Lib.hid (show w1.heap.size < w2.heap.size from by have := hb.size; simp at this; omega)
  clear hb hge hge2 hdis hord o1 P1_1 o2 P2_1 o3 P3_1 o4 P4_1 o5 P5_1 o6 P6_1 o7 P7_1
  obtain ⟨x0, x1, x2, x3, x4, x5, x6, x7, x8, x9, x10, x11, x12⟩ := X2.out
  skip
  have hx : ∀ o, Box13 (w2.alloc o) _ _ _ _ _ _ _ _ _ _ _ _ _ _ := fun o => X2.out.alloc o
  have xa0 := fun o => (hx o).c0
  have xa1 := fun o => (hx o).c1
  have xa2 := fun o => (hx o).c2
  have xa3 := fun o => (hx o).c3
  have xa4 := fun o => (hx o).c4
  have xa5 := fun o => (hx o).c5
  have xa6 := fun o => (hx o).c6
  have xa7 := fun o => (hx o).c7
  have xa8 := fun o => (hx o).c8
  have xa9 := fun o => (hx o).c9
  have xa10 := fun o => (hx o).c10
  have xa11 := fun o => (hx o).c11
  have xa12 := fun o => (hx o).c12
  clear hx
  go_wp2_with fail
  refine (HE.out _ _ _ _ _ _ _ _ _ _ _ _ _ _ _ (G1_2.out.cells.below (by repeat (first | with_reducible exact Below.refl _ _ | exact Hid.out (by with_reducible assumption) | refine Below.setCell ?_ (by simp <;> omega) _ | refine below_alloc ?_ _ | refine Below.alloc ?_ (by simp <;> omega) _ | refine Below.drew ?_ | refine below_drewN ?_ _))) (G2_2.out.cells.below (by repeat (first | with_reducible exact Below.refl _ _ | exact Hid.out (by with_reducible assumption) | refine Below.setCell ?_ (by simp <;> omega) _ | refine below_alloc ?_ _ | refine Below.alloc ?_ (by simp <;> omega) _ | refine Below.drew ?_ | refine below_drewN ?_ _))) (G3_2.out.cells.below (by repeat (first | with_reducible exact Below.refl _ _ | exact Hid.out (by with_reducible assumption) | refine Below.setCell ?_ (by simp <;> omega) _ | refine below_alloc ?_ _ | refine Below.alloc ?_ (by simp <;> omega) _ | refine Below.drew ?_ | refine below_drewN ?_ _))) (G4_2.out.cells.below (by repeat (first | with_reducible exact Below.refl _ _ | exact Hid.out (by with_reducible assumption) | refine Below.setCell ?_ (by simp <;> omega) _ | refine below_alloc ?_ _ | refine Below.alloc ?_ (by simp <;> omega) _ | refine Below.drew ?_ | refine below_drewN ?_ _))) (G5_2.out.cells.below (by repeat (first | with_reducible exact Below.refl _ _ | exact Hid.out (by with_reducible assumption) | refine Below.setCell ?_ (by simp <;> omega) _ | refine below_alloc ?_ _ | refine Below.alloc ?_ (by simp <;> omega) _ | refine Below.drew ?_ | refine below_drewN ?_ _))) (G6_2.out.cells.below (by repeat (first | with_reducible exact Below.refl _ _ | exact Hid.out (by with_reducible assumption) | refine Below.setCell ?_ (by simp <;> omega) _ | refine below_alloc ?_ _ | refine Below.alloc ?_ (by simp <;> omega) _ | refine Below.drew ?_ | refine below_drewN ?_ _))) (G7_2.out.cells.below (by repeat (first | with_reducible exact Below.refl _ _ | exact Hid.out (by with_reducible assumption) | refine Below.setCell ?_ (by simp <;> omega) _ | refine below_alloc ?_ _ | refine Below.alloc ?_ (by simp <;> omega) _ | refine Below.drew ?_ | refine below_drewN ?_ _))) (P1_2.out.cells.below (by repeat (first | with_reducible exact Below.refl _ _ | exact Hid.out (by with_reducible assumption) | refine Below.setCell ?_ (by simp <;> omega) _ | refine below_alloc ?_ _ | refine Below.alloc ?_ (by simp <;> omega) _ | refine Below.drew ?_ | refine below_drewN ?_ _))) (P2_2.out.cells.below (by repeat (first | with_reducible exact Below.refl _ _ | exact Hid.out (by with_reducible assumption) | refine Below.setCell ?_ (by simp <;> omega) _ | refine below_alloc ?_ _ | refine Below.alloc ?_ (by simp <;> omega) _ | refine Below.drew ?_ | refine below_drewN ?_ _))) (P3_2.out.cells.below (by repeat (first | with_reducible exact Below.refl _ _ | exact Hid.out (by with_reducible assumption) | refine Below.setCell ?_ (by simp <;> omega) _ | refine below_alloc ?_ _ | refine Below.alloc ?_ (by simp <;> omega) _ | refine Below.drew ?_ | refine below_drewN ?_ _))) (P4_2.out.cells.below (by repeat (first | with_reducible exact Below.refl _ _ | exact Hid.out (by with_reducible assumption) | refine Below.setCell ?_ (by simp <;> omega) _ | refine below_alloc ?_ _ | refine Below.alloc ?_ (by simp <;> omega) _ | refine Below.drew ?_ | refine below_drewN ?_ _))) (P5_2.out.cells.below (by repeat (first | with_reducible exact Below.refl _ _ | exact Hid.out (by with_reducible assumption) | refine Below.setCell ?_ (by simp <;> omega) _ | refine below_alloc ?_ _ | refine Below.alloc ?_ (by simp <;> omega) _ | refine Below.drew ?_ | refine below_drewN ?_ _))) (P6_2.out.cells.below (by repeat (first | with_reducible exact Below.refl _ _ | exact Hid.out (by with_reducible assumption) | refine Below.setCell ?_ (by simp <;> omega) _ | refine below_alloc ?_ _ | refine Below.alloc ?_ (by simp <;> omega) _ | refine Below.drew ?_ | refine below_drewN ?_ _))) (P7_2.out.cells.below (by repeat (first | with_reducible exact Below.refl _ _ | exact Hid.out (by with_reducible assumption) | refine Below.setCell ?_ (by simp <;> omega) _ | refine below_alloc ?_ _ | refine Below.alloc ?_ (by simp <;> omega) _ | refine Below.drew ?_ | refine below_drewN ?_ _)))).mono ?_
  rintro e w3 ⟨rfl, hb⟩
  have N3 := Lib.hid (show Below w2.heap.size w2 w3 from Below.trans (by repeat (first | with_reducible exact Below.refl _ _ | exact Hid.out (by with_reducible assumption) | refine Below.setCell ?_ (by simp <;> omega) _ | refine below_alloc ?_ _ | refine Below.alloc ?_ (by simp <;> omega) _ | refine Below.drew ?_ | refine below_drewN ?_ _)) (hb.mono (by simp)))
  have B3 := Lib.hid (show Below w.heap.size w w3 from B2.out.trans (N3.out.mono B2.out.size))
  have Z3 := Lib.hid (Box13.below (Box13.new w2 44 (.int .i64 2) (.int .i64 1) (.slice (some ⟨g1, 0, none⟩) 1 1) (.slice (some ⟨g2, 0, none⟩) 2 2) (.slice (some ⟨g3, 0, none⟩) 2 2) (.int .i64 2) (.int .i64 1) (.slice (some ⟨g4, 0, none⟩) 2 2) (.slice (some ⟨g5, 0, none⟩) 2 2) (.int .i64 1) (.int .i64 1) (.slice (some ⟨g6, 0, none⟩) 2 2) (.slice (some ⟨g7, 0, none⟩) 1 1)) hb)
  have X3 := Lib.hid (X2.out.below N3.out)
  clear x0 x1 x2 x3 x4 x5 x6 x7 x8 x9 x10 x11 x12
  have P1_3 := Lib.hid (P1_2.out.below N3.out)
  have G1_3 := Lib.hid (G1_2.out.below N3.out)
  have P2_3 := Lib.hid (P2_2.out.below N3.out)
  have G2_3 := Lib.hid (G2_2.out.below N3.out)
  have P3_3 := Lib.hid (P3_2.out.below N3.out)
  have G3_3 := Lib.hid (G3_2.out.below N3.out)
  have P4_3 := Lib.hid (P4_2.out.below N3.out)
  have G4_3 := Lib.hid (G4_2.out.below N3.out)
  have P5_3 := Lib.hid (P5_2.out.below N3.out)
  have G5_3 := Lib.hid (G5_2.out.below N3.out)
  have P6_3 := Lib.hid (P6_2.out.below N3.out)
  have G6_3 := Lib.hid (G6_2.out.below N3.out)
  have P7_3 := Lib.hid (P7_2.out.below N3.out)
  have G7_3 := Lib.hid (G7_2.out.below N3.out)
  have S3 := Lib.hid (show w2.heap.size ≤ w3.heap.size from N3.out.size)
  clear hb P1_2 G1_2 P2_2 G2_2 P3_2 G3_2 P4_2 G4_2 P5_2 G5_2 P6_2 G6_2 P7_2 G7_2
  obtain ⟨x0, x1, x2, x3, x4, x5, x6, x7, x8, x9, x10, x11, x12⟩ := X3.out
  obtain ⟨z0, z1, z2, z3, z4, z5, z6, z7, z8, z9, z10, z11, z12⟩ := Z3.out
  clear xa0 xa1 xa2 xa3 xa4 xa5 xa6 xa7 xa8 xa9 xa10 xa11 xa12
  obtain ⟨ge1, ge2, ge3, ge4, ge5, ge6, ge7⟩ := GE.out
  obtain ⟨gd1, gd2⟩ := GD.out
  obtain ⟨go1, go2, go3, go4, go5, go6, go7, go8, go9, go10, go11, go12⟩ := GO.out
  have s3 := S3.out
  have s2 := S2.out
  go_wp2_with fail
  refine (markDesk_any 2 1 2 1 1 1 (some ⟨g1, 0, none⟩) (some ⟨g2, 0, none⟩) (some ⟨g3, 0, none⟩) (some ⟨g4, 0, none⟩) (some ⟨g5, 0, none⟩) (some ⟨g6, 0, none⟩) (some ⟨g7, 0, none⟩) 1 1 2 2 2 2 2 2 2 2 2 2 1 1 g1 g2 g3 g4 g5 g6 g7 k1 k2 k3 w2.heap.size _ _ _ _ _ _ _ 1 _ (by omega) (by omega) (G1_3.out.below (by repeat (first | with_reducible exact Below.refl _ _ | exact Hid.out (by with_reducible assumption) | refine Below.setCell ?_ (by simp <;> omega) _ | refine below_alloc ?_ _ | refine Below.alloc ?_ (by simp <;> omega) _ | refine Below.drew ?_ | refine below_drewN ?_ _))) (G2_3.out.below (by repeat (first | with_reducible exact Below.refl _ _ | exact Hid.out (by with_reducible assumption) | refine Below.setCell ?_ (by simp <;> omega) _ | refine below_alloc ?_ _ | refine Below.alloc ?_ (by simp <;> omega) _ | refine Below.drew ?_ | refine below_drewN ?_ _))) (G3_3.out.below (by repeat (first | with_reducible exact Below.refl _ _ | exact Hid.out (by with_reducible assumption) | refine Below.setCell ?_ (by simp <;> omega) _ | refine below_alloc ?_ _ | refine Below.alloc ?_ (by simp <;> omega) _ | refine Below.drew ?_ | refine below_drewN ?_ _))) (G4_3.out.below (by repeat (first | with_reducible exact Below.refl _ _ | exact Hid.out (by with_reducible assumption) | refine Below.setCell ?_ (by simp <;> omega) _ | refine below_alloc ?_ _ | refine Below.alloc ?_ (by simp <;> omega) _ | refine Below.drew ?_ | refine below_drewN ?_ _))) (G5_3.out.below (by repeat (first | with_reducible exact Below.refl _ _ | exact Hid.out (by with_reducible assumption) | refine Below.setCell ?_ (by simp <;> omega) _ | refine below_alloc ?_ _ | refine Below.alloc ?_ (by simp <;> omega) _ | refine Below.drew ?_ | refine below_drewN ?_ _))) (G6_3.out.below (by repeat (first | with_reducible exact Below.refl _ _ | exact Hid.out (by with_reducible assumption) | refine Below.setCell ?_ (by simp <;> omega) _ | refine below_alloc ?_ _ | refine Below.alloc ?_ (by simp <;> omega) _ | refine Below.drew ?_ | refine below_drewN ?_ _))) (G7_3.out.below (by repeat (first | with_reducible exact Below.refl _ _ | exact Hid.out (by with_reducible assumption) | refine Below.setCell ?_ (by simp <;> omega) _ | refine below_alloc ?_ _ | refine Below.alloc ?_ (by simp <;> omega) _ | refine Below.drew ?_ | refine below_drewN ?_ _))) ⟨gd1, gd2⟩ ⟨go1, go2, go3, go4, go5, go6, go7, go8, go9, go10, by omega, go12⟩).mono ?_
  rintro e w4 ⟨rfl, o1, o2, o3, o4, o5, o6, o7, hw⟩
  have W4 := Lib.hid (show Within (w1.heap.size + 1) w2.heap.size w3 w4 from hw _ (by omega) (by omega) (by omega))
  clear hw
  obtain ⟨pl1, pl2, pl3, pl4, pl5, pl6, pl7⟩ := PL.out
  have s1 := S1.out
  have N4 := Lib.hid (show Below w.heap.size w3 w4 from W4.out.below (by omega) (by omega))
  have B4 := Lib.hid (show Below w.heap.size w w4 from B3.out.trans N4.out)
  have S4 := Lib.hid (show w3.heap.size ≤ w4.heap.size from W4.out.size)
  have Z4 := Lib.hid (Box13.within Z3.out W4.out (.inr (Nat.le_refl _)))
  have X4 := Lib.hid (Box13.within X3.out W4.out (.inl (by omega)))
  clear x0 x1 x2 x3 x4 x5 x6 x7 x8 x9 x10 x11 x12
  clear z0 z1 z2 z3 z4 z5 z6 z7 z8 z9 z10 z11 z12
  have P1_4 := Lib.hid (OwnC.within P1_3.out W4.out (fun _ => .inl (by omega)))
  have G1_4 := Lib.hid o1
  have P2_4 := Lib.hid (OwnC.within P2_3.out W4.out (fun _ => .inl (by omega)))
  have G2_4 := Lib.hid o2
  have P3_4 := Lib.hid (OwnC.within P3_3.out W4.out (fun _ => .inl (by omega)))
  have G3_4 := Lib.hid o3
  have P4_4 := Lib.hid (OwnC.within P4_3.out W4.out (fun _ => .inl (by omega)))
  have G4_4 := Lib.hid o4
  have P5_4 := Lib.hid (OwnC.within P5_3.out W4.out (fun _ => .inl (by omega)))
  have G5_4 := Lib.hid o5
  have P6_4 := Lib.hid (OwnC.within P6_3.out W4.out (fun _ => .inl (by omega)))
  have G6_4 := Lib.hid o6
  have P7_4 := Lib.hid (OwnC.within P7_3.out W4.out (fun _ => .inl (by omega)))
  have G7_4 := Lib.hid o7
  clear o1 P1_3 G1_3 o2 P2_3 G2_3 o3 P3_3 G3_3 o4 P4_3 G4_3 o5 P5_3 G5_3 o6 P6_3 G6_3 o7 P7_3 G7_3
  obtain ⟨x0, x1, x2, x3, x4, x5, x6, x7, x8, x9, x10, x11, x12⟩ := X4.out
  obtain ⟨z0, z1, z2, z3, z4, z5, z6, z7, z8, z9, z10, z11, z12⟩ := Z4.out
  go_wp2_with fail
  refine (heldDesk_any 2 1 2 1 1 1 (some ⟨g1, 0, none⟩) (some ⟨g2, 0, none⟩) (some ⟨g3, 0, none⟩) (some ⟨g4, 0, none⟩) (some ⟨g5, 0, none⟩) (some ⟨g6, 0, none⟩) (some ⟨g7, 0, none⟩) 1 1 2 2 2 2 2 2 2 2 2 2 1 1 1 _ (by omega) (by omega) (G1_4.out.cells.below (by repeat (first | with_reducible exact Below.refl _ _ | exact Hid.out (by with_reducible assumption) | refine Below.setCell ?_ (by simp <;> omega) _ | refine below_alloc ?_ _ | refine Below.alloc ?_ (by simp <;> omega) _ | refine Below.drew ?_ | refine below_drewN ?_ _))) (G2_4.out.cells.below (by repeat (first | with_reducible exact Below.refl _ _ | exact Hid.out (by with_reducible assumption) | refine Below.setCell ?_ (by simp <;> omega) _ | refine below_alloc ?_ _ | refine Below.alloc ?_ (by simp <;> omega) _ | refine Below.drew ?_ | refine below_drewN ?_ _))) (G3_4.out.cells.below (by repeat (first | with_reducible exact Below.refl _ _ | exact Hid.out (by with_reducible assumption) | refine Below.setCell ?_ (by simp <;> omega) _ | refine below_alloc ?_ _ | refine Below.alloc ?_ (by simp <;> omega) _ | refine Below.drew ?_ | refine below_drewN ?_ _))) (G4_4.out.cells.below (by repeat (first | with_reducible exact Below.refl _ _ | exact Hid.out (by with_reducible assumption) | refine Below.setCell ?_ (by simp <;> omega) _ | refine below_alloc ?_ _ | refine Below.alloc ?_ (by simp <;> omega) _ | refine Below.drew ?_ | refine below_drewN ?_ _))) (G5_4.out.cells.below (by repeat (first | with_reducible exact Below.refl _ _ | exact Hid.out (by with_reducible assumption) | refine Below.setCell ?_ (by simp <;> omega) _ | refine below_alloc ?_ _ | refine Below.alloc ?_ (by simp <;> omega) _ | refine Below.drew ?_ | refine below_drewN ?_ _))) (G6_4.out.cells.below (by repeat (first | with_reducible exact Below.refl _ _ | exact Hid.out (by with_reducible assumption) | refine Below.setCell ?_ (by simp <;> omega) _ | refine below_alloc ?_ _ | refine Below.alloc ?_ (by simp <;> omega) _ | refine Below.drew ?_ | refine below_drewN ?_ _))) (G7_4.out.cells.below (by repeat (first | with_reducible exact Below.refl _ _ | exact Hid.out (by with_reducible assumption) | refine Below.setCell ?_ (by simp <;> omega) _ | refine below_alloc ?_ _ | refine Below.alloc ?_ (by simp <;> omega) _ | refine Below.drew ?_ | refine below_drewN ?_ _)))).mono ?_
  rintro e w5 ⟨rfl, hb⟩
  have N5 := Lib.hid (show Below w4.heap.size w4 w5 from Below.trans (by repeat (first | with_reducible exact Below.refl _ _ | exact Hid.out (by with_reducible assumption) | refine Below.setCell ?_ (by simp <;> omega) _ | refine below_alloc ?_ _ | refine Below.alloc ?_ (by simp <;> omega) _ | refine Below.drew ?_ | refine below_drewN ?_ _)) (hb.mono (by simp)))
  have B5 := Lib.hid (show Below w.heap.size w w5 from B4.out.trans (N5.out.mono B4.out.size))
  have Z5 := Lib.hid (Z4.out.below N5.out)
  have X5 := Lib.hid (X4.out.below N5.out)
  clear x0 x1 x2 x3 x4 x5 x6 x7 x8 x9 x10 x11 x12 z0 z1 z2 z3 z4 z5 z6 z7 z8 z9 z10 z11 z12
  have P1_5 := Lib.hid (P1_4.out.below N5.out)
  have G1_5 := Lib.hid (G1_4.out.below N5.out)
  have P2_5 := Lib.hid (P2_4.out.below N5.out)
  have G2_5 := Lib.hid (G2_4.out.below N5.out)
  have P3_5 := Lib.hid (P3_4.out.below N5.out)
  have G3_5 := Lib.hid (G3_4.out.below N5.out)
  have P4_5 := Lib.hid (P4_4.out.below N5.out)
  have G4_5 := Lib.hid (G4_4.out.below N5.out)
  have P5_5 := Lib.hid (P5_4.out.below N5.out)
  have G5_5 := Lib.hid (G5_4.out.below N5.out)
  have P6_5 := Lib.hid (P6_4.out.below N5.out)
  have G6_5 := Lib.hid (G6_4.out.below N5.out)
  have P7_5 := Lib.hid (P7_4.out.below N5.out)
  have G7_5 := Lib.hid (G7_4.out.below N5.out)
  clear hb P1_4 G1_4 P2_4 G2_4 P3_4 G3_4 P4_4 G4_4 P5_4 G5_4 P6_4 G6_4 P7_4 G7_4
  obtain ⟨x0, x1, x2, x3, x4, x5, x6, x7, x8, x9, x10, x11, x12⟩ := X5.out
  obtain ⟨z0, z1, z2, z3, z4, z5, z6, z7, z8, z9, z10, z11, z12⟩ := Z5.out
  go_wp2_with fail
  refine (HI.out _).mono ?_
  rintro e w6 ⟨h1, h2, h3, h4, h5, h6, h7, _, _, _, rfl, -, -, -, o1, o2, o3, o4, o5, o6, o7, hb⟩
  have H1_6 := Lib.hid o1.cells
  have H2_6 := Lib.hid o2.cells
  have H3_6 := Lib.hid o3.cells
  have H4_6 := Lib.hid o4.cells
  have H5_6 := Lib.hid o5.cells
  have H6_6 := Lib.hid o6.cells
  have H7_6 := Lib.hid o7.cells
  clear o1 o2 o3 o4 o5 o6 o7
  have N6 := Lib.hid (show Below w5.heap.size w5 w6 from Below.trans (by repeat (first | with_reducible exact Below.refl _ _ | exact Hid.out (by with_reducible assumption) | refine Below.setCell ?_ (by simp <;> omega) _ | refine below_alloc ?_ _ | refine Below.alloc ?_ (by simp <;> omega) _ | refine Below.drew ?_ | refine below_drewN ?_ _)) (hb.mono (by simp)))
  have B6 := Lib.hid (show Below w.heap.size w w6 from B5.out.trans (N6.out.mono B5.out.size))
  have Z6 := Lib.hid (Z5.out.below N6.out)
  have X6 := Lib.hid (X5.out.below N6.out)
  clear x0 x1 x2 x3 x4 x5 x6 x7 x8 x9 x10 x11 x12 z0 z1 z2 z3 z4 z5 z6 z7 z8 z9 z10 z11 z12
  have P1_6 := Lib.hid (P1_5.out.below N6.out)
  have G1_6 := Lib.hid (G1_5.out.below N6.out)
  have P2_6 := Lib.hid (P2_5.out.below N6.out)
  have G2_6 := Lib.hid (G2_5.out.below N6.out)
  have P3_6 := Lib.hid (P3_5.out.below N6.out)
  have G3_6 := Lib.hid (G3_5.out.below N6.out)
  have P4_6 := Lib.hid (P4_5.out.below N6.out)
  have G4_6 := Lib.hid (G4_5.out.below N6.out)
  have P5_6 := Lib.hid (P5_5.out.below N6.out)
  have G5_6 := Lib.hid (G5_5.out.below N6.out)
  have P6_6 := Lib.hid (P6_5.out.below N6.out)
  have G6_6 := Lib.hid (G6_5.out.below N6.out)
  have P7_6 := Lib.hid (P7_5.out.below N6.out)
  have G7_6 := Lib.hid (G7_5.out.below N6.out)
  clear hb P1_5 G1_5 P2_5 G2_5 P3_5 G3_5 P4_5 G4_5 P5_5 G5_5 P6_5 G6_5 P7_5 G7_5
  obtain ⟨x0, x1, x2, x3, x4, x5, x6, x7, x8, x9, x10, x11, x12⟩ := X6.out
  obtain ⟨z0, z1, z2, z3, z4, z5, z6, z7, z8, z9, z10, z11, z12⟩ := Z6.out
  have hxX : ∀ o, Box13 (w6.alloc o) _ _ _ _ _ _ _ _ _ _ _ _ _ _ := fun o => X6.out.alloc o
  have xa0 := fun o => (hxX o).c0
  have xa1 := fun o => (hxX o).c1
  have xa2 := fun o => (hxX o).c2
  have xa3 := fun o => (hxX o).c3
  have xa4 := fun o => (hxX o).c4
  have xa5 := fun o => (hxX o).c5
  have xa6 := fun o => (hxX o).c6
  have xa7 := fun o => (hxX o).c7
  have xa8 := fun o => (hxX o).c8
  have xa9 := fun o => (hxX o).c9
  have xa10 := fun o => (hxX o).c10
  have xa11 := fun o => (hxX o).c11
  have xa12 := fun o => (hxX o).c12
  clear hxX
  have hxZ : ∀ o, Box13 (w6.alloc o) _ _ _ _ _ _ _ _ _ _ _ _ _ _ := fun o => Z6.out.alloc o
  have za0 := fun o => (hxZ o).c0
  have za1 := fun o => (hxZ o).c1
  have za2 := fun o => (hxZ o).c2
  have za3 := fun o => (hxZ o).c3
  have za4 := fun o => (hxZ o).c4
  have za5 := fun o => (hxZ o).c5
  have za6 := fun o => (hxZ o).c6
  have za7 := fun o => (hxZ o).c7
  have za8 := fun o => (hxZ o).c8
  have za9 := fun o => (hxZ o).c9
  have za10 := fun o => (hxZ o).c10
  have za11 := fun o => (hxZ o).c11
  have za12 := fun o => (hxZ o).c12
  clear hxZ
  go_wp2_with fail
  refine (HE.out _ _ _ _ _ _ _ _ _ _ _ _ _ _ _ (H1_6.out.below (by repeat (first | with_reducible exact Below.refl _ _ | exact Hid.out (by with_reducible assumption) | refine Below.setCell ?_ (by simp <;> omega) _ | refine below_alloc ?_ _ | refine Below.alloc ?_ (by simp <;> omega) _ | refine Below.drew ?_ | refine below_drewN ?_ _))) (H2_6.out.below (by repeat (first | with_reducible exact Below.refl _ _ | exact Hid.out (by with_reducible assumption) | refine Below.setCell ?_ (by simp <;> omega) _ | refine below_alloc ?_ _ | refine Below.alloc ?_ (by simp <;> omega) _ | refine Below.drew ?_ | refine below_drewN ?_ _))) (H3_6.out.below (by repeat (first | with_reducible exact Below.refl _ _ | exact Hid.out (by with_reducible assumption) | refine Below.setCell ?_ (by simp <;> omega) _ | refine below_alloc ?_ _ | refine Below.alloc ?_ (by simp <;> omega) _ | refine Below.drew ?_ | refine below_drewN ?_ _))) (H4_6.out.below (by repeat (first | with_reducible exact Below.refl _ _ | exact Hid.out (by with_reducible assumption) | refine Below.setCell ?_ (by simp <;> omega) _ | refine below_alloc ?_ _ | refine Below.alloc ?_ (by simp <;> omega) _ | refine Below.drew ?_ | refine below_drewN ?_ _))) (H5_6.out.below (by repeat (first | with_reducible exact Below.refl _ _ | exact Hid.out (by with_reducible assumption) | refine Below.setCell ?_ (by simp <;> omega) _ | refine below_alloc ?_ _ | refine Below.alloc ?_ (by simp <;> omega) _ | refine Below.drew ?_ | refine below_drewN ?_ _))) (H6_6.out.below (by repeat (first | with_reducible exact Below.refl _ _ | exact Hid.out (by with_reducible assumption) | refine Below.setCell ?_ (by simp <;> omega) _ | refine below_alloc ?_ _ | refine Below.alloc ?_ (by simp <;> omega) _ | refine Below.drew ?_ | refine below_drewN ?_ _))) (H7_6.out.below (by repeat (first | with_reducible exact Below.refl _ _ | exact Hid.out (by with_reducible assumption) | refine Below.setCell ?_ (by simp <;> omega) _ | refine below_alloc ?_ _ | refine Below.alloc ?_ (by simp <;> omega) _ | refine Below.drew ?_ | refine below_drewN ?_ _))) (P1_6.out.cells.below (by repeat (first | with_reducible exact Below.refl _ _ | exact Hid.out (by with_reducible assumption) | refine Below.setCell ?_ (by simp <;> omega) _ | refine below_alloc ?_ _ | refine Below.alloc ?_ (by simp <;> omega) _ | refine Below.drew ?_ | refine below_drewN ?_ _))) (P2_6.out.cells.below (by repeat (first | with_reducible exact Below.refl _ _ | exact Hid.out (by with_reducible assumption) | refine Below.setCell ?_ (by simp <;> omega) _ | refine below_alloc ?_ _ | refine Below.alloc ?_ (by simp <;> omega) _ | refine Below.drew ?_ | refine below_drewN ?_ _))) (P3_6.out.cells.below (by repeat (first | with_reducible exact Below.refl _ _ | exact Hid.out (by with_reducible assumption) | refine Below.setCell ?_ (by simp <;> omega) _ | refine below_alloc ?_ _ | refine Below.alloc ?_ (by simp <;> omega) _ | refine Below.drew ?_ | refine below_drewN ?_ _))) (P4_6.out.cells.below (by repeat (first | with_reducible exact Below.refl _ _ | exact Hid.out (by with_reducible assumption) | refine Below.setCell ?_ (by simp <;> omega) _ | refine below_alloc ?_ _ | refine Below.alloc ?_ (by simp <;> omega) _ | refine Below.drew ?_ | refine below_drewN ?_ _))) (P5_6.out.cells.below (by repeat (first | with_reducible exact Below.refl _ _ | exact Hid.out (by with_reducible assumption) | refine Below.setCell ?_ (by simp <;> omega) _ | refine below_alloc ?_ _ | refine Below.alloc ?_ (by simp <;> omega) _ | refine Below.drew ?_ | refine below_drewN ?_ _))) (P6_6.out.cells.below (by repeat (first | with_reducible exact Below.refl _ _ | exact Hid.out (by with_reducible assumption) | refine Below.setCell ?_ (by simp <;> omega) _ | refine below_alloc ?_ _ | refine Below.alloc ?_ (by simp <;> omega) _ | refine Below.drew ?_ | refine below_drewN ?_ _))) (P7_6.out.cells.below (by repeat (first | with_reducible exact Below.refl _ _ | exact Hid.out (by with_reducible assumption) | refine Below.setCell ?_ (by simp <;> omega) _ | refine below_alloc ?_ _ | refine Below.alloc ?_ (by simp <;> omega) _ | refine Below.drew ?_ | refine below_drewN ?_ _)))).mono ?_
  rintro e w7 ⟨rfl, hb⟩
  clear xa0 xa1 xa2 xa3 xa4 xa5 xa6 xa7 xa8 xa9 xa10 xa11 xa12 za0 za1 za2 za3 za4 za5 za6 za7 za8 za9 za10 za11 za12
  have N7 := Lib.hid (show Below w6.heap.size w6 w7 from Below.trans (by repeat (first | with_reducible exact Below.refl _ _ | exact Hid.out (by with_reducible assumption) | refine Below.setCell ?_ (by simp <;> omega) _ | refine below_alloc ?_ _ | refine Below.alloc ?_ (by simp <;> omega) _ | refine Below.drew ?_ | refine below_drewN ?_ _)) (hb.mono (by simp)))
  have B7 := Lib.hid (show Below w.heap.size w w7 from B6.out.trans (N7.out.mono B6.out.size))
  have Z7 := Lib.hid (Z6.out.below N7.out)
  have X7 := Lib.hid (X6.out.below N7.out)
  clear x0 x1 x2 x3 x4 x5 x6 x7 x8 x9 x10 x11 x12 z0 z1 z2 z3 z4 z5 z6 z7 z8 z9 z10 z11 z12
  have P1_7 := Lib.hid (P1_6.out.below N7.out)
  have G1_7 := Lib.hid (G1_6.out.below N7.out)
  have P2_7 := Lib.hid (P2_6.out.below N7.out)
  have G2_7 := Lib.hid (G2_6.out.below N7.out)
  have P3_7 := Lib.hid (P3_6.out.below N7.out)
  have G3_7 := Lib.hid (G3_6.out.below N7.out)
  have P4_7 := Lib.hid (P4_6.out.below N7.out)
  have G4_7 := Lib.hid (G4_6.out.below N7.out)
  have P5_7 := Lib.hid (P5_6.out.below N7.out)
  have G5_7 := Lib.hid (G5_6.out.below N7.out)
  have P6_7 := Lib.hid (P6_6.out.below N7.out)
  have G6_7 := Lib.hid (G6_6.out.below N7.out)
  have P7_7 := Lib.hid (P7_6.out.below N7.out)
  have G7_7 := Lib.hid (G7_6.out.below N7.out)
  clear hb P1_6 G1_6 P2_6 G2_6 P3_6 G3_6 P4_6 G4_6 P5_6 G5_6 P6_6 G6_6 P7_6 G7_6
  obtain ⟨x0, x1, x2, x3, x4, x5, x6, x7, x8, x9, x10, x11, x12⟩ := X7.out
  obtain ⟨z0, z1, z2, z3, z4, z5, z6, z7, z8, z9, z10, z11, z12⟩ := Z7.out
  go_wp2_with fail
  refine (heldDesk_any 2 1 2 1 1 1 (some ⟨g1, 0, none⟩) (some ⟨g2, 0, none⟩) (some ⟨g3, 0, none⟩) (some ⟨g4, 0, none⟩) (some ⟨g5, 0, none⟩) (some ⟨g6, 0, none⟩) (some ⟨g7, 0, none⟩) 1 1 2 2 2 2 2 2 2 2 2 2 1 1 1 _ (by omega) (by omega) (G1_7.out.cells.below (by repeat (first | with_reducible exact Below.refl _ _ | exact Hid.out (by with_reducible assumption) | refine Below.setCell ?_ (by simp <;> omega) _ | refine below_alloc ?_ _ | refine Below.alloc ?_ (by simp <;> omega) _ | refine Below.drew ?_ | refine below_drewN ?_ _))) (G2_7.out.cells.below (by repeat (first | with_reducible exact Below.refl _ _ | exact Hid.out (by with_reducible assumption) | refine Below.setCell ?_ (by simp <;> omega) _ | refine below_alloc ?_ _ | refine Below.alloc ?_ (by simp <;> omega) _ | refine Below.drew ?_ | refine below_drewN ?_ _))) (G3_7.out.cells.below (by repeat (first | with_reducible exact Below.refl _ _ | exact Hid.out (by with_reducible assumption) | refine Below.setCell ?_ (by simp <;> omega) _ | refine below_alloc ?_ _ | refine Below.alloc ?_ (by simp <;> omega) _ | refine Below.drew ?_ | refine below_drewN ?_ _))) (G4_7.out.cells.below (by repeat (first | with_reducible exact Below.refl _ _ | exact Hid.out (by with_reducible assumption) | refine Below.setCell ?_ (by simp <;> omega) _ | refine below_alloc ?_ _ | refine Below.alloc ?_ (by simp <;> omega) _ | refine Below.drew ?_ | refine below_drewN ?_ _))) (G5_7.out.cells.below (by repeat (first | with_reducible exact Below.refl _ _ | exact Hid.out (by with_reducible assumption) | refine Below.setCell ?_ (by simp <;> omega) _ | refine below_alloc ?_ _ | refine Below.alloc ?_ (by simp <;> omega) _ | refine Below.drew ?_ | refine below_drewN ?_ _))) (G6_7.out.cells.below (by repeat (first | with_reducible exact Below.refl _ _ | exact Hid.out (by with_reducible assumption) | refine Below.setCell ?_ (by simp <;> omega) _ | refine below_alloc ?_ _ | refine Below.alloc ?_ (by simp <;> omega) _ | refine Below.drew ?_ | refine below_drewN ?_ _))) (G7_7.out.cells.below (by repeat (first | with_reducible exact Below.refl _ _ | exact Hid.out (by with_reducible assumption) | refine Below.setCell ?_ (by simp <;> omega) _ | refine below_alloc ?_ _ | refine Below.alloc ?_ (by simp <;> omega) _ | refine Below.drew ?_ | refine below_drewN ?_ _)))).mono ?_
  rintro e w8 ⟨rfl, hb⟩
  have N8 := Lib.hid (show Below w7.heap.size w7 w8 from Below.trans (by repeat (first | with_reducible exact Below.refl _ _ | exact Hid.out (by with_reducible assumption) | refine Below.setCell ?_ (by simp <;> omega) _ | refine below_alloc ?_ _ | refine Below.alloc ?_ (by simp <;> omega) _ | refine Below.drew ?_ | refine below_drewN ?_ _)) (hb.mono (by simp)))
  have B8 := Lib.hid (show Below w.heap.size w w8 from B7.out.trans (N8.out.mono B7.out.size))
  have Z8 := Lib.hid (Z7.out.below N8.out)
  have X8 := Lib.hid (X7.out.below N8.out)
  clear x0 x1 x2 x3 x4 x5 x6 x7 x8 x9 x10 x11 x12 z0 z1 z2 z3 z4 z5 z6 z7 z8 z9 z10 z11 z12
  have P1_8 := Lib.hid (P1_7.out.below N8.out)
  have G1_8 := Lib.hid (G1_7.out.below N8.out)
  have P2_8 := Lib.hid (P2_7.out.below N8.out)
  have G2_8 := Lib.hid (G2_7.out.below N8.out)
  have P3_8 := Lib.hid (P3_7.out.below N8.out)
  have G3_8 := Lib.hid (G3_7.out.below N8.out)
  have P4_8 := Lib.hid (P4_7.out.below N8.out)
  have G4_8 := Lib.hid (G4_7.out.below N8.out)
  have P5_8 := Lib.hid (P5_7.out.below N8.out)
  have G5_8 := Lib.hid (G5_7.out.below N8.out)
  have P6_8 := Lib.hid (P6_7.out.below N8.out)
  have G6_8 := Lib.hid (G6_7.out.below N8.out)
  have P7_8 := Lib.hid (P7_7.out.below N8.out)
  have G7_8 := Lib.hid (G7_7.out.below N8.out)
  clear hb P1_7 G1_7 P2_7 G2_7 P3_7 G3_7 P4_7 G4_7 P5_7 G5_7 P6_7 G6_7 P7_7 G7_7
  obtain ⟨x0, x1, x2, x3, x4, x5, x6, x7, x8, x9, x10, x11, x12⟩ := X8.out
  obtain ⟨z0, z1, z2, z3, z4, z5, z6, z7, z8, z9, z10, z11, z12⟩ := Z8.out
  go_wp2_with fail
  go_ret
  exact ⟨rfl, B8.out⟩
end Go.Proofs.Yteagfbedbbnomaa
