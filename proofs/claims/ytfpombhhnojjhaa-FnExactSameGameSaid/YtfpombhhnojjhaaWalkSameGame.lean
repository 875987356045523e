/- The law on SameGame walked. -/
import Derived.Test.YtfpombhhnojjhaaSameGS
import Derived.Test.YtfpombhhnojjhaaOpenGame
import Derived.Deep.CutRange
import Derived.Deep.RegionHeld3
set_option linter.unusedVariables false
namespace Go.Proofs.Ytfpombhhnojjhaa
open Go.RowKit

set_option maxHeartbeats 32000000 in
theorem fnExactSameGame.walk (A0 : Option Addr) (n0 c0 : Nat) (B0 : Option Addr) (m0 d0 : Nat) (C0 : Option Addr) (o0 q0 : Nat) (P0 : Nat → Option Addr) (L0 K0 : Nat → Nat) (f0 g0 : Nat → Int) (F0 : Nat → Nat → Int) (A1 : Option Addr) (n1 c1 : Nat) (B1 : Option Addr) (m1 d1 : Nat) (C1 : Option Addr) (o1 q1 : Nat) (P1 : Nat → Option Addr) (L1 K1 : Nat → Nat) (f1 g1 : Nat → Int) (F1 : Nat → Nat → Int) (w : World) (H0 : GameIn w A0 n0 B0 m0 C0 o0 P0 L0 K0 f0 g0 F0) (H1 : GameIn w A1 n1 B1 m1 C1 o1 P1 L1 K1 f1 g1 F1) :
    Calls Try.prog 6 #[.agg #[.slice A0 n0 c0, .slice B0 m0 d0, .slice C0 o0 q0], .agg #[.slice A1 n1 c1, .slice B1 m1 d1, .slice C1 o1 q1]] w fun e w' => e = .returned (.bool true) ∧ Below w.heap.size w w' := by
  have PA0_0 := Lib.hid H0.ca
  have PA0_1 := Lib.hid H0.cb
  have PA0_2 := Lib.hid H0.cc
  have na0_0 := H0.na
  have na0_1 := H0.nb
  have na0_2 := H0.nc
  have nl0 := H0.nl
  clear H0
  have PA1_0 := Lib.hid H1.ca
  have PA1_1 := Lib.hid H1.cb
  have PA1_2 := Lib.hid H1.cc
  have na1_0 := H1.na
  have na1_1 := H1.nb
  have na1_2 := H1.nc
  have nl1 := H1.nl
  clear H1
  by_cases hb0 : (n0 : Int) + m0 + o0 + sumN L0 o0 ≤ 1048576
  rotate_left
  · have HN0 := Lib.hid (fun W h => szGame_no A0 B0 C0 n0 c0 m0 d0 o0 q0 P0 L0 K0 f0 g0 F0 1048576 W (by omega) (by omega) na0_0 na0_1 na0_2 nl0 hb0 h)
    go_enter Try.func6, Try.ntmps6
    go_wp2_with fail
    refine (HN0.out _ (PA0_2.out.below (by repeat (first | exact Below.refl _ _ | exact Hid.out (by assumption) | refine below_alloc ?_ _ | refine Below.setCell ?_ (by simp <;> omega) _ | refine Below.alloc ?_ (by simp <;> omega) _ | refine Below.drew ?_ | refine below_drewN ?_ _)))).mono ?_
    rintro e w1 ⟨rfl, hb⟩
    have N_e := Lib.hid (show Below w.heap.size w _ from Below.trans (by repeat (first | exact Below.refl _ _ | exact Hid.out (by assumption) | refine below_alloc ?_ _ | refine Below.setCell ?_ (by simp <;> omega) _ | refine Below.alloc ?_ (by simp <;> omega) _ | refine Below.drew ?_ | refine below_drewN ?_ _)) (hb.mono (by simp <;> omega)))
    have B_e := Lib.hid (N_e.out)
    clear hb
    go_wp2_with fail
    go_ret
    exact ⟨rfl, B_e.out⟩
  have HZ0 := Lib.hid (fun W h => szGame_yes A0 B0 C0 n0 c0 m0 d0 o0 q0 P0 L0 K0 f0 g0 F0 1048576 W (by omega) hb0 h)
  have HL0 := Lib.hid (fun i (hi : i < o0) => show L0 i ≤ 1048576 from Nat.le_trans (row_le_sum L0 hi) (by omega))
  by_cases hb1 : (n1 : Int) + m1 + o1 + sumN L1 o1 ≤ (1048576 - (n0 : Int) - m0 - o0 - sumN L0 o0)
  rotate_left
  · have HN1 := Lib.hid (fun W h => szGame_no A1 B1 C1 n1 c1 m1 d1 o1 q1 P1 L1 K1 f1 g1 F1 (1048576 - (n0 : Int) - m0 - o0 - sumN L0 o0) W (by omega) (by omega) na1_0 na1_1 na1_2 nl1 hb1 h)
    go_enter Try.func6, Try.ntmps6
    go_wp2_with fail
    refine (HZ0.out _ (PA0_2.out.below (by repeat (first | exact Below.refl _ _ | exact Hid.out (by assumption) | refine below_alloc ?_ _ | refine Below.setCell ?_ (by simp <;> omega) _ | refine Below.alloc ?_ (by simp <;> omega) _ | refine Below.drew ?_ | refine below_drewN ?_ _)))).mono ?_
    rintro e w1 ⟨rfl, hb⟩
    have N_w1 := Lib.hid (show Below w.heap.size w w1 from Below.trans (by repeat (first | exact Below.refl _ _ | exact Hid.out (by assumption) | refine below_alloc ?_ _ | refine Below.setCell ?_ (by simp <;> omega) _ | refine Below.alloc ?_ (by simp <;> omega) _ | refine Below.drew ?_ | refine below_drewN ?_ _)) (hb.mono (by simp <;> omega)))
    have B_w1 := Lib.hid (show Below w.heap.size w w1 from N_w1.out)
    have S_w1 := Lib.hid (show w.heap.size ≤ w1.heap.size from N_w1.out.size)
    have X0_w1 := Lib.hid (Box3.below (Box3.alloc (Box3.new w 45 (.slice A0 n0 c0) (.slice B0 m0 d0) (.slice C0 o0 q0)) _) hb)
    have X1_w1 := Lib.hid (Box3.below (show Box3 _ (w.heap.size + 1) _ _ _ from by simpa using (Box3.new (w.alloc (.cells #[.slice A0 n0 c0, .slice B0 m0 d0, .slice C0 o0 q0] 45)) 45 (.slice A1 n1 c1) (.slice B1 m1 d1) (.slice C1 o1 q1))) hb)
    obtain ⟨X0a, X0b, X0c⟩ := X0_w1.out
    obtain ⟨X1a, X1b, X1c⟩ := X1_w1.out
    clear hb
    go_wp2_with fail
    refine (HN1.out _ (PA1_2.out.below (by repeat (first | exact Below.refl _ _ | exact Hid.out (by assumption) | refine below_alloc ?_ _ | refine Below.setCell ?_ (by simp <;> omega) _ | refine Below.alloc ?_ (by simp <;> omega) _ | refine Below.drew ?_ | refine below_drewN ?_ _)))).mono ?_
    rintro e w2 ⟨rfl, hb⟩
    have N_e := Lib.hid (show Below w1.heap.size w1 _ from Below.trans (by repeat (first | exact Below.refl _ _ | exact Hid.out (by assumption) | refine below_alloc ?_ _ | refine Below.setCell ?_ (by simp <;> omega) _ | refine Below.alloc ?_ (by simp <;> omega) _ | refine Below.drew ?_ | refine below_drewN ?_ _)) (hb.mono (by simp <;> omega)))
    have B_e := Lib.hid (B_w1.out.trans (N_e.out.mono B_w1.out.size))
    clear hb
    clear X0a X0b X0c X1a X1b X1c
    go_wp2_with fail
    go_ret
    exact ⟨rfl, B_e.out⟩
  have HZ1 := Lib.hid (fun W h => szGame_yes A1 B1 C1 n1 c1 m1 d1 o1 q1 P1 L1 K1 f1 g1 F1 (1048576 - (n0 : Int) - m0 - o0 - sumN L0 o0) W (by omega) hb1 h)
  have HL1 := Lib.hid (fun i (hi : i < o1) => show L1 i ≤ 1048576 from Nat.le_trans (row_le_sum L1 hi) (by omega))
  have HT0 := Lib.hid (fun W y1 y2 y3 => toGame_any A0 B0 C0 n0 c0 m0 d0 o0 q0 P0 L0 K0 f0 g0 F0 W (by omega) (by omega) (by omega) HL0.out y1 y2 y3)
  have HE0 := Lib.hid (fun v0 v1 v2 v3 v4 v5 c0 c1 c2 e0 e1 e2 p1 p2 k1 k2 W y1 y2 y3 y4 y5 y6 => eqGame_any v0 v1 v2 v3 v4 v5 n0 c0 m0 c1 o0 c2 e0 e1 e2 p1 p2 L0 k1 k2 f0 g0 F0 W (by omega) (by omega) (by omega) (fun i hi => Nat.le_trans (HL0.out i hi) (by omega)) y1 y2 y3 y4 y5 y6)
  have HT1 := Lib.hid (fun W y1 y2 y3 => toGame_any A1 B1 C1 n1 c1 m1 d1 o1 q1 P1 L1 K1 f1 g1 F1 W (by omega) (by omega) (by omega) HL1.out y1 y2 y3)
  have HE1 := Lib.hid (fun v0 v1 v2 v3 v4 v5 c0 c1 c2 e0 e1 e2 p1 p2 k1 k2 W y1 y2 y3 y4 y5 y6 => eqGame_any v0 v1 v2 v3 v4 v5 n1 c0 m1 c1 o1 c2 e0 e1 e2 p1 p2 L1 k1 k2 f1 g1 F1 W (by omega) (by omega) (by omega) (fun i hi => Nat.le_trans (HL1.out i hi) (by omega)) y1 y2 y3 y4 y5 y6)
  have HS := Lib.hid (fun vA0 vB0 vC0 vc0 vd0 vq0 vP0 vK0 vA1 vB1 vC1 vc1 vd1 vq1 vP1 vK1 W h0_0 h0_1 h0_2 h1_0 h1_1 h1_2 => specSameGame_any vA0 vB0 vC0 n0 vc0 m0 vd0 o0 vq0 vP0 L0 vK0 f0 g0 F0 vA1 vB1 vC1 n1 vc1 m1 vd1 o1 vq1 vP1 L1 vK1 f1 g1 F1 W (by omega) (by omega) (by omega) HL0.out h0_0 h0_1 h0_2 (by omega) (by omega) (by omega) HL1.out h1_0 h1_1 h1_2)
  have HI := Lib.hid (fun vA0 vB0 vC0 vc0 vd0 vq0 vP0 vK0 vA1 vB1 vC1 vc1 vd1 vq1 vP1 vK1 W h0_0 h0_1 h0_2 h1_0 h1_1 h1_2 => implSameGame_any vA0 vB0 vC0 n0 vc0 m0 vd0 o0 vq0 vP0 L0 vK0 f0 g0 F0 vA1 vB1 vC1 n1 vc1 m1 vd1 o1 vq1 vP1 L1 vK1 f1 g1 F1 W (by omega) (by omega) (by omega) HL0.out h0_0 h0_1 h0_2 (by omega) (by omega) (by omega) HL1.out h1_0 h1_1 h1_2)
  generalize sameGB n0 n1 m0 m1 o0 o1 L0 L1 f0 f1 g0 g1 F0 F1 = r at *
  go_enter Try.func6, Try.ntmps6
  go_wp2_with fail
  refine (HZ0.out _ (PA0_2.out.below (by repeat (first | exact Below.refl _ _ | exact Hid.out (by assumption) | refine below_alloc ?_ _ | refine Below.setCell ?_ (by simp <;> omega) _ | refine Below.alloc ?_ (by simp <;> omega) _ | refine Below.drew ?_ | refine below_drewN ?_ _)))).mono ?_
  rintro e w1 ⟨rfl, hb⟩
  have N_w1 := Lib.hid (show Below w.heap.size w w1 from Below.trans (by repeat (first | exact Below.refl _ _ | exact Hid.out (by assumption) | refine below_alloc ?_ _ | refine Below.setCell ?_ (by simp <;> omega) _ | refine Below.alloc ?_ (by simp <;> omega) _ | refine Below.drew ?_ | refine below_drewN ?_ _)) (hb.mono (by simp <;> omega)))
  have B_w1 := Lib.hid (show Below w.heap.size w w1 from N_w1.out)
  have S_w1 := Lib.hid (show w.heap.size ≤ w1.heap.size from N_w1.out.size)
  have X0_w1 := Lib.hid (Box3.below (Box3.alloc (Box3.new w 45 (.slice A0 n0 c0) (.slice B0 m0 d0) (.slice C0 o0 q0)) _) hb)
  have X1_w1 := Lib.hid (Box3.below (show Box3 _ (w.heap.size + 1) _ _ _ from by simpa using (Box3.new (w.alloc (.cells #[.slice A0 n0 c0, .slice B0 m0 d0, .slice C0 o0 q0] 45)) 45 (.slice A1 n1 c1) (.slice B1 m1 d1) (.slice C1 o1 q1))) hb)
  obtain ⟨X0a, X0b, X0c⟩ := X0_w1.out
  obtain ⟨X1a, X1b, X1c⟩ := X1_w1.out
  clear hb
  go_wp2_with fail
  refine (HZ1.out _ (PA1_2.out.below (by repeat (first | exact Below.refl _ _ | exact Hid.out (by assumption) | refine below_alloc ?_ _ | refine Below.setCell ?_ (by simp <;> omega) _ | refine Below.alloc ?_ (by simp <;> omega) _ | refine Below.drew ?_ | refine below_drewN ?_ _)))).mono ?_
  rintro e w2 ⟨rfl, hb⟩
  have N_w2 := Lib.hid (show Below w1.heap.size w1 w2 from Below.trans (by repeat (first | exact Below.refl _ _ | exact Hid.out (by assumption) | refine below_alloc ?_ _ | refine Below.setCell ?_ (by simp <;> omega) _ | refine Below.alloc ?_ (by simp <;> omega) _ | refine Below.drew ?_ | refine below_drewN ?_ _)) (hb.mono (by simp <;> omega)))
  have B_w2 := Lib.hid (B_w1.out.trans (N_w2.out.mono B_w1.out.size))
  have S_w2 := Lib.hid (show w1.heap.size ≤ w2.heap.size from N_w2.out.size)
  clear X0a X0b X0c X1a X1b X1c
  have X0_w2 := Lib.hid (X0_w1.out.below N_w2.out)
  clear X0_w1
  have X1_w2 := Lib.hid (X1_w1.out.below N_w2.out)
  clear X1_w1
  obtain ⟨X0a, X0b, X0c⟩ := X0_w2.out
  obtain ⟨X1a, X1b, X1c⟩ := X1_w2.out
  clear hb
  go_upto_region 8 with fail
  go_cut [6] from 20 to 24 (fun s6 wx => s6 = .bool r ∧ Below w2.heap.size w2 wx)
  case first =>
    go_region_with (first
      | (go_at_call_of 31 (Value.agg #[.slice A0 n0 c0, .slice B0 m0 d0, .slice C0 o0 q0])
         refine (HT0.out _ (PA0_0.out.below (by repeat (first | exact Below.refl _ _ | exact Hid.out (by assumption) | refine below_alloc ?_ _ | refine Below.setCell ?_ (by simp <;> omega) _ | refine Below.alloc ?_ (by simp <;> omega) _ | refine Below.drew ?_ | refine below_drewN ?_ _))) (PA0_1.out.below (by repeat (first | exact Below.refl _ _ | exact Hid.out (by assumption) | refine below_alloc ?_ _ | refine Below.setCell ?_ (by simp <;> omega) _ | refine Below.alloc ?_ (by simp <;> omega) _ | refine Below.drew ?_ | refine below_drewN ?_ _))) (PA0_2.out.below (by repeat (first | exact Below.refl _ _ | exact Hid.out (by assumption) | refine below_alloc ?_ _ | refine Below.setCell ?_ (by simp <;> omega) _ | refine Below.alloc ?_ (by simp <;> omega) _ | refine Below.drew ?_ | refine below_drewN ?_ _)))).mono ?_
         rintro e u0 ⟨g0_u0, g1_u0, g2_u0, G_u0, rfl, hg0, hg1, hg2, hg3, ho0, ho1, ho2, hb⟩
         have N_u0 := Lib.hid (show Below w2.heap.size w2 u0 from Below.trans (by repeat (first | exact Below.refl _ _ | exact Hid.out (by assumption) | refine below_alloc ?_ _ | refine Below.setCell ?_ (by simp <;> omega) _ | refine Below.alloc ?_ (by simp <;> omega) _ | refine Below.drew ?_ | refine below_drewN ?_ _)) (hb.mono (by simp)))
         have B_u0 := Lib.hid (B_w2.out.trans (N_u0.out.mono B_w2.out.size))
         have K0_0 := Lib.hid ho0.cells
         have K0_1 := Lib.hid ho1.cells
         have K0_2 := Lib.hid ho2.cells
         obtain ⟨zX00a, zX00b, zX00c⟩ := X0_w2.out.below N_u0.out
         obtain ⟨zX10a, zX10b, zX10c⟩ := X1_w2.out.below N_u0.out
         clear hb ho0 ho1 ho2)
      | (go_at_call_of 31 (Value.agg #[.slice A1 n1 c1, .slice B1 m1 d1, .slice C1 o1 q1])
         refine (HT1.out _ (PA1_0.out.below (by repeat (first | exact Below.refl _ _ | exact Hid.out (by assumption) | refine below_alloc ?_ _ | refine Below.setCell ?_ (by simp <;> omega) _ | refine Below.alloc ?_ (by simp <;> omega) _ | refine Below.drew ?_ | refine below_drewN ?_ _))) (PA1_1.out.below (by repeat (first | exact Below.refl _ _ | exact Hid.out (by assumption) | refine below_alloc ?_ _ | refine Below.setCell ?_ (by simp <;> omega) _ | refine Below.alloc ?_ (by simp <;> omega) _ | refine Below.drew ?_ | refine below_drewN ?_ _))) (PA1_2.out.below (by repeat (first | exact Below.refl _ _ | exact Hid.out (by assumption) | refine below_alloc ?_ _ | refine Below.setCell ?_ (by simp <;> omega) _ | refine Below.alloc ?_ (by simp <;> omega) _ | refine Below.drew ?_ | refine below_drewN ?_ _)))).mono ?_
         rintro e u1 ⟨g0_u1, g1_u1, g2_u1, G_u1, rfl, hg0, hg1, hg2, hg3, ho0, ho1, ho2, hb⟩
         have N_u1 := Lib.hid (show Below w2.heap.size w2 u1 from Below.trans (by repeat (first | exact Below.refl _ _ | exact Hid.out (by assumption) | refine below_alloc ?_ _ | refine Below.setCell ?_ (by simp <;> omega) _ | refine Below.alloc ?_ (by simp <;> omega) _ | refine Below.drew ?_ | refine below_drewN ?_ _)) (hb.mono (by first | exact Hid.out N_u0.size | simp | (have := N_u0.out.size; simpa using this))))
         have B_u1 := Lib.hid (B_w2.out.trans (N_u1.out.mono B_w2.out.size))
         have K0_0 := Lib.hid (K0_0.out.below (show Below u0.heap.size u0 u1 from Below.trans (by repeat (first | exact Below.refl _ _ | exact Hid.out (by assumption) | refine below_alloc ?_ _ | refine Below.setCell ?_ (by simp <;> omega) _ | refine Below.alloc ?_ (by simp <;> omega) _ | refine Below.drew ?_ | refine below_drewN ?_ _)) (hb.mono (by simp))))
         have K0_1 := Lib.hid (K0_1.out.below (show Below u0.heap.size u0 u1 from Below.trans (by repeat (first | exact Below.refl _ _ | exact Hid.out (by assumption) | refine below_alloc ?_ _ | refine Below.setCell ?_ (by simp <;> omega) _ | refine Below.alloc ?_ (by simp <;> omega) _ | refine Below.drew ?_ | refine below_drewN ?_ _)) (hb.mono (by simp))))
         have K0_2 := Lib.hid (K0_2.out.below (show Below u0.heap.size u0 u1 from Below.trans (by repeat (first | exact Below.refl _ _ | exact Hid.out (by assumption) | refine below_alloc ?_ _ | refine Below.setCell ?_ (by simp <;> omega) _ | refine Below.alloc ?_ (by simp <;> omega) _ | refine Below.drew ?_ | refine below_drewN ?_ _)) (hb.mono (by simp))))
         have K1_0 := Lib.hid ho0.cells
         have K1_1 := Lib.hid ho1.cells
         have K1_2 := Lib.hid ho2.cells
         obtain ⟨zX01a, zX01b, zX01c⟩ := X0_w2.out.below N_u1.out
         obtain ⟨zX11a, zX11b, zX11c⟩ := X1_w2.out.below N_u1.out
         clear hb ho0 ho1 ho2)
      | (go_at_call 34
         refine (HS.out _ _ _ _ _ _ _ _ _ _ _ _ _ _ _ _ _ (K0_0.out.below (by repeat (first | exact Below.refl _ _ | exact Hid.out (by assumption) | refine below_alloc ?_ _ | refine Below.setCell ?_ (by simp <;> omega) _ | refine Below.alloc ?_ (by simp <;> omega) _ | refine Below.drew ?_ | refine below_drewN ?_ _))) (K0_1.out.below (by repeat (first | exact Below.refl _ _ | exact Hid.out (by assumption) | refine below_alloc ?_ _ | refine Below.setCell ?_ (by simp <;> omega) _ | refine Below.alloc ?_ (by simp <;> omega) _ | refine Below.drew ?_ | refine below_drewN ?_ _))) (K0_2.out.below (by repeat (first | exact Below.refl _ _ | exact Hid.out (by assumption) | refine below_alloc ?_ _ | refine Below.setCell ?_ (by simp <;> omega) _ | refine Below.alloc ?_ (by simp <;> omega) _ | refine Below.drew ?_ | refine below_drewN ?_ _))) (K1_0.out.below (by repeat (first | exact Below.refl _ _ | exact Hid.out (by assumption) | refine below_alloc ?_ _ | refine Below.setCell ?_ (by simp <;> omega) _ | refine Below.alloc ?_ (by simp <;> omega) _ | refine Below.drew ?_ | refine below_drewN ?_ _))) (K1_1.out.below (by repeat (first | exact Below.refl _ _ | exact Hid.out (by assumption) | refine below_alloc ?_ _ | refine Below.setCell ?_ (by simp <;> omega) _ | refine Below.alloc ?_ (by simp <;> omega) _ | refine Below.drew ?_ | refine below_drewN ?_ _))) (K1_2.out.below (by repeat (first | exact Below.refl _ _ | exact Hid.out (by assumption) | refine below_alloc ?_ _ | refine Below.setCell ?_ (by simp <;> omega) _ | refine Below.alloc ?_ (by simp <;> omega) _ | refine Below.drew ?_ | refine below_drewN ?_ _)))).mono ?_
         rintro e u9 ⟨rfl, hb⟩
         have N_u9 := Lib.hid (show Below w2.heap.size w2 u9 from Below.trans (show Below w2.heap.size w2 _ from (by repeat (first | exact Below.refl _ _ | exact Hid.out (by assumption) | refine below_alloc ?_ _ | refine Below.setCell ?_ (by simp <;> omega) _ | refine Below.alloc ?_ (by simp <;> omega) _ | refine Below.drew ?_ | refine below_drewN ?_ _))) (hb.mono (by first | exact N_u1.out.size | simp [N_u1.out.size])))
         clear hb))
    all_goals (go_wp2_with fail; go_meet; exact ⟨rfl, N_u9.out⟩)
  case rest =>
  obtain ⟨rfl, hb⟩ := hcut
  obtain ⟨w3, rfl⟩ : ∃ u, u = wc := ⟨_, rfl⟩
  have N_w3 := Lib.hid hb
  clear hb
  have B_w3 := Lib.hid (B_w2.out.trans (N_w3.out.mono B_w2.out.size))
  have S_w3 := Lib.hid (show w2.heap.size ≤ w3.heap.size from N_w3.out.size)
  clear X0a X0b X0c X1a X1b X1c
  have X0_w3 := Lib.hid (X0_w2.out.below N_w3.out)
  clear X0_w2
  have X1_w3 := Lib.hid (X1_w2.out.below N_w3.out)
  clear X1_w2
  obtain ⟨X0a, X0b, X0c⟩ := X0_w3.out
  obtain ⟨X1a, X1b, X1c⟩ := X1_w3.out
  go_wp2_with fail
  refine (HT0.out _ (PA0_0.out.below (by repeat (first | exact Below.refl _ _ | exact Hid.out (by assumption) | refine below_alloc ?_ _ | refine Below.setCell ?_ (by simp <;> omega) _ | refine Below.alloc ?_ (by simp <;> omega) _ | refine Below.drew ?_ | refine below_drewN ?_ _))) (PA0_1.out.below (by repeat (first | exact Below.refl _ _ | exact Hid.out (by assumption) | refine below_alloc ?_ _ | refine Below.setCell ?_ (by simp <;> omega) _ | refine Below.alloc ?_ (by simp <;> omega) _ | refine Below.drew ?_ | refine below_drewN ?_ _))) (PA0_2.out.below (by repeat (first | exact Below.refl _ _ | exact Hid.out (by assumption) | refine below_alloc ?_ _ | refine Below.setCell ?_ (by simp <;> omega) _ | refine Below.alloc ?_ (by simp <;> omega) _ | refine Below.drew ?_ | refine below_drewN ?_ _)))).mono ?_
  rintro e w4 ⟨g0_w4, g1_w4, g2_w4, G_w4, rfl, hg0, hg1, hg2, hg3, ho0, ho1, ho2, hb⟩
  have N_w4 := Lib.hid (show Below w3.heap.size w3 w4 from Below.trans (by repeat (first | exact Below.refl _ _ | exact Hid.out (by assumption) | refine below_alloc ?_ _ | refine Below.setCell ?_ (by simp <;> omega) _ | refine Below.alloc ?_ (by simp <;> omega) _ | refine Below.drew ?_ | refine below_drewN ?_ _)) (hb.mono (by simp <;> omega)))
  have B_w4 := Lib.hid (B_w3.out.trans (N_w4.out.mono B_w3.out.size))
  have S_w4 := Lib.hid (show w3.heap.size ≤ w4.heap.size from N_w4.out.size)
  clear X0a X0b X0c X1a X1b X1c
  have X0_w4 := Lib.hid (X0_w3.out.below N_w4.out)
  clear X0_w3
  have X1_w4 := Lib.hid (X1_w3.out.below N_w4.out)
  clear X1_w3
  obtain ⟨X0a, X0b, X0c⟩ := X0_w4.out
  obtain ⟨X1a, X1b, X1c⟩ := X1_w4.out
  have Y0_0_w4 := Lib.hid ho0
  have Y0_1_w4 := Lib.hid ho1
  have Y0_2_w4 := Lib.hid ho2
  have G_w4 := Lib.hid (show w3.heap.size + 0 ≤ g0_w4 ∧ g0_w4 < g1_w4 ∧ g1_w4 < g2_w4 ∧ g2_w4 < w4.heap.size from ⟨by first | omega | (simp at hg0; omega), hg1, hg2, hg3⟩)
  clear hb hg0 hg1 hg2 hg3 ho0 ho1 ho2
  have X0aq := X0_w4.out.a0
  have X0bq := X0_w4.out.a1
  have X0cq := X0_w4.out.a2
  have X1aq := X1_w4.out.a0
  have X1bq := X1_w4.out.a1
  have X1cq := X1_w4.out.a2
  go_wp2_with fail
  refine (HT1.out _ (PA1_0.out.below (by repeat (first | exact Below.refl _ _ | exact Hid.out (by assumption) | refine below_alloc ?_ _ | refine Below.setCell ?_ (by simp <;> omega) _ | refine Below.alloc ?_ (by simp <;> omega) _ | refine Below.drew ?_ | refine below_drewN ?_ _))) (PA1_1.out.below (by repeat (first | exact Below.refl _ _ | exact Hid.out (by assumption) | refine below_alloc ?_ _ | refine Below.setCell ?_ (by simp <;> omega) _ | refine Below.alloc ?_ (by simp <;> omega) _ | refine Below.drew ?_ | refine below_drewN ?_ _))) (PA1_2.out.below (by repeat (first | exact Below.refl _ _ | exact Hid.out (by assumption) | refine below_alloc ?_ _ | refine Below.setCell ?_ (by simp <;> omega) _ | refine Below.alloc ?_ (by simp <;> omega) _ | refine Below.drew ?_ | refine below_drewN ?_ _)))).mono ?_
  rintro e w5 ⟨g0_w5, g1_w5, g2_w5, G_w5, rfl, hg0, hg1, hg2, hg3, ho0, ho1, ho2, hb⟩
  have N_w5 := Lib.hid (show Below w4.heap.size w4 w5 from Below.trans (by repeat (first | exact Below.refl _ _ | exact Hid.out (by assumption) | refine below_alloc ?_ _ | refine Below.setCell ?_ (by simp <;> omega) _ | refine Below.alloc ?_ (by simp <;> omega) _ | refine Below.drew ?_ | refine below_drewN ?_ _)) (hb.mono (by simp <;> omega)))
  have B_w5 := Lib.hid (B_w4.out.trans (N_w5.out.mono B_w4.out.size))
  have S_w5 := Lib.hid (show w4.heap.size ≤ w5.heap.size from N_w5.out.size)
  clear X0a X0b X0c X0aq X0bq X0cq X1a X1b X1c X1aq X1bq X1cq
  have X0_w5 := Lib.hid (X0_w4.out.below N_w5.out)
  clear X0_w4
  have X1_w5 := Lib.hid (X1_w4.out.below N_w5.out)
  clear X1_w4
  have Y0_0_w5 := Lib.hid (Y0_0_w4.out.below N_w5.out)
  clear Y0_0_w4
  have Y0_1_w5 := Lib.hid (Y0_1_w4.out.below N_w5.out)
  clear Y0_1_w4
  have Y0_2_w5 := Lib.hid (Y0_2_w4.out.below N_w5.out)
  clear Y0_2_w4
  have Z0_w5 := Lib.hid (Box3.below (Box3.new w4 48 (.slice (some ⟨g0_w4, 0, none⟩) n0 n0) (.slice (some ⟨g1_w4, 0, none⟩) m0 m0) (.slice (some ⟨g2_w4, 0, none⟩) o0 o0)) hb)
  obtain ⟨X0a, X0b, X0c⟩ := X0_w5.out
  obtain ⟨X1a, X1b, X1c⟩ := X1_w5.out
  obtain ⟨Z0a, Z0b, Z0c⟩ := Z0_w5.out
  have Y1_0_w5 := Lib.hid ho0
  have Y1_1_w5 := Lib.hid ho1
  have Y1_2_w5 := Lib.hid ho2
  have G_w5 := Lib.hid (show w4.heap.size + 1 ≤ g0_w5 ∧ g0_w5 < g1_w5 ∧ g1_w5 < g2_w5 ∧ g2_w5 < w5.heap.size from ⟨by first | omega | (simp at hg0; omega), hg1, hg2, hg3⟩)
  clear hb hg0 hg1 hg2 hg3 ho0 ho1 ho2
  have X0aq := X0_w5.out.a0
  have X0bq := X0_w5.out.a1
  have X0cq := X0_w5.out.a2
  have X1aq := X1_w5.out.a0
  have X1bq := X1_w5.out.a1
  have X1cq := X1_w5.out.a2
  have Z0aq := Z0_w5.out.a0
  have Z0bq := Z0_w5.out.a1
  have Z0cq := Z0_w5.out.a2
  go_wp2_with fail
  refine (HI.out _ _ _ _ _ _ _ _ _ _ _ _ _ _ _ _ _ (Y0_0_w5.out.cells.below (by repeat (first | exact Below.refl _ _ | exact Hid.out (by assumption) | refine below_alloc ?_ _ | refine Below.setCell ?_ (by simp <;> omega) _ | refine Below.alloc ?_ (by simp <;> omega) _ | refine Below.drew ?_ | refine below_drewN ?_ _))) (Y0_1_w5.out.cells.below (by repeat (first | exact Below.refl _ _ | exact Hid.out (by assumption) | refine below_alloc ?_ _ | refine Below.setCell ?_ (by simp <;> omega) _ | refine Below.alloc ?_ (by simp <;> omega) _ | refine Below.drew ?_ | refine below_drewN ?_ _))) (Y0_2_w5.out.cells.below (by repeat (first | exact Below.refl _ _ | exact Hid.out (by assumption) | refine below_alloc ?_ _ | refine Below.setCell ?_ (by simp <;> omega) _ | refine Below.alloc ?_ (by simp <;> omega) _ | refine Below.drew ?_ | refine below_drewN ?_ _))) (Y1_0_w5.out.cells.below (by repeat (first | exact Below.refl _ _ | exact Hid.out (by assumption) | refine below_alloc ?_ _ | refine Below.setCell ?_ (by simp <;> omega) _ | refine Below.alloc ?_ (by simp <;> omega) _ | refine Below.drew ?_ | refine below_drewN ?_ _))) (Y1_1_w5.out.cells.below (by repeat (first | exact Below.refl _ _ | exact Hid.out (by assumption) | refine below_alloc ?_ _ | refine Below.setCell ?_ (by simp <;> omega) _ | refine Below.alloc ?_ (by simp <;> omega) _ | refine Below.drew ?_ | refine below_drewN ?_ _))) (Y1_2_w5.out.cells.below (by repeat (first | exact Below.refl _ _ | exact Hid.out (by assumption) | refine below_alloc ?_ _ | refine Below.setCell ?_ (by simp <;> omega) _ | refine Below.alloc ?_ (by simp <;> omega) _ | refine Below.drew ?_ | refine below_drewN ?_ _)))).mono ?_
  rintro e w6 ⟨rfl, hb⟩
  have N_w6 := Lib.hid (show Below w5.heap.size w5 w6 from Below.trans (by repeat (first | exact Below.refl _ _ | exact Hid.out (by assumption) | refine below_alloc ?_ _ | refine Below.setCell ?_ (by simp <;> omega) _ | refine Below.alloc ?_ (by simp <;> omega) _ | refine Below.drew ?_ | refine below_drewN ?_ _)) (hb.mono (by simp <;> omega)))
  have B_w6 := Lib.hid (B_w5.out.trans (N_w6.out.mono B_w5.out.size))
  have S_w6 := Lib.hid (show w5.heap.size ≤ w6.heap.size from N_w6.out.size)
  clear X0a X0b X0c X0aq X0bq X0cq X1a X1b X1c X1aq X1bq X1cq Z0a Z0b Z0c Z0aq Z0bq Z0cq
  have X0_w6 := Lib.hid (X0_w5.out.below N_w6.out)
  clear X0_w5
  have X1_w6 := Lib.hid (X1_w5.out.below N_w6.out)
  clear X1_w5
  have Y0_0_w6 := Lib.hid (Y0_0_w5.out.below N_w6.out)
  clear Y0_0_w5
  have Y0_1_w6 := Lib.hid (Y0_1_w5.out.below N_w6.out)
  clear Y0_1_w5
  have Y0_2_w6 := Lib.hid (Y0_2_w5.out.below N_w6.out)
  clear Y0_2_w5
  have Z0_w6 := Lib.hid (Z0_w5.out.below N_w6.out)
  clear Z0_w5
  have Y1_0_w6 := Lib.hid (Y1_0_w5.out.below N_w6.out)
  clear Y1_0_w5
  have Y1_1_w6 := Lib.hid (Y1_1_w5.out.below N_w6.out)
  clear Y1_1_w5
  have Y1_2_w6 := Lib.hid (Y1_2_w5.out.below N_w6.out)
  clear Y1_2_w5
  have Z1_w6 := Lib.hid (Box3.below (Box3.new w5 48 (.slice (some ⟨g0_w5, 0, none⟩) n1 n1) (.slice (some ⟨g1_w5, 0, none⟩) m1 m1) (.slice (some ⟨g2_w5, 0, none⟩) o1 o1)) hb)
  obtain ⟨X0a, X0b, X0c⟩ := X0_w6.out
  obtain ⟨X1a, X1b, X1c⟩ := X1_w6.out
  obtain ⟨Z0a, Z0b, Z0c⟩ := Z0_w6.out
  obtain ⟨Z1a, Z1b, Z1c⟩ := Z1_w6.out
  clear hb
  go_upto_region 14 with fail
  go_cut [39] from 35 to 39 (fun s wx => s = .bool false ∧ Below w6.heap.size w6 wx)
  case first =>
    go_region_with (first
      | (go_at_call 31
         refine (HT0.out _ (PA0_0.out.below (by repeat (first | exact Below.refl _ _ | exact Hid.out (by assumption) | refine below_alloc ?_ _ | refine Below.setCell ?_ (by simp <;> omega) _ | refine Below.alloc ?_ (by simp <;> omega) _ | refine Below.drew ?_ | refine below_drewN ?_ _))) (PA0_1.out.below (by repeat (first | exact Below.refl _ _ | exact Hid.out (by assumption) | refine below_alloc ?_ _ | refine Below.setCell ?_ (by simp <;> omega) _ | refine Below.alloc ?_ (by simp <;> omega) _ | refine Below.drew ?_ | refine below_drewN ?_ _))) (PA0_2.out.below (by repeat (first | exact Below.refl _ _ | exact Hid.out (by assumption) | refine below_alloc ?_ _ | refine Below.setCell ?_ (by simp <;> omega) _ | refine Below.alloc ?_ (by simp <;> omega) _ | refine Below.drew ?_ | refine below_drewN ?_ _)))).mono ?_
         rintro e u1 ⟨g0_u1, g1_u1, g2_u1, G_u1, rfl, hg0, hg1, hg2, hg3, ho0, ho1, ho2, hb⟩
         have N_u1 := Lib.hid (show Below w6.heap.size w6 u1 from Below.trans (by repeat (first | exact Below.refl _ _ | exact Hid.out (by assumption) | refine below_alloc ?_ _ | refine Below.setCell ?_ (by simp <;> omega) _ | refine Below.alloc ?_ (by simp <;> omega) _ | refine Below.drew ?_ | refine below_drewN ?_ _)) (hb.mono (by simp)))
         have K_0 := Lib.hid ho0.cells
         have K_1 := Lib.hid ho1.cells
         have K_2 := Lib.hid ho2.cells
         obtain ⟨zZ0a, zZ0b, zZ0c⟩ := Z0_w6.out.below N_u1.out
         clear hb ho0 ho1 ho2)
      | (go_at_call 33
         refine (HE0.out _ _ _ _ _ _ _ _ _ _ _ _ _ _ _ _ _ (Y0_0_w6.out.cells.below (by repeat (first | exact Below.refl _ _ | exact Hid.out (by assumption) | refine below_alloc ?_ _ | refine Below.setCell ?_ (by simp <;> omega) _ | refine Below.alloc ?_ (by simp <;> omega) _ | refine Below.drew ?_ | refine below_drewN ?_ _))) (Y0_1_w6.out.cells.below (by repeat (first | exact Below.refl _ _ | exact Hid.out (by assumption) | refine below_alloc ?_ _ | refine Below.setCell ?_ (by simp <;> omega) _ | refine Below.alloc ?_ (by simp <;> omega) _ | refine Below.drew ?_ | refine below_drewN ?_ _))) (Y0_2_w6.out.cells.below (by repeat (first | exact Below.refl _ _ | exact Hid.out (by assumption) | refine below_alloc ?_ _ | refine Below.setCell ?_ (by simp <;> omega) _ | refine Below.alloc ?_ (by simp <;> omega) _ | refine Below.drew ?_ | refine below_drewN ?_ _))) (K_0.out.below (by repeat (first | exact Below.refl _ _ | exact Hid.out (by assumption) | refine below_alloc ?_ _ | refine Below.setCell ?_ (by simp <;> omega) _ | refine Below.alloc ?_ (by simp <;> omega) _ | refine Below.drew ?_ | refine below_drewN ?_ _))) (K_1.out.below (by repeat (first | exact Below.refl _ _ | exact Hid.out (by assumption) | refine below_alloc ?_ _ | refine Below.setCell ?_ (by simp <;> omega) _ | refine Below.alloc ?_ (by simp <;> omega) _ | refine Below.drew ?_ | refine below_drewN ?_ _))) (K_2.out.below (by repeat (first | exact Below.refl _ _ | exact Hid.out (by assumption) | refine below_alloc ?_ _ | refine Below.setCell ?_ (by simp <;> omega) _ | refine Below.alloc ?_ (by simp <;> omega) _ | refine Below.drew ?_ | refine below_drewN ?_ _)))).mono ?_
         rintro e u2 ⟨rfl, hb⟩
         have N_u2 := Lib.hid (show Below w6.heap.size w6 u2 from Below.trans (show Below w6.heap.size w6 _ from (by repeat (first | exact Below.refl _ _ | exact Hid.out (by assumption) | refine below_alloc ?_ _ | refine Below.setCell ?_ (by simp <;> omega) _ | refine Below.alloc ?_ (by simp <;> omega) _ | refine Below.drew ?_ | refine below_drewN ?_ _))) (hb.mono (by first | exact N_u1.out.size | simp [N_u1.out.size])))
         clear hb))
    all_goals (go_wp2_with fail; go_meet; exact ⟨rfl, N_u2.out⟩)
  case rest =>
  obtain ⟨rfl, hb⟩ := hcut
  obtain ⟨w7, rfl⟩ : ∃ u, u = wc := ⟨_, rfl⟩
  have N_w7 := Lib.hid hb
  clear hb
  have B_w7 := Lib.hid (B_w6.out.trans (N_w7.out.mono B_w6.out.size))
  have S_w7 := Lib.hid (show w6.heap.size ≤ w7.heap.size from N_w7.out.size)
  clear X0a X0b X0c X1a X1b X1c Z0a Z0b Z0c Z1a Z1b Z1c
  have X0_w7 := Lib.hid (X0_w6.out.below N_w7.out)
  clear X0_w6
  have X1_w7 := Lib.hid (X1_w6.out.below N_w7.out)
  clear X1_w6
  have Y0_0_w7 := Lib.hid (Y0_0_w6.out.below N_w7.out)
  clear Y0_0_w6
  have Y0_1_w7 := Lib.hid (Y0_1_w6.out.below N_w7.out)
  clear Y0_1_w6
  have Y0_2_w7 := Lib.hid (Y0_2_w6.out.below N_w7.out)
  clear Y0_2_w6
  have Z0_w7 := Lib.hid (Z0_w6.out.below N_w7.out)
  clear Z0_w6
  have Y1_0_w7 := Lib.hid (Y1_0_w6.out.below N_w7.out)
  clear Y1_0_w6
  have Y1_1_w7 := Lib.hid (Y1_1_w6.out.below N_w7.out)
  clear Y1_1_w6
  have Y1_2_w7 := Lib.hid (Y1_2_w6.out.below N_w7.out)
  clear Y1_2_w6
  have Z1_w7 := Lib.hid (Z1_w6.out.below N_w7.out)
  clear Z1_w6
  obtain ⟨X0a, X0b, X0c⟩ := X0_w7.out
  obtain ⟨X1a, X1b, X1c⟩ := X1_w7.out
  obtain ⟨Z0a, Z0b, Z0c⟩ := Z0_w7.out
  obtain ⟨Z1a, Z1b, Z1c⟩ := Z1_w7.out
  go_upto_region 16 with fail
  go_cut [44] from 40 to 44 (fun s wx => s = .bool false ∧ Below w7.heap.size w7 wx)
  case first =>
    go_region_with (first
      | (go_at_call 31
         refine (HT1.out _ (PA1_0.out.below (by repeat (first | exact Below.refl _ _ | exact Hid.out (by assumption) | refine below_alloc ?_ _ | refine Below.setCell ?_ (by simp <;> omega) _ | refine Below.alloc ?_ (by simp <;> omega) _ | refine Below.drew ?_ | refine below_drewN ?_ _))) (PA1_1.out.below (by repeat (first | exact Below.refl _ _ | exact Hid.out (by assumption) | refine below_alloc ?_ _ | refine Below.setCell ?_ (by simp <;> omega) _ | refine Below.alloc ?_ (by simp <;> omega) _ | refine Below.drew ?_ | refine below_drewN ?_ _))) (PA1_2.out.below (by repeat (first | exact Below.refl _ _ | exact Hid.out (by assumption) | refine below_alloc ?_ _ | refine Below.setCell ?_ (by simp <;> omega) _ | refine Below.alloc ?_ (by simp <;> omega) _ | refine Below.drew ?_ | refine below_drewN ?_ _)))).mono ?_
         rintro e u1 ⟨g0_u1, g1_u1, g2_u1, G_u1, rfl, hg0, hg1, hg2, hg3, ho0, ho1, ho2, hb⟩
         have N_u1 := Lib.hid (show Below w7.heap.size w7 u1 from Below.trans (by repeat (first | exact Below.refl _ _ | exact Hid.out (by assumption) | refine below_alloc ?_ _ | refine Below.setCell ?_ (by simp <;> omega) _ | refine Below.alloc ?_ (by simp <;> omega) _ | refine Below.drew ?_ | refine below_drewN ?_ _)) (hb.mono (by simp)))
         have K_0 := Lib.hid ho0.cells
         have K_1 := Lib.hid ho1.cells
         have K_2 := Lib.hid ho2.cells
         obtain ⟨zZ1a, zZ1b, zZ1c⟩ := Z1_w7.out.below N_u1.out
         clear hb ho0 ho1 ho2)
      | (go_at_call 33
         refine (HE1.out _ _ _ _ _ _ _ _ _ _ _ _ _ _ _ _ _ (Y1_0_w7.out.cells.below (by repeat (first | exact Below.refl _ _ | exact Hid.out (by assumption) | refine below_alloc ?_ _ | refine Below.setCell ?_ (by simp <;> omega) _ | refine Below.alloc ?_ (by simp <;> omega) _ | refine Below.drew ?_ | refine below_drewN ?_ _))) (Y1_1_w7.out.cells.below (by repeat (first | exact Below.refl _ _ | exact Hid.out (by assumption) | refine below_alloc ?_ _ | refine Below.setCell ?_ (by simp <;> omega) _ | refine Below.alloc ?_ (by simp <;> omega) _ | refine Below.drew ?_ | refine below_drewN ?_ _))) (Y1_2_w7.out.cells.below (by repeat (first | exact Below.refl _ _ | exact Hid.out (by assumption) | refine below_alloc ?_ _ | refine Below.setCell ?_ (by simp <;> omega) _ | refine Below.alloc ?_ (by simp <;> omega) _ | refine Below.drew ?_ | refine below_drewN ?_ _))) (K_0.out.below (by repeat (first | exact Below.refl _ _ | exact Hid.out (by assumption) | refine below_alloc ?_ _ | refine Below.setCell ?_ (by simp <;> omega) _ | refine Below.alloc ?_ (by simp <;> omega) _ | refine Below.drew ?_ | refine below_drewN ?_ _))) (K_1.out.below (by repeat (first | exact Below.refl _ _ | exact Hid.out (by assumption) | refine below_alloc ?_ _ | refine Below.setCell ?_ (by simp <;> omega) _ | refine Below.alloc ?_ (by simp <;> omega) _ | refine Below.drew ?_ | refine below_drewN ?_ _))) (K_2.out.below (by repeat (first | exact Below.refl _ _ | exact Hid.out (by assumption) | refine below_alloc ?_ _ | refine Below.setCell ?_ (by simp <;> omega) _ | refine Below.alloc ?_ (by simp <;> omega) _ | refine Below.drew ?_ | refine below_drewN ?_ _)))).mono ?_
         rintro e u2 ⟨rfl, hb⟩
         have N_u2 := Lib.hid (show Below w7.heap.size w7 u2 from Below.trans (show Below w7.heap.size w7 _ from (by repeat (first | exact Below.refl _ _ | exact Hid.out (by assumption) | refine below_alloc ?_ _ | refine Below.setCell ?_ (by simp <;> omega) _ | refine Below.alloc ?_ (by simp <;> omega) _ | refine Below.drew ?_ | refine below_drewN ?_ _))) (hb.mono (by first | exact N_u1.out.size | simp [N_u1.out.size])))
         clear hb))
    all_goals (go_wp2_with fail; go_meet; exact ⟨rfl, N_u2.out⟩)
  case rest =>
  obtain ⟨rfl, hb⟩ := hcut
  obtain ⟨w8, rfl⟩ : ∃ u, u = wc := ⟨_, rfl⟩
  have N_w8 := Lib.hid hb
  clear hb
  have B_w8 := Lib.hid (B_w7.out.trans (N_w8.out.mono B_w7.out.size))
  have S_w8 := Lib.hid (show w7.heap.size ≤ w8.heap.size from N_w8.out.size)
  clear X0a X0b X0c X1a X1b X1c Z0a Z0b Z0c Z1a Z1b Z1c
  have X0_w8 := Lib.hid (X0_w7.out.below N_w8.out)
  clear X0_w7
  have X1_w8 := Lib.hid (X1_w7.out.below N_w8.out)
  clear X1_w7
  have Y0_0_w8 := Lib.hid (Y0_0_w7.out.below N_w8.out)
  clear Y0_0_w7
  have Y0_1_w8 := Lib.hid (Y0_1_w7.out.below N_w8.out)
  clear Y0_1_w7
  have Y0_2_w8 := Lib.hid (Y0_2_w7.out.below N_w8.out)
  clear Y0_2_w7
  have Z0_w8 := Lib.hid (Z0_w7.out.below N_w8.out)
  clear Z0_w7
  have Y1_0_w8 := Lib.hid (Y1_0_w7.out.below N_w8.out)
  clear Y1_0_w7
  have Y1_1_w8 := Lib.hid (Y1_1_w7.out.below N_w8.out)
  clear Y1_1_w7
  have Y1_2_w8 := Lib.hid (Y1_2_w7.out.below N_w8.out)
  clear Y1_2_w7
  have Z1_w8 := Lib.hid (Z1_w7.out.below N_w8.out)
  clear Z1_w7
  obtain ⟨X0a, X0b, X0c⟩ := X0_w8.out
  obtain ⟨X1a, X1b, X1c⟩ := X1_w8.out
  obtain ⟨Z0a, Z0b, Z0c⟩ := Z0_w8.out
  obtain ⟨Z1a, Z1b, Z1c⟩ := Z1_w8.out
  go_wp2_with fail
  go_ret
  exact ⟨rfl, B_w8.out⟩
end Go.Proofs.Ytfpombhhnojjhaa
