/- The law on ValidGame walked. -/
import Derived.Test.YtfpombhhnojjhaaGameS
import Derived.Test.YtfpombhhnojjhaaOpenGame
import Derived.Deep.CutRange
import Derived.Deep.RegionHeld3
set_option linter.unusedVariables false
namespace Go.Proofs.Ytfpombhhnojjhaa
open Go.RowKit

set_option maxHeartbeats 8000000 in
theorem fnExactValidGame.walk (A0 : Option Addr) (n0 c0 : Nat) (B0 : Option Addr) (m0 d0 : Nat) (C0 : Option Addr) (o0 q0 : Nat) (P0 : Nat → Option Addr) (L0 K0 : Nat → Nat) (f0 g0 : Nat → Int) (F0 : Nat → Nat → Int) (w : World) (H0 : GameIn w A0 n0 B0 m0 C0 o0 P0 L0 K0 f0 g0 F0) :
    Calls Try.prog 5 #[.agg #[.slice A0 n0 c0, .slice B0 m0 d0, .slice C0 o0 q0]] w fun e w' => e = .returned (.bool true) ∧ Below w.heap.size w w' := by
  have PA0_0 := Lib.hid H0.ca
  have PA0_1 := Lib.hid H0.cb
  have PA0_2 := Lib.hid H0.cc
  have na0_0 := H0.na
  have na0_1 := H0.nb
  have na0_2 := H0.nc
  have nl0 := H0.nl
  clear H0
  by_cases hb0 : (n0 : Int) + m0 + o0 + sumN L0 o0 ≤ 1048576
  rotate_left
  · have HN0 := Lib.hid (fun W h => szGame_no A0 B0 C0 n0 c0 m0 d0 o0 q0 P0 L0 K0 f0 g0 F0 1048576 W (by omega) (by omega) na0_0 na0_1 na0_2 nl0 hb0 h)
    go_enter Try.func5, Try.ntmps5
    go_wp2_with fail
    refine (HN0.out _ (PA0_2.out.below (by repeat (first | exact Below.refl _ _ | exact Hid.out (by assumption) | refine below_alloc ?_ _ | refine Below.setCell ?_ (by simp <;> omega) _ | refine Below.alloc ?_ (by simp <;> omega) _ | refine Below.drew ?_ | refine below_drewN ?_ _)))).mono ?_
    rintro e w1 ⟨rfl, hb⟩
    have N_e := Lib.hid (show Below w.heap.size w _ from Below.trans (by repeat (first | exact Below.refl _ _ | exact Hid.out (by assumption) | refine below_alloc ?_ _ | refine Below.setCell ?_ (by simp <;> omega) _ | refine Below.alloc ?_ (by simp <;> omega) _ | refine Below.drew ?_ | refine below_drewN ?_ _)) (hb.mono (by simp <;> omega)))
    have B_e := Lib.hid (N_e.out)
    clear hb
    go_wp2_with fail
    go_ret
    exact ⟨rfl, B_e.out⟩
  have HZ0 := Lib.hid (fun W h => szGame_yes A0 B0 C0 n0 c0 m0 d0 o0 q0 P0 L0 K0 f0 g0 F0 1048576 W (by omega) hb0 h)
  have HL0 := Lib.hid (fun i (hi : i < o0) => show L0 i ≤ 1048576 from Nat.le_trans (row_le_sum L0 hi) (by omega))
  have HT0 := Lib.hid (fun W y1 y2 y3 => toGame_any A0 B0 C0 n0 c0 m0 d0 o0 q0 P0 L0 K0 f0 g0 F0 W (by omega) (by omega) (by omega) HL0.out y1 y2 y3)
  have HE0 := Lib.hid (fun v0 v1 v2 v3 v4 v5 c0 c1 c2 e0 e1 e2 p1 p2 k1 k2 W y1 y2 y3 y4 y5 y6 => eqGame_any v0 v1 v2 v3 v4 v5 n0 c0 m0 c1 o0 c2 e0 e1 e2 p1 p2 L0 k1 k2 f0 g0 F0 W (by omega) (by omega) (by omega) (fun i hi => Nat.le_trans (HL0.out i hi) (by omega)) y1 y2 y3 y4 y5 y6)
  have HS := Lib.hid (fun vA0 vB0 vC0 vc0 vd0 vq0 vP0 vK0 W h0_0 h0_1 h0_2 => specValidGame_any vA0 vB0 vC0 n0 vc0 m0 vd0 o0 vq0 vP0 L0 vK0 f0 g0 F0 W (by omega) (by omega) (by omega) HL0.out h0_0 h0_1 h0_2)
  have HI := Lib.hid (fun vA0 vB0 vC0 vc0 vd0 vq0 vP0 vK0 W h0_0 h0_1 h0_2 => implValidGame_any vA0 vB0 vC0 n0 vc0 m0 vd0 o0 vq0 vP0 L0 vK0 f0 g0 F0 W (by omega) (by omega) (by omega) HL0.out h0_0 h0_1 h0_2)
  generalize gameB n0 m0 o0 L0 f0 g0 F0 = r at *
  go_enter Try.func5, Try.ntmps5
  go_wp2_with fail
  refine (HZ0.out _ (PA0_2.out.below (by repeat (first | exact Below.refl _ _ | exact Hid.out (by assumption) | refine below_alloc ?_ _ | refine Below.setCell ?_ (by simp <;> omega) _ | refine Below.alloc ?_ (by simp <;> omega) _ | refine Below.drew ?_ | refine below_drewN ?_ _)))).mono ?_
  rintro e w1 ⟨rfl, hb⟩
  have N_w1 := Lib.hid (show Below w.heap.size w w1 from Below.trans (by repeat (first | exact Below.refl _ _ | exact Hid.out (by assumption) | refine below_alloc ?_ _ | refine Below.setCell ?_ (by simp <;> omega) _ | refine Below.alloc ?_ (by simp <;> omega) _ | refine Below.drew ?_ | refine below_drewN ?_ _)) (hb.mono (by simp <;> omega)))
  have B_w1 := Lib.hid (show Below w.heap.size w w1 from N_w1.out)
  have S_w1 := Lib.hid (show w.heap.size ≤ w1.heap.size from N_w1.out.size)
  have X0_w1 := Lib.hid (Box3.below (Box3.new w 45 (.slice A0 n0 c0) (.slice B0 m0 d0) (.slice C0 o0 q0)) hb)
  obtain ⟨X0a, X0b, X0c⟩ := X0_w1.out
  clear hb
  go_wp2_with fail
  refine (HT0.out _ (PA0_0.out.below (by repeat (first | exact Below.refl _ _ | exact Hid.out (by assumption) | refine below_alloc ?_ _ | refine Below.setCell ?_ (by simp <;> omega) _ | refine Below.alloc ?_ (by simp <;> omega) _ | refine Below.drew ?_ | refine below_drewN ?_ _))) (PA0_1.out.below (by repeat (first | exact Below.refl _ _ | exact Hid.out (by assumption) | refine below_alloc ?_ _ | refine Below.setCell ?_ (by simp <;> omega) _ | refine Below.alloc ?_ (by simp <;> omega) _ | refine Below.drew ?_ | refine below_drewN ?_ _))) (PA0_2.out.below (by repeat (first | exact Below.refl _ _ | exact Hid.out (by assumption) | refine below_alloc ?_ _ | refine Below.setCell ?_ (by simp <;> omega) _ | refine Below.alloc ?_ (by simp <;> omega) _ | refine Below.drew ?_ | refine below_drewN ?_ _)))).mono ?_
  rintro e w2 ⟨g0_w2, g1_w2, g2_w2, G_w2, rfl, hg0, hg1, hg2, hg3, ho0, ho1, ho2, hb⟩
  have N_w2 := Lib.hid (show Below w1.heap.size w1 w2 from Below.trans (by repeat (first | exact Below.refl _ _ | exact Hid.out (by assumption) | refine below_alloc ?_ _ | refine Below.setCell ?_ (by simp <;> omega) _ | refine Below.alloc ?_ (by simp <;> omega) _ | refine Below.drew ?_ | refine below_drewN ?_ _)) (hb.mono (by simp <;> omega)))
  have B_w2 := Lib.hid (B_w1.out.trans (N_w2.out.mono B_w1.out.size))
  have S_w2 := Lib.hid (show w1.heap.size ≤ w2.heap.size from N_w2.out.size)
  clear X0a X0b X0c
  have X0_w2 := Lib.hid (X0_w1.out.below N_w2.out)
  clear X0_w1
  obtain ⟨X0a, X0b, X0c⟩ := X0_w2.out
  have C0_0_w2 := Lib.hid ho0
  have C0_1_w2 := Lib.hid ho1
  have C0_2_w2 := Lib.hid ho2
  have G_w2 := Lib.hid (show w1.heap.size + 0 ≤ g0_w2 ∧ g0_w2 < g1_w2 ∧ g1_w2 < g2_w2 ∧ g2_w2 < w2.heap.size from ⟨by first | omega | (simp at hg0; omega), hg1, hg2, hg3⟩)
  clear hb hg0 hg1 hg2 hg3 ho0 ho1 ho2
  go_wp2_with fail
  refine (HS.out _ _ _ _ _ _ _ _ _ (C0_0_w2.out.cells.below (by repeat (first | exact Below.refl _ _ | exact Hid.out (by assumption) | refine below_alloc ?_ _ | refine Below.setCell ?_ (by simp <;> omega) _ | refine Below.alloc ?_ (by simp <;> omega) _ | refine Below.drew ?_ | refine below_drewN ?_ _))) (C0_1_w2.out.cells.below (by repeat (first | exact Below.refl _ _ | exact Hid.out (by assumption) | refine below_alloc ?_ _ | refine Below.setCell ?_ (by simp <;> omega) _ | refine Below.alloc ?_ (by simp <;> omega) _ | refine Below.drew ?_ | refine below_drewN ?_ _))) (C0_2_w2.out.cells.below (by repeat (first | exact Below.refl _ _ | exact Hid.out (by assumption) | refine below_alloc ?_ _ | refine Below.setCell ?_ (by simp <;> omega) _ | refine Below.alloc ?_ (by simp <;> omega) _ | refine Below.drew ?_ | refine below_drewN ?_ _)))).mono ?_
  rintro e w3 ⟨rfl, hb⟩
  have N_w3 := Lib.hid (show Below w2.heap.size w2 w3 from Below.trans (by repeat (first | exact Below.refl _ _ | exact Hid.out (by assumption) | refine below_alloc ?_ _ | refine Below.setCell ?_ (by simp <;> omega) _ | refine Below.alloc ?_ (by simp <;> omega) _ | refine Below.drew ?_ | refine below_drewN ?_ _)) (hb.mono (by simp <;> omega)))
  have B_w3 := Lib.hid (B_w2.out.trans (N_w3.out.mono B_w2.out.size))
  have S_w3 := Lib.hid (show w2.heap.size ≤ w3.heap.size from N_w3.out.size)
  clear X0a X0b X0c
  have X0_w3 := Lib.hid (X0_w2.out.below N_w3.out)
  clear X0_w2
  have C0_0_w3 := Lib.hid (C0_0_w2.out.below N_w3.out)
  clear C0_0_w2
  have C0_1_w3 := Lib.hid (C0_1_w2.out.below N_w3.out)
  clear C0_1_w2
  have C0_2_w3 := Lib.hid (C0_2_w2.out.below N_w3.out)
  clear C0_2_w2
  obtain ⟨X0a, X0b, X0c⟩ := X0_w3.out
  clear hb
  clear C0_0_w3
  clear C0_1_w3
  clear C0_2_w3
  go_wp2_with fail
  refine (HT0.out _ (PA0_0.out.below (by repeat (first | exact Below.refl _ _ | exact Hid.out (by assumption) | refine below_alloc ?_ _ | refine Below.setCell ?_ (by simp <;> omega) _ | refine Below.alloc ?_ (by simp <;> omega) _ | refine Below.drew ?_ | refine below_drewN ?_ _))) (PA0_1.out.below (by repeat (first | exact Below.refl _ _ | exact Hid.out (by assumption) | refine below_alloc ?_ _ | refine Below.setCell ?_ (by simp <;> omega) _ | refine Below.alloc ?_ (by simp <;> omega) _ | refine Below.drew ?_ | refine below_drewN ?_ _))) (PA0_2.out.below (by repeat (first | exact Below.refl _ _ | exact Hid.out (by assumption) | refine below_alloc ?_ _ | refine Below.setCell ?_ (by simp <;> omega) _ | refine Below.alloc ?_ (by simp <;> omega) _ | refine Below.drew ?_ | refine below_drewN ?_ _)))).mono ?_
  rintro e w4 ⟨g0_w4, g1_w4, g2_w4, G_w4, rfl, hg0, hg1, hg2, hg3, ho0, ho1, ho2, hb⟩
  have N_w4 := Lib.hid (show Below w3.heap.size w3 w4 from Below.trans (by repeat (first | exact Below.refl _ _ | exact Hid.out (by assumption) | refine below_alloc ?_ _ | refine Below.setCell ?_ (by simp <;> omega) _ | refine Below.alloc ?_ (by simp <;> omega) _ | refine Below.drew ?_ | refine below_drewN ?_ _)) (hb.mono (by simp <;> omega)))
  have B_w4 := Lib.hid (B_w3.out.trans (N_w4.out.mono B_w3.out.size))
  have S_w4 := Lib.hid (show w3.heap.size ≤ w4.heap.size from N_w4.out.size)
  clear X0a X0b X0c
  have X0_w4 := Lib.hid (X0_w3.out.below N_w4.out)
  clear X0_w3
  obtain ⟨X0a, X0b, X0c⟩ := X0_w4.out
  have Y0_0_w4 := Lib.hid ho0
  have Y0_1_w4 := Lib.hid ho1
  have Y0_2_w4 := Lib.hid ho2
  have G_w4 := Lib.hid (show w3.heap.size + 0 ≤ g0_w4 ∧ g0_w4 < g1_w4 ∧ g1_w4 < g2_w4 ∧ g2_w4 < w4.heap.size from ⟨by first | omega | (simp at hg0; omega), hg1, hg2, hg3⟩)
  clear hb hg0 hg1 hg2 hg3 ho0 ho1 ho2
  have X0aq := X0_w4.out.a0
  have X0bq := X0_w4.out.a1
  have X0cq := X0_w4.out.a2
  go_wp2_with fail
  refine (HI.out _ _ _ _ _ _ _ _ _ (Y0_0_w4.out.cells.below (by repeat (first | exact Below.refl _ _ | exact Hid.out (by assumption) | refine below_alloc ?_ _ | refine Below.setCell ?_ (by simp <;> omega) _ | refine Below.alloc ?_ (by simp <;> omega) _ | refine Below.drew ?_ | refine below_drewN ?_ _))) (Y0_1_w4.out.cells.below (by repeat (first | exact Below.refl _ _ | exact Hid.out (by assumption) | refine below_alloc ?_ _ | refine Below.setCell ?_ (by simp <;> omega) _ | refine Below.alloc ?_ (by simp <;> omega) _ | refine Below.drew ?_ | refine below_drewN ?_ _))) (Y0_2_w4.out.cells.below (by repeat (first | exact Below.refl _ _ | exact Hid.out (by assumption) | refine below_alloc ?_ _ | refine Below.setCell ?_ (by simp <;> omega) _ | refine Below.alloc ?_ (by simp <;> omega) _ | refine Below.drew ?_ | refine below_drewN ?_ _)))).mono ?_
  rintro e w5 ⟨rfl, hb⟩
  have N_w5 := Lib.hid (show Below w4.heap.size w4 w5 from Below.trans (by repeat (first | exact Below.refl _ _ | exact Hid.out (by assumption) | refine below_alloc ?_ _ | refine Below.setCell ?_ (by simp <;> omega) _ | refine Below.alloc ?_ (by simp <;> omega) _ | refine Below.drew ?_ | refine below_drewN ?_ _)) (hb.mono (by simp <;> omega)))
  have B_w5 := Lib.hid (B_w4.out.trans (N_w5.out.mono B_w4.out.size))
  have S_w5 := Lib.hid (show w4.heap.size ≤ w5.heap.size from N_w5.out.size)
  clear X0a X0b X0c X0aq X0bq X0cq
  have X0_w5 := Lib.hid (X0_w4.out.below N_w5.out)
  clear X0_w4
  have Y0_0_w5 := Lib.hid (Y0_0_w4.out.below N_w5.out)
  clear Y0_0_w4
  have Y0_1_w5 := Lib.hid (Y0_1_w4.out.below N_w5.out)
  clear Y0_1_w4
  have Y0_2_w5 := Lib.hid (Y0_2_w4.out.below N_w5.out)
  clear Y0_2_w4
  have Z0_w5 := Lib.hid (Box3.below (Box3.new w4 48 (.slice (some ⟨g0_w4, 0, none⟩) n0 n0) (.slice (some ⟨g1_w4, 0, none⟩) m0 m0) (.slice (some ⟨g2_w4, 0, none⟩) o0 o0)) hb)
  obtain ⟨X0a, X0b, X0c⟩ := X0_w5.out
  obtain ⟨Z0a, Z0b, Z0c⟩ := Z0_w5.out
  clear hb
  go_upto_region 10 with fail
  go_cut [26] from 22 to 26 (fun s wx => s = .bool false ∧ Below w5.heap.size w5 wx)
  case first =>
    go_region_with (first
      | (go_at_call 31
         refine (HT0.out _ (PA0_0.out.below (by repeat (first | exact Below.refl _ _ | exact Hid.out (by assumption) | refine below_alloc ?_ _ | refine Below.setCell ?_ (by simp <;> omega) _ | refine Below.alloc ?_ (by simp <;> omega) _ | refine Below.drew ?_ | refine below_drewN ?_ _))) (PA0_1.out.below (by repeat (first | exact Below.refl _ _ | exact Hid.out (by assumption) | refine below_alloc ?_ _ | refine Below.setCell ?_ (by simp <;> omega) _ | refine Below.alloc ?_ (by simp <;> omega) _ | refine Below.drew ?_ | refine below_drewN ?_ _))) (PA0_2.out.below (by repeat (first | exact Below.refl _ _ | exact Hid.out (by assumption) | refine below_alloc ?_ _ | refine Below.setCell ?_ (by simp <;> omega) _ | refine Below.alloc ?_ (by simp <;> omega) _ | refine Below.drew ?_ | refine below_drewN ?_ _)))).mono ?_
         rintro e u1 ⟨g0_u1, g1_u1, g2_u1, G_u1, rfl, hg0, hg1, hg2, hg3, ho0, ho1, ho2, hb⟩
         have N_u1 := Lib.hid (show Below w5.heap.size w5 u1 from Below.trans (by repeat (first | exact Below.refl _ _ | exact Hid.out (by assumption) | refine below_alloc ?_ _ | refine Below.setCell ?_ (by simp <;> omega) _ | refine Below.alloc ?_ (by simp <;> omega) _ | refine Below.drew ?_ | refine below_drewN ?_ _)) (hb.mono (by simp)))
         have K_0 := Lib.hid ho0.cells
         have K_1 := Lib.hid ho1.cells
         have K_2 := Lib.hid ho2.cells
         obtain ⟨zZ0a, zZ0b, zZ0c⟩ := Z0_w5.out.below N_u1.out
         clear hb ho0 ho1 ho2)
      | (go_at_call 33
         refine (HE0.out _ _ _ _ _ _ _ _ _ _ _ _ _ _ _ _ _ (Y0_0_w5.out.cells.below (by repeat (first | exact Below.refl _ _ | exact Hid.out (by assumption) | refine below_alloc ?_ _ | refine Below.setCell ?_ (by simp <;> omega) _ | refine Below.alloc ?_ (by simp <;> omega) _ | refine Below.drew ?_ | refine below_drewN ?_ _))) (Y0_1_w5.out.cells.below (by repeat (first | exact Below.refl _ _ | exact Hid.out (by assumption) | refine below_alloc ?_ _ | refine Below.setCell ?_ (by simp <;> omega) _ | refine Below.alloc ?_ (by simp <;> omega) _ | refine Below.drew ?_ | refine below_drewN ?_ _))) (Y0_2_w5.out.cells.below (by repeat (first | exact Below.refl _ _ | exact Hid.out (by assumption) | refine below_alloc ?_ _ | refine Below.setCell ?_ (by simp <;> omega) _ | refine Below.alloc ?_ (by simp <;> omega) _ | refine Below.drew ?_ | refine below_drewN ?_ _))) (K_0.out.below (by repeat (first | exact Below.refl _ _ | exact Hid.out (by assumption) | refine below_alloc ?_ _ | refine Below.setCell ?_ (by simp <;> omega) _ | refine Below.alloc ?_ (by simp <;> omega) _ | refine Below.drew ?_ | refine below_drewN ?_ _))) (K_1.out.below (by repeat (first | exact Below.refl _ _ | exact Hid.out (by assumption) | refine below_alloc ?_ _ | refine Below.setCell ?_ (by simp <;> omega) _ | refine Below.alloc ?_ (by simp <;> omega) _ | refine Below.drew ?_ | refine below_drewN ?_ _))) (K_2.out.below (by repeat (first | exact Below.refl _ _ | exact Hid.out (by assumption) | refine below_alloc ?_ _ | refine Below.setCell ?_ (by simp <;> omega) _ | refine Below.alloc ?_ (by simp <;> omega) _ | refine Below.drew ?_ | refine below_drewN ?_ _)))).mono ?_
         rintro e u2 ⟨rfl, hb⟩
         have N_u2 := Lib.hid (show Below w5.heap.size w5 u2 from Below.trans (show Below w5.heap.size w5 _ from (by repeat (first | exact Below.refl _ _ | exact Hid.out (by assumption) | refine below_alloc ?_ _ | refine Below.setCell ?_ (by simp <;> omega) _ | refine Below.alloc ?_ (by simp <;> omega) _ | refine Below.drew ?_ | refine below_drewN ?_ _))) (hb.mono (by first | exact N_u1.out.size | simp [N_u1.out.size])))
         clear hb))
    all_goals (go_wp2_with fail; go_meet; exact ⟨rfl, N_u2.out⟩)
  case rest =>
  obtain ⟨rfl, hb⟩ := hcut
  obtain ⟨w6, rfl⟩ : ∃ u, u = wc := ⟨_, rfl⟩
  have N_w6 := Lib.hid hb
  clear hb
  have B_w6 := Lib.hid (B_w5.out.trans (N_w6.out.mono B_w5.out.size))
  have S_w6 := Lib.hid (show w5.heap.size ≤ w6.heap.size from N_w6.out.size)
  clear X0a X0b X0c Z0a Z0b Z0c
  have X0_w6 := Lib.hid (X0_w5.out.below N_w6.out)
  clear X0_w5
  have Y0_0_w6 := Lib.hid (Y0_0_w5.out.below N_w6.out)
  clear Y0_0_w5
  have Y0_1_w6 := Lib.hid (Y0_1_w5.out.below N_w6.out)
  clear Y0_1_w5
  have Y0_2_w6 := Lib.hid (Y0_2_w5.out.below N_w6.out)
  clear Y0_2_w5
  have Z0_w6 := Lib.hid (Z0_w5.out.below N_w6.out)
  clear Z0_w5
  obtain ⟨X0a, X0b, X0c⟩ := X0_w6.out
  obtain ⟨Z0a, Z0b, Z0c⟩ := Z0_w6.out
  go_wp2_with fail
  go_ret
  exact ⟨rfl, B_w6.out⟩
end Go.Proofs.Ytfpombhhnojjhaa
