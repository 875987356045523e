/- The law on ResetZone walked. -/
import Derived.Test.YtpelmfanchkpeaaZonR1
import Derived.Test.YtpelmfanchkpeaaOpenZone
import Derived.Deep.CutRange
set_option linter.unusedVariables false
namespace Go.Proofs.Ytpelmfanchkpeaa
open Go.RowKit

set_option maxHeartbeats 16000000 in
theorem fnExactResetZone.walk (s0 : Int) (A0 : Option Addr) (n0 c0 : Nat) (f0 : Nat → Int) (x1 : Int) (w : World) (H0 : ZoneIn w s0 A0 n0 f0) (H1 : (Lit.int .i64 x1).wf = true) :
    Calls Try.prog 13 #[.agg #[.int .i64 s0, .slice A0 n0 c0], .int .i64 x1] w fun e w' => e = .returned (.bool true) ∧ Below w.heap.size w w' := by
  have PA0_0 := Lib.hid H0.ca
  have na0_0 := H0.na
  clear H0
  clear H1
  by_cases hb0 : (n0 : Int) ≤ 1048576
  rotate_left
  · have HN0 := Lib.hid (fun W => szZone_no s0 A0 n0 c0 1048576 W (by omega) (by omega) na0_0 hb0)
    go_enter Try.func13, Try.ntmps13
    go_wp2_with fail
    refine (HN0.out _).mono ?_
    rintro e w1 ⟨rfl, hb⟩
    have N_e := Lib.hid (show Below w.heap.size w _ from Below.trans (by repeat (first | exact Below.refl _ _ | exact Hid.out (by assumption) | refine below_alloc ?_ _ | refine Below.setCell ?_ (by simp <;> omega) _ | refine Below.alloc ?_ (by simp <;> omega) _ | refine Below.drew ?_ | refine below_drewN ?_ _)) (hb.mono (by simp <;> omega)))
    have B_e := Lib.hid (N_e.out)
    clear hb
    go_wp2_with fail
    go_ret
    exact ⟨rfl, B_e.out⟩
  have HZ0 := Lib.hid (fun W => szZone_yes s0 A0 n0 c0 1048576 W (by omega) hb0)
  have HT0 := Lib.hid (fun W y1 => toZone_any s0 A0 n0 c0 f0 W (by omega) y1)
  have HE0 := Lib.hid (fun v0 v1 c0 e0 W y1 y2 => eqZone_any s0 v0 v1 n0 c0 e0 f0 W (by omega) y1 y2)
  have HS := Lib.hid (fun vA0 vc0 W h0_0 => specResetZone_any s0 vA0 n0 vc0 f0 x1 W (by omega) h0_0)
  have HI := Lib.hid (fun vA0 vc0 W h0_0 => implResetZone_any s0 vA0 n0 vc0 f0 x1 W (by omega) h0_0)
  have RB := Lib.hid (ifN_le (resetOk s0 n0 f0 x1) n0)
  generalize ifI (resetOk s0 n0 f0 x1) s0 = Rs0 at *
  generalize ifN (resetOk s0 n0 f0 x1) n0 = Rn0 at *
  generalize resetOk s0 n0 f0 x1 = Rr1 at *
  generalize resetG s0 x1.toNat f0 = Rf0 at *
  have bR0 : Rn0 ≤ 1048576 := Nat.le_trans RB.out (by omega)
  clear RB
  have HR0 := Lib.hid (fun v0 v1 c0 e0 W y1 y2 => eqZone_any Rs0 v0 v1 Rn0 c0 e0 Rf0 W (by omega) y1 y2)
  go_enter Try.func13, Try.ntmps13
  go_wp2_with fail
  refine (HZ0.out _).mono ?_
  rintro e w1 ⟨rfl, hb⟩
  have N_w1 := Lib.hid (show Below w.heap.size w w1 from Below.trans (by repeat (first | exact Below.refl _ _ | exact Hid.out (by assumption) | refine below_alloc ?_ _ | refine Below.setCell ?_ (by simp <;> omega) _ | refine Below.alloc ?_ (by simp <;> omega) _ | refine Below.drew ?_ | refine below_drewN ?_ _)) (hb.mono (by simp <;> omega)))
  have B_w1 := Lib.hid (show Below w.heap.size w w1 from N_w1.out)
  have S_w1 := Lib.hid (show w.heap.size ≤ w1.heap.size from N_w1.out.size)
  have X0_w1 := Lib.hid (Box2.below (Box2.new w 38 (.int .i64 s0) (.slice A0 n0 c0)) hb)
  have LX0_w1 := Lib.hid (X0_w1.out.lt)
  obtain ⟨X0a, X0b⟩ := X0_w1.out
  clear hb
  go_wp2_with fail
  refine (HT0.out _ (PA0_0.out.below (by repeat (first | exact Below.refl _ _ | exact Hid.out (by assumption) | refine below_alloc ?_ _ | refine Below.setCell ?_ (by simp <;> omega) _ | refine Below.alloc ?_ (by simp <;> omega) _ | refine Below.drew ?_ | refine below_drewN ?_ _)))).mono ?_
  rintro e w2 ⟨g0_w2, rfl, hg0, hg1, ho0, hb⟩
  have N_w2 := Lib.hid (show Below w1.heap.size w1 w2 from Below.trans (by repeat (first | exact Below.refl _ _ | exact Hid.out (by assumption) | refine below_alloc ?_ _ | refine Below.setCell ?_ (by simp <;> omega) _ | refine Below.alloc ?_ (by simp <;> omega) _ | refine Below.drew ?_ | refine below_drewN ?_ _)) (hb.mono (by simp <;> omega)))
  have B_w2 := Lib.hid (B_w1.out.trans (N_w2.out.mono B_w1.out.size))
  have S_w2 := Lib.hid (show w1.heap.size ≤ w2.heap.size from N_w2.out.size)
  clear X0a X0b
  have X0_w2 := Lib.hid (X0_w1.out.below N_w2.out)
  clear X0_w1
  obtain ⟨X0a, X0b⟩ := X0_w2.out
  have C0_0_w2 := Lib.hid ho0
  have G_w2 := Lib.hid (show w1.heap.size + 0 ≤ g0_w2 ∧ g0_w2 < w2.heap.size from ⟨by first | omega | (simp at hg0; omega), hg1⟩)
  clear hb hg0 hg1 ho0
  go_wp2_with fail
  refine (HS.out _ _ _ (C0_0_w2.out.cells.below (by repeat (first | exact Below.refl _ _ | exact Hid.out (by assumption) | refine below_alloc ?_ _ | refine Below.setCell ?_ (by simp <;> omega) _ | refine Below.alloc ?_ (by simp <;> omega) _ | refine Below.drew ?_ | refine below_drewN ?_ _)))).mono ?_
  rintro e w3 ⟨A0_w3, c0_w3, q00_w3, rfl, hq, hd, ho00, hb⟩
  have hq : w2.heap.size + 0 ≤ q00_w3 ∧ True := ⟨(by have := hq; first | omega | (simp at this; omega)), trivial⟩
  have N_w3 := Lib.hid (show Below w2.heap.size w2 w3 from Below.trans (by repeat (first | exact Below.refl _ _ | exact Hid.out (by assumption) | refine below_alloc ?_ _ | refine Below.setCell ?_ (by simp <;> omega) _ | refine Below.alloc ?_ (by simp <;> omega) _ | refine Below.drew ?_ | refine below_drewN ?_ _)) (hb.mono (by simp <;> omega)))
  have B_w3 := Lib.hid (B_w2.out.trans (N_w3.out.mono B_w2.out.size))
  have S_w3 := Lib.hid (show w2.heap.size ≤ w3.heap.size from N_w3.out.size)
  clear X0a X0b
  have X0_w3 := Lib.hid (X0_w2.out.below N_w3.out)
  clear X0_w2
  have C0_0_w3 := Lib.hid (C0_0_w2.out.below N_w3.out)
  clear C0_0_w2
  obtain ⟨X0a, X0b⟩ := X0_w3.out
  have SW0_0_w3 := Lib.hid ho00
  have LSW0_0_w3 := Lib.hid (fun q => SW0_0_w3.out.lt q)
  have G_w3 := Lib.hid (hq)
  have D_w3 := Lib.hid (hd)
  clear hq hd ho00
  clear hb
  have X0aq := X0_w3.out.a0
  have X0bq := X0_w3.out.a1
  clear C0_0_w3
  go_wp2_with fail
  refine (HT0.out _ (PA0_0.out.below (by repeat (first | exact Below.refl _ _ | exact Hid.out (by assumption) | refine below_alloc ?_ _ | refine Below.setCell ?_ (by simp <;> omega) _ | refine Below.alloc ?_ (by simp <;> omega) _ | refine Below.drew ?_ | refine below_drewN ?_ _)))).mono ?_
  rintro e w4 ⟨g0_w4, rfl, hg0, hg1, ho0, hb⟩
  have N_w4 := Lib.hid (show Below w3.heap.size w3 w4 from Below.trans (by repeat (first | exact Below.refl _ _ | exact Hid.out (by assumption) | refine below_alloc ?_ _ | refine Below.setCell ?_ (by simp <;> omega) _ | refine Below.alloc ?_ (by simp <;> omega) _ | refine Below.drew ?_ | refine below_drewN ?_ _)) (hb.mono (by simp <;> omega)))
  have B_w4 := Lib.hid (B_w3.out.trans (N_w4.out.mono B_w3.out.size))
  have S_w4 := Lib.hid (show w3.heap.size ≤ w4.heap.size from N_w4.out.size)
  clear X0a X0b X0aq X0bq
  have X0_w4 := Lib.hid (X0_w3.out.below N_w4.out)
  clear X0_w3
  have SW0_0_w4 := Lib.hid (SW0_0_w3.out.below N_w4.out)
  clear SW0_0_w3
  have U0_w4 := Lib.hid (Box2.below (Box2.new w3 41 (.int .i64 Rs0) (.slice A0_w3 Rn0 c0_w3)) hb)
  have LU0_w4 := Lib.hid (U0_w4.out.lt)
  obtain ⟨X0a, X0b⟩ := X0_w4.out
  obtain ⟨U0a, U0b⟩ := U0_w4.out
  have Y0_0_w4 := Lib.hid ho0
  have G_w4 := Lib.hid (show w3.heap.size + 1 ≤ g0_w4 ∧ g0_w4 < w4.heap.size from ⟨by first | omega | (simp at hg0; omega), hg1⟩)
  clear hb hg0 hg1 ho0
  have X0aq := X0_w4.out.a0
  have X0bq := X0_w4.out.a1
  have U0aq := U0_w4.out.a0
  have U0bq := U0_w4.out.a1
  go_wp2_with fail
  refine (HI.out _ _ _ (Y0_0_w4.out.cells.below (by repeat (first | exact Below.refl _ _ | exact Hid.out (by assumption) | refine below_alloc ?_ _ | refine Below.setCell ?_ (by simp <;> omega) _ | refine Below.alloc ?_ (by simp <;> omega) _ | refine Below.drew ?_ | refine below_drewN ?_ _)))).mono ?_
  rintro e w5 ⟨A0_w5, c0_w5, q00_w5, rfl, hq, hd, ho00, hb⟩
  have hq : w4.heap.size + 1 ≤ q00_w5 ∧ True := ⟨(by have := hq; first | omega | (simp at this; omega)), trivial⟩
  have N_w5 := Lib.hid (show Below w4.heap.size w4 w5 from Below.trans (by repeat (first | exact Below.refl _ _ | exact Hid.out (by assumption) | refine below_alloc ?_ _ | refine Below.setCell ?_ (by simp <;> omega) _ | refine Below.alloc ?_ (by simp <;> omega) _ | refine Below.drew ?_ | refine below_drewN ?_ _)) (hb.mono (by simp <;> omega)))
  have B_w5 := Lib.hid (B_w4.out.trans (N_w5.out.mono B_w4.out.size))
  have S_w5 := Lib.hid (show w4.heap.size ≤ w5.heap.size from N_w5.out.size)
  clear X0a X0b X0aq X0bq U0a U0b U0aq U0bq
  have X0_w5 := Lib.hid (X0_w4.out.below N_w5.out)
  clear X0_w4
  have SW0_0_w5 := Lib.hid (SW0_0_w4.out.below N_w5.out)
  clear SW0_0_w4
  have U0_w5 := Lib.hid (U0_w4.out.below N_w5.out)
  clear U0_w4
  have Y0_0_w5 := Lib.hid (Y0_0_w4.out.below N_w5.out)
  clear Y0_0_w4
  have Z0_w5 := Lib.hid (Box2.below (Box2.new w4 41 (.int .i64 s0) (.slice (some ⟨g0_w4, 0, none⟩) n0 n0)) hb)
  have LZ0_w5 := Lib.hid (Z0_w5.out.lt)
  obtain ⟨X0a, X0b⟩ := X0_w5.out
  obtain ⟨U0a, U0b⟩ := U0_w5.out
  obtain ⟨Z0a, Z0b⟩ := Z0_w5.out
  have GW0_0_w5 := Lib.hid ho00
  have LGW0_0_w5 := Lib.hid (fun q => GW0_0_w5.out.lt q)
  have G_w5 := Lib.hid (hq)
  have D_w5 := Lib.hid (hd)
  clear hq hd ho00
  clear hb
  have X0aq := X0_w5.out.a0
  have X0bq := X0_w5.out.a1
  have U0aq := U0_w5.out.a0
  have U0bq := U0_w5.out.a1
  have Z0aq := Z0_w5.out.a0
  have Z0bq := Z0_w5.out.a1
  go_wp2_with fail
  refine (HR0.out _ _ _ _ _ (GW0_0_w5.out.cells.below (by repeat (first | exact Below.refl _ _ | exact Hid.out (by assumption) | refine below_alloc ?_ _ | refine Below.setCell ?_ (by simp <;> omega) _ | refine Below.alloc ?_ (by simp <;> omega) _ | refine Below.drew ?_ | refine below_drewN ?_ _))) (SW0_0_w5.out.cells.below (by repeat (first | exact Below.refl _ _ | exact Hid.out (by assumption) | refine below_alloc ?_ _ | refine Below.setCell ?_ (by simp <;> omega) _ | refine Below.alloc ?_ (by simp <;> omega) _ | refine Below.drew ?_ | refine below_drewN ?_ _)))).mono ?_
  rintro e w6 ⟨rfl, hb⟩
  have N_w6 := Lib.hid (show Below w5.heap.size w5 w6 from Below.trans (by repeat (first | exact Below.refl _ _ | exact Hid.out (by assumption) | refine below_alloc ?_ _ | refine Below.setCell ?_ (by simp <;> omega) _ | refine Below.alloc ?_ (by simp <;> omega) _ | refine Below.drew ?_ | refine below_drewN ?_ _)) (hb.mono (by simp <;> omega)))
  have B_w6 := Lib.hid (B_w5.out.trans (N_w6.out.mono B_w5.out.size))
  have S_w6 := Lib.hid (show w5.heap.size ≤ w6.heap.size from N_w6.out.size)
  clear X0a X0b X0aq X0bq U0a U0b U0aq U0bq Z0a Z0b Z0aq Z0bq
  have X0_w6 := Lib.hid (X0_w5.out.below N_w6.out)
  clear X0_w5
  have SW0_0_w6 := Lib.hid (SW0_0_w5.out.below N_w6.out)
  clear SW0_0_w5
  have U0_w6 := Lib.hid (U0_w5.out.below N_w6.out)
  clear U0_w5
  have Y0_0_w6 := Lib.hid (Y0_0_w5.out.below N_w6.out)
  clear Y0_0_w5
  have Z0_w6 := Lib.hid (Z0_w5.out.below N_w6.out)
  clear Z0_w5
  have GW0_0_w6 := Lib.hid (GW0_0_w5.out.below N_w6.out)
  clear GW0_0_w5
  have V0_w6 := Lib.hid (Box2.below (Box2.new w5 41 (.int .i64 Rs0) (.slice A0_w5 Rn0 c0_w5)) hb)
  have LV0_w6 := Lib.hid (V0_w6.out.lt)
  obtain ⟨X0a, X0b⟩ := X0_w6.out
  obtain ⟨U0a, U0b⟩ := U0_w6.out
  obtain ⟨Z0a, Z0b⟩ := Z0_w6.out
  obtain ⟨V0a, V0b⟩ := V0_w6.out
  clear hb
  go_upto_region 10 with fail
  go_cut [49] from 45 to 49 (fun s wx => s = .bool false ∧ Below w6.heap.size w6 wx)
  case first =>
    go_region_with (first
      | (go_at_call 28
         refine (HT0.out _ (PA0_0.out.below (by repeat (first | exact Below.refl _ _ | exact Hid.out (by assumption) | refine below_alloc ?_ _ | refine Below.setCell ?_ (by simp <;> omega) _ | refine Below.alloc ?_ (by simp <;> omega) _ | refine Below.drew ?_ | refine below_drewN ?_ _)))).mono ?_
         rintro e u1 ⟨g0_u1, rfl, hg0, hg1, ho0, hb⟩
         have N_u1 := Lib.hid (show Below w6.heap.size w6 u1 from Below.trans (by repeat (first | exact Below.refl _ _ | exact Hid.out (by assumption) | refine below_alloc ?_ _ | refine Below.setCell ?_ (by simp <;> omega) _ | refine Below.alloc ?_ (by simp <;> omega) _ | refine Below.drew ?_ | refine below_drewN ?_ _)) (hb.mono (by simp)))
         have K_0 := Lib.hid ho0.cells
         obtain ⟨zZ0a, zZ0b⟩ := Z0_w6.out.below N_u1.out
         clear hb ho0)
      | (go_at_call 30
         refine (HE0.out _ _ _ _ _ (Y0_0_w6.out.cells.below (by repeat (first | exact Below.refl _ _ | exact Hid.out (by assumption) | refine below_alloc ?_ _ | refine Below.setCell ?_ (by simp <;> omega) _ | refine Below.alloc ?_ (by simp <;> omega) _ | refine Below.drew ?_ | refine below_drewN ?_ _))) (K_0.out.below (by repeat (first | exact Below.refl _ _ | exact Hid.out (by assumption) | refine below_alloc ?_ _ | refine Below.setCell ?_ (by simp <;> omega) _ | refine Below.alloc ?_ (by simp <;> omega) _ | refine Below.drew ?_ | refine below_drewN ?_ _)))).mono ?_
         rintro e u2 ⟨rfl, hb⟩
         have N_u2 := Lib.hid (show Below w6.heap.size w6 u2 from Below.trans (show Below w6.heap.size w6 _ from (by repeat (first | exact Below.refl _ _ | exact Hid.out (by assumption) | refine below_alloc ?_ _ | refine Below.setCell ?_ (by simp <;> omega) _ | refine Below.alloc ?_ (by simp <;> omega) _ | refine Below.drew ?_ | refine below_drewN ?_ _))) (hb.mono (by first | exact N_u1.out.size | simp [N_u1.out.size])))
         clear hb))
    all_goals (go_wp2_with fail; go_meet; exact ⟨rfl, N_u2.out⟩)
  case rest =>
  obtain ⟨rfl, hb⟩ := hcut
  obtain ⟨w7, rfl⟩ : ∃ u, u = wc := ⟨_, rfl⟩
  have N_w7 := Lib.hid hb
  clear hb
  have B_w7 := Lib.hid (B_w6.out.trans (N_w7.out.mono B_w6.out.size))
  have S_w7 := Lib.hid (show w6.heap.size ≤ w7.heap.size from N_w7.out.size)
  clear X0a X0b U0a U0b Z0a Z0b V0a V0b
  have X0_w7 := Lib.hid (X0_w6.out.below N_w7.out)
  clear X0_w6
  have SW0_0_w7 := Lib.hid (SW0_0_w6.out.below N_w7.out)
  clear SW0_0_w6
  have U0_w7 := Lib.hid (U0_w6.out.below N_w7.out)
  clear U0_w6
  have Y0_0_w7 := Lib.hid (Y0_0_w6.out.below N_w7.out)
  clear Y0_0_w6
  have Z0_w7 := Lib.hid (Z0_w6.out.below N_w7.out)
  clear Z0_w6
  have GW0_0_w7 := Lib.hid (GW0_0_w6.out.below N_w7.out)
  clear GW0_0_w6
  have V0_w7 := Lib.hid (V0_w6.out.below N_w7.out)
  clear V0_w6
  obtain ⟨X0a, X0b⟩ := X0_w7.out
  obtain ⟨U0a, U0b⟩ := U0_w7.out
  obtain ⟨Z0a, Z0b⟩ := Z0_w7.out
  obtain ⟨V0a, V0b⟩ := V0_w7.out
  go_wp2_with fail
  refine (markZone_any s0 (some ⟨g0_w4, 0, none⟩) n0 n0 g0_w4 _ 1 _ (by omega) (by omega) (Y0_0_w7.out.below (by repeat (first | exact Below.refl _ _ | exact Hid.out (by assumption) | refine below_alloc ?_ _ | refine Below.setCell ?_ (by simp <;> omega) _ | refine Below.alloc ?_ (by simp <;> omega) _ | refine Below.drew ?_ | refine below_drewN ?_ _))) ).mono ?_
  rintro e w8 ⟨rfl, hm0, hw⟩
  have N_w8 := Lib.hid (show Within (w3.heap.size + 1) (w4.heap.size) w7 w8 from hw _ _ (by have o0 := S_w1.out; have o1 := S_w2.out; have o2 := S_w3.out; have o3 := S_w4.out; have o4 := S_w5.out; have o5 := S_w6.out; have o6 := S_w7.out; have o7 := LX0_w1.out; have o8 := G_w2.out; have o9 := LSW0_0_w3.out; have o10 := G_w3.out; have o11 := D_w3.out; have o12 := LU0_w4.out; have o13 := G_w4.out; have o14 := LZ0_w5.out; have o15 := LGW0_0_w5.out; have o16 := G_w5.out; have o17 := D_w5.out; have o18 := LV0_w6.out; omega) (fun q => by have o0 := S_w1.out; have o1 := S_w2.out; have o2 := S_w3.out; have o3 := S_w4.out; have o4 := S_w5.out; have o5 := S_w6.out; have o6 := S_w7.out; have o7 := LX0_w1.out; have o8 := G_w2.out; have o9 := LSW0_0_w3.out; have o10 := G_w3.out; have o11 := D_w3.out; have o12 := LU0_w4.out; have o13 := G_w4.out; have o14 := LZ0_w5.out; have o15 := LGW0_0_w5.out; have o16 := G_w5.out; have o17 := D_w5.out; have o18 := LV0_w6.out; omega))
  clear hw
  have B_w8 := Lib.hid (B_w7.out.trans (Within.below N_w8.out (by have o0 := S_w1.out; have o1 := S_w2.out; have o2 := S_w3.out; have o3 := S_w4.out; have o4 := S_w5.out; have o5 := S_w6.out; have o6 := S_w7.out; have o7 := LX0_w1.out; have o8 := G_w2.out; have o9 := LSW0_0_w3.out; have o10 := G_w3.out; have o11 := D_w3.out; have o12 := LU0_w4.out; have o13 := G_w4.out; have o14 := LZ0_w5.out; have o15 := LGW0_0_w5.out; have o16 := G_w5.out; have o17 := D_w5.out; have o18 := LV0_w6.out; omega) (by have o0 := S_w1.out; have o1 := S_w2.out; have o2 := S_w3.out; have o3 := S_w4.out; have o4 := S_w5.out; have o5 := S_w6.out; have o6 := S_w7.out; have o7 := LX0_w1.out; have o8 := G_w2.out; have o9 := LSW0_0_w3.out; have o10 := G_w3.out; have o11 := D_w3.out; have o12 := LU0_w4.out; have o13 := G_w4.out; have o14 := LZ0_w5.out; have o15 := LGW0_0_w5.out; have o16 := G_w5.out; have o17 := D_w5.out; have o18 := LV0_w6.out; omega)))
  have S_w8 := Lib.hid (show w7.heap.size ≤ w8.heap.size from N_w8.out.size)
  clear X0a X0b U0a U0b Z0a Z0b V0a V0b
  have X0_w8 := Lib.hid (X0_w7.out.within N_w8.out (by have o0 := S_w1.out; have o1 := S_w2.out; have o2 := S_w3.out; have o3 := S_w4.out; have o4 := S_w5.out; have o5 := S_w6.out; have o6 := S_w7.out; have o7 := S_w8.out; have o8 := LX0_w1.out; have o9 := G_w2.out; have o10 := LSW0_0_w3.out; have o11 := G_w3.out; have o12 := D_w3.out; have o13 := LU0_w4.out; have o14 := G_w4.out; have o15 := LZ0_w5.out; have o16 := LGW0_0_w5.out; have o17 := G_w5.out; have o18 := D_w5.out; have o19 := LV0_w6.out; omega))
  clear X0_w7
  have SW0_0_w8 := Lib.hid (OwnC.within SW0_0_w7.out N_w8.out (fun q => by have o0 := S_w1.out; have o1 := S_w2.out; have o2 := S_w3.out; have o3 := S_w4.out; have o4 := S_w5.out; have o5 := S_w6.out; have o6 := S_w7.out; have o7 := S_w8.out; have o8 := LX0_w1.out; have o9 := G_w2.out; have o10 := LSW0_0_w3.out; have o11 := G_w3.out; have o12 := D_w3.out; have o13 := LU0_w4.out; have o14 := G_w4.out; have o15 := LZ0_w5.out; have o16 := LGW0_0_w5.out; have o17 := G_w5.out; have o18 := D_w5.out; have o19 := LV0_w6.out; omega))
  clear SW0_0_w7
  have U0_w8 := Lib.hid (U0_w7.out.within N_w8.out (by have o0 := S_w1.out; have o1 := S_w2.out; have o2 := S_w3.out; have o3 := S_w4.out; have o4 := S_w5.out; have o5 := S_w6.out; have o6 := S_w7.out; have o7 := S_w8.out; have o8 := LX0_w1.out; have o9 := G_w2.out; have o10 := LSW0_0_w3.out; have o11 := G_w3.out; have o12 := D_w3.out; have o13 := LU0_w4.out; have o14 := G_w4.out; have o15 := LZ0_w5.out; have o16 := LGW0_0_w5.out; have o17 := G_w5.out; have o18 := D_w5.out; have o19 := LV0_w6.out; omega))
  clear U0_w7
  clear Y0_0_w7
  clear Z0_w7
  have GW0_0_w8 := Lib.hid (OwnC.within GW0_0_w7.out N_w8.out (fun q => by have o0 := S_w1.out; have o1 := S_w2.out; have o2 := S_w3.out; have o3 := S_w4.out; have o4 := S_w5.out; have o5 := S_w6.out; have o6 := S_w7.out; have o7 := S_w8.out; have o8 := LX0_w1.out; have o9 := G_w2.out; have o10 := LSW0_0_w3.out; have o11 := G_w3.out; have o12 := D_w3.out; have o13 := LU0_w4.out; have o14 := G_w4.out; have o15 := LZ0_w5.out; have o16 := LGW0_0_w5.out; have o17 := G_w5.out; have o18 := D_w5.out; have o19 := LV0_w6.out; omega))
  clear GW0_0_w7
  have V0_w8 := Lib.hid (V0_w7.out.within N_w8.out (by have o0 := S_w1.out; have o1 := S_w2.out; have o2 := S_w3.out; have o3 := S_w4.out; have o4 := S_w5.out; have o5 := S_w6.out; have o6 := S_w7.out; have o7 := S_w8.out; have o8 := LX0_w1.out; have o9 := G_w2.out; have o10 := LSW0_0_w3.out; have o11 := G_w3.out; have o12 := D_w3.out; have o13 := LU0_w4.out; have o14 := G_w4.out; have o15 := LZ0_w5.out; have o16 := LGW0_0_w5.out; have o17 := G_w5.out; have o18 := D_w5.out; have o19 := LV0_w6.out; omega))
  clear V0_w7
  clear hm0
  obtain ⟨X0a, X0b⟩ := X0_w8.out
  obtain ⟨U0a, U0b⟩ := U0_w8.out
  obtain ⟨V0a, V0b⟩ := V0_w8.out
  have hk0 : ¬ (1 + (n0 : Int)) < 0 := by omega
  go_wp2_with fail
  refine (HR0.out _ _ _ _ _ (GW0_0_w8.out.cells.below (by repeat (first | exact Below.refl _ _ | exact Hid.out (by assumption) | refine below_alloc ?_ _ | refine Below.setCell ?_ (by simp <;> omega) _ | refine Below.alloc ?_ (by simp <;> omega) _ | refine Below.drew ?_ | refine below_drewN ?_ _))) (SW0_0_w8.out.cells.below (by repeat (first | exact Below.refl _ _ | exact Hid.out (by assumption) | refine below_alloc ?_ _ | refine Below.setCell ?_ (by simp <;> omega) _ | refine Below.alloc ?_ (by simp <;> omega) _ | refine Below.drew ?_ | refine below_drewN ?_ _)))).mono ?_
  rintro e w9 ⟨rfl, hb⟩
  have N_w9 := Lib.hid (show Below w8.heap.size w8 w9 from Below.trans (by repeat (first | exact Below.refl _ _ | exact Hid.out (by assumption) | refine below_alloc ?_ _ | refine Below.setCell ?_ (by simp <;> omega) _ | refine Below.alloc ?_ (by simp <;> omega) _ | refine Below.drew ?_ | refine below_drewN ?_ _)) (hb.mono (by simp <;> omega)))
  have B_w9 := Lib.hid (B_w8.out.trans (N_w9.out.mono B_w8.out.size))
  have S_w9 := Lib.hid (show w8.heap.size ≤ w9.heap.size from N_w9.out.size)
  clear X0a X0b U0a U0b V0a V0b
  have X0_w9 := Lib.hid (X0_w8.out.below N_w9.out)
  clear X0_w8
  have SW0_0_w9 := Lib.hid (SW0_0_w8.out.below N_w9.out)
  clear SW0_0_w8
  have U0_w9 := Lib.hid (U0_w8.out.below N_w9.out)
  clear U0_w8
  have GW0_0_w9 := Lib.hid (GW0_0_w8.out.below N_w9.out)
  clear GW0_0_w8
  have V0_w9 := Lib.hid (V0_w8.out.below N_w9.out)
  clear V0_w8
  obtain ⟨X0a, X0b⟩ := X0_w9.out
  obtain ⟨U0a, U0b⟩ := U0_w9.out
  obtain ⟨V0a, V0b⟩ := V0_w9.out
  clear hb
  go_wp2_with fail
  refine (markZone_any Rs0 (A0_w5) Rn0 c0_w5 q00_w5 _ 1 _ (by omega) (by omega) (GW0_0_w9.out.below (by repeat (first | exact Below.refl _ _ | exact Hid.out (by assumption) | refine below_alloc ?_ _ | refine Below.setCell ?_ (by simp <;> omega) _ | refine Below.alloc ?_ (by simp <;> omega) _ | refine Below.drew ?_ | refine below_drewN ?_ _))) ).mono ?_
  rintro e w10 ⟨rfl, hm0, hw⟩
  have N_w10 := Lib.hid (show Within (w4.heap.size + 1) (w5.heap.size) w9 w10 from hw _ _ (by have o0 := S_w1.out; have o1 := S_w2.out; have o2 := S_w3.out; have o3 := S_w4.out; have o4 := S_w5.out; have o5 := S_w6.out; have o6 := S_w7.out; have o7 := S_w8.out; have o8 := S_w9.out; have o9 := LX0_w1.out; have o10 := G_w2.out; have o11 := LSW0_0_w3.out; have o12 := G_w3.out; have o13 := D_w3.out; have o14 := LU0_w4.out; have o15 := G_w4.out; have o16 := LZ0_w5.out; have o17 := LGW0_0_w5.out; have o18 := G_w5.out; have o19 := D_w5.out; have o20 := LV0_w6.out; omega) (fun q => by have o0 := S_w1.out; have o1 := S_w2.out; have o2 := S_w3.out; have o3 := S_w4.out; have o4 := S_w5.out; have o5 := S_w6.out; have o6 := S_w7.out; have o7 := S_w8.out; have o8 := S_w9.out; have o9 := LX0_w1.out; have o10 := G_w2.out; have o11 := LSW0_0_w3.out; have o12 := G_w3.out; have o13 := D_w3.out; have o14 := LU0_w4.out; have o15 := G_w4.out; have o16 := LZ0_w5.out; have o17 := LGW0_0_w5.out; have o18 := G_w5.out; have o19 := D_w5.out; have o20 := LV0_w6.out; omega))
  clear hw
  have B_w10 := Lib.hid (B_w9.out.trans (Within.below N_w10.out (by have o0 := S_w1.out; have o1 := S_w2.out; have o2 := S_w3.out; have o3 := S_w4.out; have o4 := S_w5.out; have o5 := S_w6.out; have o6 := S_w7.out; have o7 := S_w8.out; have o8 := S_w9.out; have o9 := LX0_w1.out; have o10 := G_w2.out; have o11 := LSW0_0_w3.out; have o12 := G_w3.out; have o13 := D_w3.out; have o14 := LU0_w4.out; have o15 := G_w4.out; have o16 := LZ0_w5.out; have o17 := LGW0_0_w5.out; have o18 := G_w5.out; have o19 := D_w5.out; have o20 := LV0_w6.out; omega) (by have o0 := S_w1.out; have o1 := S_w2.out; have o2 := S_w3.out; have o3 := S_w4.out; have o4 := S_w5.out; have o5 := S_w6.out; have o6 := S_w7.out; have o7 := S_w8.out; have o8 := S_w9.out; have o9 := LX0_w1.out; have o10 := G_w2.out; have o11 := LSW0_0_w3.out; have o12 := G_w3.out; have o13 := D_w3.out; have o14 := LU0_w4.out; have o15 := G_w4.out; have o16 := LZ0_w5.out; have o17 := LGW0_0_w5.out; have o18 := G_w5.out; have o19 := D_w5.out; have o20 := LV0_w6.out; omega)))
  have S_w10 := Lib.hid (show w9.heap.size ≤ w10.heap.size from N_w10.out.size)
  clear X0a X0b U0a U0b V0a V0b
  have X0_w10 := Lib.hid (X0_w9.out.within N_w10.out (by have o0 := S_w1.out; have o1 := S_w2.out; have o2 := S_w3.out; have o3 := S_w4.out; have o4 := S_w5.out; have o5 := S_w6.out; have o6 := S_w7.out; have o7 := S_w8.out; have o8 := S_w9.out; have o9 := S_w10.out; have o10 := LX0_w1.out; have o11 := G_w2.out; have o12 := LSW0_0_w3.out; have o13 := G_w3.out; have o14 := D_w3.out; have o15 := LU0_w4.out; have o16 := G_w4.out; have o17 := LZ0_w5.out; have o18 := LGW0_0_w5.out; have o19 := G_w5.out; have o20 := D_w5.out; have o21 := LV0_w6.out; omega))
  clear X0_w9
  have SW0_0_w10 := Lib.hid (OwnC.within SW0_0_w9.out N_w10.out (fun q => by have o0 := S_w1.out; have o1 := S_w2.out; have o2 := S_w3.out; have o3 := S_w4.out; have o4 := S_w5.out; have o5 := S_w6.out; have o6 := S_w7.out; have o7 := S_w8.out; have o8 := S_w9.out; have o9 := S_w10.out; have o10 := LX0_w1.out; have o11 := G_w2.out; have o12 := LSW0_0_w3.out; have o13 := G_w3.out; have o14 := D_w3.out; have o15 := LU0_w4.out; have o16 := G_w4.out; have o17 := LZ0_w5.out; have o18 := LGW0_0_w5.out; have o19 := G_w5.out; have o20 := D_w5.out; have o21 := LV0_w6.out; omega))
  clear SW0_0_w9
  have U0_w10 := Lib.hid (U0_w9.out.within N_w10.out (by have o0 := S_w1.out; have o1 := S_w2.out; have o2 := S_w3.out; have o3 := S_w4.out; have o4 := S_w5.out; have o5 := S_w6.out; have o6 := S_w7.out; have o7 := S_w8.out; have o8 := S_w9.out; have o9 := S_w10.out; have o10 := LX0_w1.out; have o11 := G_w2.out; have o12 := LSW0_0_w3.out; have o13 := G_w3.out; have o14 := D_w3.out; have o15 := LU0_w4.out; have o16 := G_w4.out; have o17 := LZ0_w5.out; have o18 := LGW0_0_w5.out; have o19 := G_w5.out; have o20 := D_w5.out; have o21 := LV0_w6.out; omega))
  clear U0_w9
  clear GW0_0_w9
  have V0_w10 := Lib.hid (V0_w9.out.within N_w10.out (by have o0 := S_w1.out; have o1 := S_w2.out; have o2 := S_w3.out; have o3 := S_w4.out; have o4 := S_w5.out; have o5 := S_w6.out; have o6 := S_w7.out; have o7 := S_w8.out; have o8 := S_w9.out; have o9 := S_w10.out; have o10 := LX0_w1.out; have o11 := G_w2.out; have o12 := LSW0_0_w3.out; have o13 := G_w3.out; have o14 := D_w3.out; have o15 := LU0_w4.out; have o16 := G_w4.out; have o17 := LZ0_w5.out; have o18 := LGW0_0_w5.out; have o19 := G_w5.out; have o20 := D_w5.out; have o21 := LV0_w6.out; omega))
  clear V0_w9
  have GW0_0_w10 := Lib.hid hm0
  clear hm0
  obtain ⟨X0a, X0b⟩ := X0_w10.out
  obtain ⟨U0a, U0b⟩ := U0_w10.out
  obtain ⟨V0a, V0b⟩ := V0_w10.out
  have hk1_0 : ¬ (1 + (Rn0 : Int)) < 0 := by omega
  go_wp2_with fail
  refine (heldZone_any Rs0 (A0_w5) Rn0 c0_w5 1 _ (by omega) (by omega) (GW0_0_w10.out.cells.below (by repeat (first | exact Below.refl _ _ | exact Hid.out (by assumption) | refine below_alloc ?_ _ | refine Below.setCell ?_ (by simp <;> omega) _ | refine Below.alloc ?_ (by simp <;> omega) _ | refine Below.drew ?_ | refine below_drewN ?_ _)))).mono ?_
  rintro e w11 ⟨rfl, hb⟩
  have N_w11 := Lib.hid (show Below w10.heap.size w10 w11 from Below.trans (by repeat (first | exact Below.refl _ _ | exact Hid.out (by assumption) | refine below_alloc ?_ _ | refine Below.setCell ?_ (by simp <;> omega) _ | refine Below.alloc ?_ (by simp <;> omega) _ | refine Below.drew ?_ | refine below_drewN ?_ _)) (hb.mono (by simp <;> omega)))
  have B_w11 := Lib.hid (B_w10.out.trans (N_w11.out.mono B_w10.out.size))
  have S_w11 := Lib.hid (show w10.heap.size ≤ w11.heap.size from N_w11.out.size)
  clear X0a X0b U0a U0b V0a V0b
  have X0_w11 := Lib.hid (X0_w10.out.below N_w11.out)
  clear X0_w10
  have SW0_0_w11 := Lib.hid (SW0_0_w10.out.below N_w11.out)
  clear SW0_0_w10
  have U0_w11 := Lib.hid (U0_w10.out.below N_w11.out)
  clear U0_w10
  have V0_w11 := Lib.hid (V0_w10.out.below N_w11.out)
  clear V0_w10
  have GW0_0_w11 := Lib.hid (GW0_0_w10.out.below N_w11.out)
  clear GW0_0_w10
  obtain ⟨X0a, X0b⟩ := X0_w11.out
  obtain ⟨U0a, U0b⟩ := U0_w11.out
  obtain ⟨V0a, V0b⟩ := V0_w11.out
  clear hb
  go_wp2_with fail
  refine (HT0.out _ (PA0_0.out.below (by repeat (first | exact Below.refl _ _ | exact Hid.out (by assumption) | refine below_alloc ?_ _ | refine Below.setCell ?_ (by simp <;> omega) _ | refine Below.alloc ?_ (by simp <;> omega) _ | refine Below.drew ?_ | refine below_drewN ?_ _)))).mono ?_
  rintro e w12 ⟨g0_w12, rfl, hg0, hg1, ho0, hb⟩
  have N_w12 := Lib.hid (show Below w11.heap.size w11 w12 from Below.trans (by repeat (first | exact Below.refl _ _ | exact Hid.out (by assumption) | refine below_alloc ?_ _ | refine Below.setCell ?_ (by simp <;> omega) _ | refine Below.alloc ?_ (by simp <;> omega) _ | refine Below.drew ?_ | refine below_drewN ?_ _)) (hb.mono (by simp <;> omega)))
  have B_w12 := Lib.hid (B_w11.out.trans (N_w12.out.mono B_w11.out.size))
  have S_w12 := Lib.hid (show w11.heap.size ≤ w12.heap.size from N_w12.out.size)
  clear X0a X0b U0a U0b V0a V0b
  have X0_w12 := Lib.hid (X0_w11.out.below N_w12.out)
  clear X0_w11
  have SW0_0_w12 := Lib.hid (SW0_0_w11.out.below N_w12.out)
  clear SW0_0_w11
  have U0_w12 := Lib.hid (U0_w11.out.below N_w12.out)
  clear U0_w11
  have V0_w12 := Lib.hid (V0_w11.out.below N_w12.out)
  clear V0_w11
  have GW0_0_w12 := Lib.hid (GW0_0_w11.out.below N_w12.out)
  clear GW0_0_w11
  obtain ⟨X0a, X0b⟩ := X0_w12.out
  obtain ⟨U0a, U0b⟩ := U0_w12.out
  obtain ⟨V0a, V0b⟩ := V0_w12.out
  have C0_0_w12 := Lib.hid ho0
  have G_w12 := Lib.hid (show w11.heap.size + 0 ≤ g0_w12 ∧ g0_w12 < w12.heap.size from ⟨by first | omega | (simp at hg0; omega), hg1⟩)
  clear hb hg0 hg1 ho0
  go_wp2_with fail
  refine (HI.out _ _ _ (C0_0_w12.out.cells.below (by repeat (first | exact Below.refl _ _ | exact Hid.out (by assumption) | refine below_alloc ?_ _ | refine Below.setCell ?_ (by simp <;> omega) _ | refine Below.alloc ?_ (by simp <;> omega) _ | refine Below.drew ?_ | refine below_drewN ?_ _)))).mono ?_
  rintro e w13 ⟨A0_w13, c0_w13, q00_w13, rfl, hq, hd, ho00, hb⟩
  have hq : w12.heap.size + 0 ≤ q00_w13 ∧ True := ⟨(by have := hq; first | omega | (simp at this; omega)), trivial⟩
  have N_w13 := Lib.hid (show Below w12.heap.size w12 w13 from Below.trans (by repeat (first | exact Below.refl _ _ | exact Hid.out (by assumption) | refine below_alloc ?_ _ | refine Below.setCell ?_ (by simp <;> omega) _ | refine Below.alloc ?_ (by simp <;> omega) _ | refine Below.drew ?_ | refine below_drewN ?_ _)) (hb.mono (by simp <;> omega)))
  have B_w13 := Lib.hid (B_w12.out.trans (N_w13.out.mono B_w12.out.size))
  have S_w13 := Lib.hid (show w12.heap.size ≤ w13.heap.size from N_w13.out.size)
  clear X0a X0b U0a U0b V0a V0b
  have X0_w13 := Lib.hid (X0_w12.out.below N_w13.out)
  clear X0_w12
  have SW0_0_w13 := Lib.hid (SW0_0_w12.out.below N_w13.out)
  clear SW0_0_w12
  have U0_w13 := Lib.hid (U0_w12.out.below N_w13.out)
  clear U0_w12
  have V0_w13 := Lib.hid (V0_w12.out.below N_w13.out)
  clear V0_w12
  have GW0_0_w13 := Lib.hid (GW0_0_w12.out.below N_w13.out)
  clear GW0_0_w12
  have C0_0_w13 := Lib.hid (C0_0_w12.out.below N_w13.out)
  clear C0_0_w12
  obtain ⟨X0a, X0b⟩ := X0_w13.out
  obtain ⟨U0a, U0b⟩ := U0_w13.out
  obtain ⟨V0a, V0b⟩ := V0_w13.out
  have HW0_0_w13 := Lib.hid ho00
  have LHW0_0_w13 := Lib.hid (fun q => HW0_0_w13.out.lt q)
  have G_w13 := Lib.hid (hq)
  have D_w13 := Lib.hid (hd)
  clear hq hd ho00
  clear hb
  have X0aq := X0_w13.out.a0
  have X0bq := X0_w13.out.a1
  have U0aq := U0_w13.out.a0
  have U0bq := U0_w13.out.a1
  have V0aq := V0_w13.out.a0
  have V0bq := V0_w13.out.a1
  clear C0_0_w13
  go_wp2_with fail
  refine (HR0.out _ _ _ _ _ (HW0_0_w13.out.cells.below (by repeat (first | exact Below.refl _ _ | exact Hid.out (by assumption) | refine below_alloc ?_ _ | refine Below.setCell ?_ (by simp <;> omega) _ | refine Below.alloc ?_ (by simp <;> omega) _ | refine Below.drew ?_ | refine below_drewN ?_ _))) (SW0_0_w13.out.cells.below (by repeat (first | exact Below.refl _ _ | exact Hid.out (by assumption) | refine below_alloc ?_ _ | refine Below.setCell ?_ (by simp <;> omega) _ | refine Below.alloc ?_ (by simp <;> omega) _ | refine Below.drew ?_ | refine below_drewN ?_ _)))).mono ?_
  rintro e w14 ⟨rfl, hb⟩
  have N_w14 := Lib.hid (show Below w13.heap.size w13 w14 from Below.trans (by repeat (first | exact Below.refl _ _ | exact Hid.out (by assumption) | refine below_alloc ?_ _ | refine Below.setCell ?_ (by simp <;> omega) _ | refine Below.alloc ?_ (by simp <;> omega) _ | refine Below.drew ?_ | refine below_drewN ?_ _)) (hb.mono (by simp <;> omega)))
  have B_w14 := Lib.hid (B_w13.out.trans (N_w14.out.mono B_w13.out.size))
  have S_w14 := Lib.hid (show w13.heap.size ≤ w14.heap.size from N_w14.out.size)
  clear X0a X0b X0aq X0bq U0a U0b U0aq U0bq V0a V0b V0aq V0bq
  have X0_w14 := Lib.hid (X0_w13.out.below N_w14.out)
  clear X0_w13
  have SW0_0_w14 := Lib.hid (SW0_0_w13.out.below N_w14.out)
  clear SW0_0_w13
  have U0_w14 := Lib.hid (U0_w13.out.below N_w14.out)
  clear U0_w13
  have V0_w14 := Lib.hid (V0_w13.out.below N_w14.out)
  clear V0_w13
  have GW0_0_w14 := Lib.hid (GW0_0_w13.out.below N_w14.out)
  clear GW0_0_w13
  have HW0_0_w14 := Lib.hid (HW0_0_w13.out.below N_w14.out)
  clear HW0_0_w13
  have T0_w14 := Lib.hid (Box2.below (Box2.new w13 41 (.int .i64 Rs0) (.slice A0_w13 Rn0 c0_w13)) hb)
  have LT0_w14 := Lib.hid (T0_w14.out.lt)
  obtain ⟨X0a, X0b⟩ := X0_w14.out
  obtain ⟨U0a, U0b⟩ := U0_w14.out
  obtain ⟨V0a, V0b⟩ := V0_w14.out
  obtain ⟨T0a, T0b⟩ := T0_w14.out
  clear hb
  go_wp2_with fail
  refine (heldZone_any Rs0 (A0_w5) Rn0 c0_w5 1 _ (by omega) (by omega) (GW0_0_w14.out.cells.below (by repeat (first | exact Below.refl _ _ | exact Hid.out (by assumption) | refine below_alloc ?_ _ | refine Below.setCell ?_ (by simp <;> omega) _ | refine Below.alloc ?_ (by simp <;> omega) _ | refine Below.drew ?_ | refine below_drewN ?_ _)))).mono ?_
  rintro e w15 ⟨rfl, hb⟩
  have N_w15 := Lib.hid (show Below w14.heap.size w14 w15 from Below.trans (by repeat (first | exact Below.refl _ _ | exact Hid.out (by assumption) | refine below_alloc ?_ _ | refine Below.setCell ?_ (by simp <;> omega) _ | refine Below.alloc ?_ (by simp <;> omega) _ | refine Below.drew ?_ | refine below_drewN ?_ _)) (hb.mono (by simp <;> omega)))
  have B_w15 := Lib.hid (B_w14.out.trans (N_w15.out.mono B_w14.out.size))
  have S_w15 := Lib.hid (show w14.heap.size ≤ w15.heap.size from N_w15.out.size)
  clear X0a X0b U0a U0b V0a V0b T0a T0b
  have X0_w15 := Lib.hid (X0_w14.out.below N_w15.out)
  clear X0_w14
  have SW0_0_w15 := Lib.hid (SW0_0_w14.out.below N_w15.out)
  clear SW0_0_w14
  have U0_w15 := Lib.hid (U0_w14.out.below N_w15.out)
  clear U0_w14
  have V0_w15 := Lib.hid (V0_w14.out.below N_w15.out)
  clear V0_w14
  have GW0_0_w15 := Lib.hid (GW0_0_w14.out.below N_w15.out)
  clear GW0_0_w14
  have HW0_0_w15 := Lib.hid (HW0_0_w14.out.below N_w15.out)
  clear HW0_0_w14
  have T0_w15 := Lib.hid (T0_w14.out.below N_w15.out)
  clear T0_w14
  obtain ⟨X0a, X0b⟩ := X0_w15.out
  obtain ⟨U0a, U0b⟩ := U0_w15.out
  obtain ⟨V0a, V0b⟩ := V0_w15.out
  obtain ⟨T0a, T0b⟩ := T0_w15.out
  clear hb
  go_wp2_with fail
  go_ret
  exact ⟨rfl, B_w15.out⟩
end Go.Proofs.Ytpelmfanchkpeaa
