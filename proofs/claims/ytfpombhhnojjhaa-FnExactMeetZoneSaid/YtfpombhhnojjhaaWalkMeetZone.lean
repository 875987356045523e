/- The law on MeetZone walked. -/
import Derived.Test.YtfpombhhnojjhaaZonX
import Derived.Test.YtfpombhhnojjhaaOpenZone
import Derived.Deep.CutRange
import Derived.Deep.RegionHeld3
set_option linter.unusedVariables false
namespace Go.Proofs.Ytfpombhhnojjhaa
open Go.RowKit

set_option maxHeartbeats 16000000 in
theorem fnExactMeetZone.walk (s0 : Int) (A0 : Option Addr) (n0 c0 : Nat) (f0 : Nat → Int) (s1 : Int) (A1 : Option Addr) (n1 c1 : Nat) (f1 : Nat → Int) (w : World) (H0 : ZoneIn w s0 A0 n0 f0) (H1 : ZoneIn w s1 A1 n1 f1) :
    Calls Try.prog 4 #[.agg #[.int .i64 s0, .slice A0 n0 c0], .agg #[.int .i64 s1, .slice A1 n1 c1]] w fun e w' => e = .returned (.bool true) ∧ Below w.heap.size w w' := by
  have PA0_0 := Lib.hid H0.ca
  have na0_0 := H0.na
  clear H0
  have PA1_0 := Lib.hid H1.ca
  have na1_0 := H1.na
  clear H1
  by_cases hb0 : (n0 : Int) ≤ 1048576
  rotate_left
  · have HN0 := Lib.hid (fun W => szZone_no s0 A0 n0 c0 1048576 W (by omega) (by omega) na0_0 hb0)
    go_enter Try.func4, Try.ntmps4
    go_wp2_with fail
    refine (HN0.out _).mono ?_
    rintro e w1 ⟨rfl, hb⟩
    have N_e := Lib.hid (show Below w.heap.size w _ from Below.trans (by repeat (first | exact Below.refl _ _ | exact Hid.out (by assumption) | refine below_alloc ?_ _ | refine Below.setCell ?_ (by simp <;> omega) _ | refine Below.alloc ?_ (by simp <;> omega) _ | refine Below.drew ?_ | refine below_drewN ?_ _)) (hb.mono (by simp <;> omega)))
    have B_e := Lib.hid (N_e.out)
    clear hb
    go_wp2_with fail
    go_ret
    exact ⟨rfl, B_e.out⟩
  have HZ0 := Lib.hid (fun W => szZone_yes s0 A0 n0 c0 1048576 W (by omega) hb0)
  by_cases hb1 : (n1 : Int) ≤ (1048576 - (n0 : Int))
  rotate_left
  · have HN1 := Lib.hid (fun W => szZone_no s1 A1 n1 c1 (1048576 - (n0 : Int)) W (by omega) (by omega) na1_0 hb1)
    go_enter Try.func4, Try.ntmps4
    go_wp2_with fail
    refine (HZ0.out _).mono ?_
    rintro e w1 ⟨rfl, hb⟩
    have N_w1 := Lib.hid (show Below w.heap.size w w1 from Below.trans (by repeat (first | exact Below.refl _ _ | exact Hid.out (by assumption) | refine below_alloc ?_ _ | refine Below.setCell ?_ (by simp <;> omega) _ | refine Below.alloc ?_ (by simp <;> omega) _ | refine Below.drew ?_ | refine below_drewN ?_ _)) (hb.mono (by simp <;> omega)))
    have B_w1 := Lib.hid (show Below w.heap.size w w1 from N_w1.out)
    have S_w1 := Lib.hid (show w.heap.size ≤ w1.heap.size from N_w1.out.size)
    have X0_w1 := Lib.hid (Box2.below (Box2.alloc (Box2.new w 34 (.int .i64 s0) (.slice A0 n0 c0)) _) hb)
    have LX0_w1 := Lib.hid (X0_w1.out.lt)
    have X1_w1 := Lib.hid (Box2.below (show Box2 _ (w.heap.size + 1) _ _ from by simpa using (Box2.new (w.alloc (.cells #[.int .i64 s0, .slice A0 n0 c0] 34)) 34 (.int .i64 s1) (.slice A1 n1 c1))) hb)
    have LX1_w1 := Lib.hid (X1_w1.out.lt)
    obtain ⟨X0a, X0b⟩ := X0_w1.out
    obtain ⟨X1a, X1b⟩ := X1_w1.out
    clear hb
    go_wp2_with fail
    refine (HN1.out _).mono ?_
    rintro e w2 ⟨rfl, hb⟩
    have N_e := Lib.hid (show Below w1.heap.size w1 _ from Below.trans (by repeat (first | exact Below.refl _ _ | exact Hid.out (by assumption) | refine below_alloc ?_ _ | refine Below.setCell ?_ (by simp <;> omega) _ | refine Below.alloc ?_ (by simp <;> omega) _ | refine Below.drew ?_ | refine below_drewN ?_ _)) (hb.mono (by simp <;> omega)))
    have B_e := Lib.hid (B_w1.out.trans (N_e.out.mono B_w1.out.size))
    clear hb
    clear X0a X0b X1a X1b
    go_wp2_with fail
    go_ret
    exact ⟨rfl, B_e.out⟩
  have HZ1 := Lib.hid (fun W => szZone_yes s1 A1 n1 c1 (1048576 - (n0 : Int)) W (by omega) hb1)
  have HT0 := Lib.hid (fun W y1 => toZone_any s0 A0 n0 c0 f0 W (by omega) y1)
  have HE0 := Lib.hid (fun v0 v1 c0 e0 W y1 y2 => eqZone_any s0 v0 v1 n0 c0 e0 f0 W (by omega) y1 y2)
  have HT1 := Lib.hid (fun W y1 => toZone_any s1 A1 n1 c1 f1 W (by omega) y1)
  have HE1 := Lib.hid (fun v0 v1 c0 e0 W y1 y2 => eqZone_any s1 v0 v1 n1 c0 e0 f1 W (by omega) y1 y2)
  have HS := Lib.hid (fun vA0 vc0 vA1 vc1 W h0_0 h1_0 => specMeetZone_any s0 vA0 n0 vc0 f0 s1 vA1 n1 vc1 f1 W (by omega) h0_0 (by omega) h1_0)
  have HI := Lib.hid (fun vA0 vc0 vA1 vc1 W h0_0 h1_0 => implMeetZone_any s0 vA0 n0 vc0 f0 s1 vA1 n1 vc1 f1 W (by omega) h0_0 (by omega) h1_0)
  have RB := Lib.hid (ifN_le (meetOk s0 n0 f0 s1 n1 f1) n0)
  generalize ifI (meetOk s0 n0 f0 s1 n1 f1) s0 = Rs0 at *
  generalize ifN (meetOk s0 n0 f0 s1 n1 f1) n0 = Rn0 at *
  generalize meetOk s0 n0 f0 s1 n1 f1 = Rr1 at *
  generalize tightG s0 (minF f0 f1) = Rf0 at *
  have bR0 : Rn0 ≤ 1048576 := Nat.le_trans RB.out (by omega)
  clear RB
  have HR0 := Lib.hid (fun v0 v1 c0 e0 W y1 y2 => eqZone_any Rs0 v0 v1 Rn0 c0 e0 Rf0 W (by omega) y1 y2)
  go_enter Try.func4, Try.ntmps4
  go_wp2_with fail
  refine (HZ0.out _).mono ?_
  rintro e w1 ⟨rfl, hb⟩
  have N_w1 := Lib.hid (show Below w.heap.size w w1 from Below.trans (by repeat (first | exact Below.refl _ _ | exact Hid.out (by assumption) | refine below_alloc ?_ _ | refine Below.setCell ?_ (by simp <;> omega) _ | refine Below.alloc ?_ (by simp <;> omega) _ | refine Below.drew ?_ | refine below_drewN ?_ _)) (hb.mono (by simp <;> omega)))
  have B_w1 := Lib.hid (show Below w.heap.size w w1 from N_w1.out)
  have S_w1 := Lib.hid (show w.heap.size ≤ w1.heap.size from N_w1.out.size)
  have X0_w1 := Lib.hid (Box2.below (Box2.alloc (Box2.new w 34 (.int .i64 s0) (.slice A0 n0 c0)) _) hb)
  have LX0_w1 := Lib.hid (X0_w1.out.lt)
  have X1_w1 := Lib.hid (Box2.below (show Box2 _ (w.heap.size + 1) _ _ from by simpa using (Box2.new (w.alloc (.cells #[.int .i64 s0, .slice A0 n0 c0] 34)) 34 (.int .i64 s1) (.slice A1 n1 c1))) hb)
  have LX1_w1 := Lib.hid (X1_w1.out.lt)
  obtain ⟨X0a, X0b⟩ := X0_w1.out
  obtain ⟨X1a, X1b⟩ := X1_w1.out
  clear hb
  go_wp2_with fail
  refine (HZ1.out _).mono ?_
  rintro e w2 ⟨rfl, hb⟩
  have N_w2 := Lib.hid (show Below w1.heap.size w1 w2 from Below.trans (by repeat (first | exact Below.refl _ _ | exact Hid.out (by assumption) | refine below_alloc ?_ _ | refine Below.setCell ?_ (by simp <;> omega) _ | refine Below.alloc ?_ (by simp <;> omega) _ | refine Below.drew ?_ | refine below_drewN ?_ _)) (hb.mono (by simp <;> omega)))
  have B_w2 := Lib.hid (B_w1.out.trans (N_w2.out.mono B_w1.out.size))
  have S_w2 := Lib.hid (show w1.heap.size ≤ w2.heap.size from N_w2.out.size)
  clear X0a X0b X1a X1b
  have X0_w2 := Lib.hid (X0_w1.out.below N_w2.out)
  clear X0_w1
  have X1_w2 := Lib.hid (X1_w1.out.below N_w2.out)
  clear X1_w1
  obtain ⟨X0a, X0b⟩ := X0_w2.out
  obtain ⟨X1a, X1b⟩ := X1_w2.out
  clear hb
  go_upto_region 8 with fail
  go_cut [6, 7] from 27 to 34 (fun s6 s7 wx => ∃ (p : Nat) (TA : Option Addr) (Tc : Nat) (q0 : Nat), s6 = .pointer (some ⟨p, 0, none⟩) ∧ s7 = .bool Rr1 ∧ w2.heap.size ≤ p ∧ Box2 wx p (.int .i64 Rs0) (.slice TA Rn0 Tc) ∧ (w2.heap.size ≤ q0) ∧ (True) ∧ OwnC wx q0 TA Rn0 (fun i => .int .i64 (Rf0 i)) ∧ Below w2.heap.size w2 wx)
  case first =>
    have HKeep := Lib.hid (show ∀ W, Below w2.heap.size w2 W → (W.cell? ⟨w.heap.size, 0, none⟩ = some (.int .i64 s0) ∧ W.cell? ⟨w.heap.size, 1, none⟩ = some (.slice A0 n0 c0) ∧ W.cell? ⟨w.heap.size + 1, 0, none⟩ = some (.int .i64 s1) ∧ W.cell? ⟨w.heap.size + 1, 1, none⟩ = some (.slice A1 n1 c1)) from fun W hW => ⟨(X0_w2.out.below hW).c0, (X0_w2.out.below hW).c1, (X1_w2.out.below hW).c0, (X1_w2.out.below hW).c1⟩)
    go_region_held3 (fun W => W.cell? ⟨w.heap.size, 0, none⟩ = some (.int .i64 s0) ∧ W.cell? ⟨w.heap.size, 1, none⟩ = some (.slice A0 n0 c0) ∧ W.cell? ⟨w.heap.size + 1, 0, none⟩ = some (.int .i64 s1) ∧ W.cell? ⟨w.heap.size + 1, 1, none⟩ = some (.slice A1 n1 c1)) (exact HKeep.out _ (by repeat (first | exact Below.refl _ _ | exact Hid.out (by assumption) | refine below_alloc ?_ _ | refine Below.setCell ?_ (by simp <;> omega) _ | refine Below.alloc ?_ (by simp <;> omega) _ | refine Below.drew ?_ | refine below_drewN ?_ _))) (first
      | (go_at_call_of 24 (Value.agg #[.int .i64 s0, .slice A0 n0 c0])
         refine (HT0.out _ (PA0_0.out.below (by repeat (first | exact Below.refl _ _ | exact Hid.out (by assumption) | refine below_alloc ?_ _ | refine Below.setCell ?_ (by simp <;> omega) _ | refine Below.alloc ?_ (by simp <;> omega) _ | refine Below.drew ?_ | refine below_drewN ?_ _)))).mono ?_
         rintro e u0 ⟨g0_u0, rfl, hg0, hg1, ho0, hb⟩
         have N_u0 := Lib.hid (show Below w2.heap.size w2 u0 from Below.trans (by repeat (first | exact Below.refl _ _ | exact Hid.out (by assumption) | refine below_alloc ?_ _ | refine Below.setCell ?_ (by simp <;> omega) _ | refine Below.alloc ?_ (by simp <;> omega) _ | refine Below.drew ?_ | refine below_drewN ?_ _)) (hb.mono (by simp)))
         have SZ_u0 := N_u0.out.size
         have B_u0 := Lib.hid (B_w2.out.trans (N_u0.out.mono B_w2.out.size))
         first | (have BX0 := Lib.hid (BoxF2.below (BoxF2.new _ _ _ _) hb); have LX0 := BX0.out.lt) | (have BX0 := Lib.hid (BoxF2.below (BoxF2.drew (BoxF2.new _ _ _ _)) hb); have LX0 := BX0.out.lt) | skip
         have K0_0 := Lib.hid ho0.cells
         clear hb hg0 hg1 ho0)
      | (go_at_call_of 24 (Value.agg #[.int .i64 s1, .slice A1 n1 c1])
         refine (HT1.out _ (PA1_0.out.below (by repeat (first | exact Below.refl _ _ | exact Hid.out (by assumption) | refine below_alloc ?_ _ | refine Below.setCell ?_ (by simp <;> omega) _ | refine Below.alloc ?_ (by simp <;> omega) _ | refine Below.drew ?_ | refine below_drewN ?_ _)))).mono ?_
         rintro e u1 ⟨g0_u1, rfl, hg0, hg1, ho0, hb⟩
         have N_u1 := Lib.hid (show Below w2.heap.size w2 u1 from Below.trans (by repeat (first | exact Below.refl _ _ | exact Hid.out (by assumption) | refine below_alloc ?_ _ | refine Below.setCell ?_ (by simp <;> omega) _ | refine Below.alloc ?_ (by simp <;> omega) _ | refine Below.drew ?_ | refine below_drewN ?_ _)) (hb.mono (by first | exact N_u0.out.size | (have := N_u0.out.size; simp; omega))))
         have SZ_u1 := N_u1.out.size
         have B_u1 := Lib.hid (B_w2.out.trans (N_u1.out.mono B_w2.out.size))
         first | (have BX1 := Lib.hid (BoxF2.below (BoxF2.new _ _ _ _) hb); have LX1 := BX1.out.lt) | (have BX1 := Lib.hid (BX0.out.below (show Below u0.heap.size u0 u1 from Below.trans (by repeat (first | exact Below.refl _ _ | exact Hid.out (by assumption) | refine below_alloc ?_ _ | refine Below.setCell ?_ (by simp <;> omega) _ | refine Below.alloc ?_ (by simp <;> omega) _ | refine Below.drew ?_ | refine below_drewN ?_ _)) (hb.mono (by simp)))); have LX1 := BX1.out.lt) | skip
         have SZB_u1 := (show Below u0.heap.size u0 u1 from Below.trans (by repeat (first | exact Below.refl _ _ | exact Hid.out (by assumption) | refine below_alloc ?_ _ | refine Below.setCell ?_ (by simp <;> omega) _ | refine Below.alloc ?_ (by simp <;> omega) _ | refine Below.drew ?_ | refine below_drewN ?_ _)) (hb.mono (by simp))).size
         have K0_0 := Lib.hid (K0_0.out.below (show Below u0.heap.size u0 u1 from Below.trans (by repeat (first | exact Below.refl _ _ | exact Hid.out (by assumption) | refine below_alloc ?_ _ | refine Below.setCell ?_ (by simp <;> omega) _ | refine Below.alloc ?_ (by simp <;> omega) _ | refine Below.drew ?_ | refine below_drewN ?_ _)) (hb.mono (by simp))))
         have K1_0 := Lib.hid ho0.cells
         clear hb hg0 hg1 ho0)
      | (go_at_call 23
         refine (HS.out _ _ _ _ _ (K0_0.out.below (by repeat (first | exact Below.refl _ _ | exact Hid.out (by assumption) | refine below_alloc ?_ _ | refine Below.setCell ?_ (by simp <;> omega) _ | refine Below.alloc ?_ (by simp <;> omega) _ | refine Below.drew ?_ | refine below_drewN ?_ _))) (K1_0.out.below (by repeat (first | exact Below.refl _ _ | exact Hid.out (by assumption) | refine below_alloc ?_ _ | refine Below.setCell ?_ (by simp <;> omega) _ | refine Below.alloc ?_ (by simp <;> omega) _ | refine Below.drew ?_ | refine below_drewN ?_ _)))).mono ?_
         rintro e u9 ⟨TA, Tc, q0, rfl, hq, hd, ho0, hb⟩
         have SQ9 : u1.heap.size ≤ q0 := by first | exact hq | (simp at hq; omega)
         first | (have BX9 := Lib.hid (BoxF2.below (BoxF2.new _ _ _ _) hb); have SP9 : u1.heap.size + 1 ≤ q0 := (by simp at hq; omega); have zb0 := BX9.out.box.c0; have zf0 := BX9.out.fz 0; have zb1 := BX9.out.box.c1; have zf1 := BX9.out.fz 1) | (have BX9 := Lib.hid (BX1.out.below (show Below u1.heap.size u1 u9 from Below.trans (by repeat (first | exact Below.refl _ _ | exact Hid.out (by assumption) | refine below_alloc ?_ _ | refine Below.setCell ?_ (by simp <;> omega) _ | refine Below.alloc ?_ (by simp <;> omega) _ | refine Below.drew ?_ | refine below_drewN ?_ _)) (hb.mono (by simp)))); have SP9 : True := trivial; have zb0 := BX9.out.box.c0; have zf0 := BX9.out.fz 0; have zb1 := BX9.out.box.c1; have zf1 := BX9.out.fz 1) | skip
         have N_u9 := Lib.hid (show Below w2.heap.size w2 u9 from Below.trans (show Below w2.heap.size w2 _ from (by repeat (first | exact Below.refl _ _ | exact Hid.out (by assumption) | refine below_alloc ?_ _ | refine Below.setCell ?_ (by simp <;> omega) _ | refine Below.alloc ?_ (by simp <;> omega) _ | refine Below.drew ?_ | refine below_drewN ?_ _))) (hb.mono (by first | exact N_u1.out.size | (have := N_u1.out.size; simp; omega))))
         have O9_0 := Lib.hid ho0
         have HQ9 := Lib.hid hd
         have SZ9 := N_u9.out.size
         clear hb hq hd ho0))
    all_goals (
      go_wp2_with fail
      go_meet
      first
        | exact ⟨_, TA, Tc, q0, rfl, rfl, by omega, ((BX9.out.set0).set1).box, by omega, HQ9.out, (own_setP' (own_setP' O9_0.out (fun _ => by omega)) (fun _ => by omega)), (by repeat (first | exact Below.refl _ _ | exact Hid.out (by assumption) | refine below_alloc ?_ _ | refine Below.setCell ?_ (by simp <;> omega) _ | refine Below.alloc ?_ (by simp <;> omega) _ | refine Below.drew ?_ | refine below_drewN ?_ _))⟩
        | exact ⟨u9.heap.size, TA, Tc, q0, rfl, rfl, by omega, Box2.new u9 _ _ _, by omega, HQ9.out, O9_0.out.below ((Below.refl _ _).alloc (Nat.le_refl _) _), (by repeat (first | exact Below.refl _ _ | exact Hid.out (by assumption) | refine below_alloc ?_ _ | refine Below.setCell ?_ (by simp <;> omega) _ | refine Below.alloc ?_ (by simp <;> omega) _ | refine Below.drew ?_ | refine below_drewN ?_ _))⟩)
  case rest =>
  obtain ⟨pU_w3, A0_w3, c0_w3, q00_w3, rfl, rfl, hpU, hbx, hq, hd, ho00, hb⟩ := hcut
  obtain ⟨w3, rfl⟩ : ∃ u, u = wc := ⟨_, rfl⟩
  have N_w3 := Lib.hid hb
  clear hb
  have B_w3 := Lib.hid (B_w2.out.trans (N_w3.out.mono B_w2.out.size))
  have S_w3 := Lib.hid (show w2.heap.size ≤ w3.heap.size from N_w3.out.size)
  clear X0a X0b X1a X1b
  have X0_w3 := Lib.hid (X0_w2.out.below N_w3.out)
  clear X0_w2
  have X1_w3 := Lib.hid (X1_w2.out.below N_w3.out)
  clear X1_w2
  have SW0_0_w3 := Lib.hid ho00
  have LSW0_0_w3 := Lib.hid (fun q => SW0_0_w3.out.lt q)
  have G_w3 := Lib.hid (hq)
  have D_w3 := Lib.hid (hd)
  clear hq hd ho00
  have U0_w3 := Lib.hid hbx
  have LU0_w3 := Lib.hid (U0_w3.out.lt)
  clear hbx hpU
  obtain ⟨X0a, X0b⟩ := X0_w3.out
  obtain ⟨X1a, X1b⟩ := X1_w3.out
  obtain ⟨U0a, U0b⟩ := U0_w3.out
  go_wp2_with fail
  refine (HT0.out _ (PA0_0.out.below (by repeat (first | exact Below.refl _ _ | exact Hid.out (by assumption) | refine below_alloc ?_ _ | refine Below.setCell ?_ (by simp <;> omega) _ | refine Below.alloc ?_ (by simp <;> omega) _ | refine Below.drew ?_ | refine below_drewN ?_ _)))).mono ?_
  rintro e w4 ⟨g0_w4, rfl, hg0, hg1, ho0, hb⟩
  have N_w4 := Lib.hid (show Below w3.heap.size w3 w4 from Below.trans (by repeat (first | exact Below.refl _ _ | exact Hid.out (by assumption) | refine below_alloc ?_ _ | refine Below.setCell ?_ (by simp <;> omega) _ | refine Below.alloc ?_ (by simp <;> omega) _ | refine Below.drew ?_ | refine below_drewN ?_ _)) (hb.mono (by simp <;> omega)))
  have B_w4 := Lib.hid (B_w3.out.trans (N_w4.out.mono B_w3.out.size))
  have S_w4 := Lib.hid (show w3.heap.size ≤ w4.heap.size from N_w4.out.size)
  clear X0a X0b X1a X1b U0a U0b
  have X0_w4 := Lib.hid (X0_w3.out.below N_w4.out)
  clear X0_w3
  have X1_w4 := Lib.hid (X1_w3.out.below N_w4.out)
  clear X1_w3
  have SW0_0_w4 := Lib.hid (SW0_0_w3.out.below N_w4.out)
  clear SW0_0_w3
  have U0_w4 := Lib.hid (U0_w3.out.below N_w4.out)
  clear U0_w3
  obtain ⟨X0a, X0b⟩ := X0_w4.out
  obtain ⟨X1a, X1b⟩ := X1_w4.out
  obtain ⟨U0a, U0b⟩ := U0_w4.out
  have Y0_0_w4 := Lib.hid ho0
  have G_w4 := Lib.hid (show w3.heap.size + 0 ≤ g0_w4 ∧ g0_w4 < w4.heap.size from ⟨by first | omega | (simp at hg0; omega), hg1⟩)
  clear hb hg0 hg1 ho0
  have X0aq := X0_w4.out.a0
  have X0bq := X0_w4.out.a1
  have X1aq := X1_w4.out.a0
  have X1bq := X1_w4.out.a1
  have U0aq := U0_w4.out.a0
  have U0bq := U0_w4.out.a1
  go_wp2_with fail
  refine (HT1.out _ (PA1_0.out.below (by repeat (first | exact Below.refl _ _ | exact Hid.out (by assumption) | refine below_alloc ?_ _ | refine Below.setCell ?_ (by simp <;> omega) _ | refine Below.alloc ?_ (by simp <;> omega) _ | refine Below.drew ?_ | refine below_drewN ?_ _)))).mono ?_
  rintro e w5 ⟨g0_w5, rfl, hg0, hg1, ho0, hb⟩
  have N_w5 := Lib.hid (show Below w4.heap.size w4 w5 from Below.trans (by repeat (first | exact Below.refl _ _ | exact Hid.out (by assumption) | refine below_alloc ?_ _ | refine Below.setCell ?_ (by simp <;> omega) _ | refine Below.alloc ?_ (by simp <;> omega) _ | refine Below.drew ?_ | refine below_drewN ?_ _)) (hb.mono (by simp <;> omega)))
  have B_w5 := Lib.hid (B_w4.out.trans (N_w5.out.mono B_w4.out.size))
  have S_w5 := Lib.hid (show w4.heap.size ≤ w5.heap.size from N_w5.out.size)
  clear X0a X0b X0aq X0bq X1a X1b X1aq X1bq U0a U0b U0aq U0bq
  have X0_w5 := Lib.hid (X0_w4.out.below N_w5.out)
  clear X0_w4
  have X1_w5 := Lib.hid (X1_w4.out.below N_w5.out)
  clear X1_w4
  have SW0_0_w5 := Lib.hid (SW0_0_w4.out.below N_w5.out)
  clear SW0_0_w4
  have U0_w5 := Lib.hid (U0_w4.out.below N_w5.out)
  clear U0_w4
  have Y0_0_w5 := Lib.hid (Y0_0_w4.out.below N_w5.out)
  clear Y0_0_w4
  have Z0_w5 := Lib.hid (Box2.below (Box2.new w4 36 (.int .i64 s0) (.slice (some ⟨g0_w4, 0, none⟩) n0 n0)) hb)
  have LZ0_w5 := Lib.hid (Z0_w5.out.lt)
  obtain ⟨X0a, X0b⟩ := X0_w5.out
  obtain ⟨X1a, X1b⟩ := X1_w5.out
  obtain ⟨U0a, U0b⟩ := U0_w5.out
  obtain ⟨Z0a, Z0b⟩ := Z0_w5.out
  have Y1_0_w5 := Lib.hid ho0
  have G_w5 := Lib.hid (show w4.heap.size + 1 ≤ g0_w5 ∧ g0_w5 < w5.heap.size from ⟨by first | omega | (simp at hg0; omega), hg1⟩)
  clear hb hg0 hg1 ho0
  have X0aq := X0_w5.out.a0
  have X0bq := X0_w5.out.a1
  have X1aq := X1_w5.out.a0
  have X1bq := X1_w5.out.a1
  have U0aq := U0_w5.out.a0
  have U0bq := U0_w5.out.a1
  have Z0aq := Z0_w5.out.a0
  have Z0bq := Z0_w5.out.a1
  go_wp2_with fail
  refine (HI.out _ _ _ _ _ (Y0_0_w5.out.cells.below (by repeat (first | exact Below.refl _ _ | exact Hid.out (by assumption) | refine below_alloc ?_ _ | refine Below.setCell ?_ (by simp <;> omega) _ | refine Below.alloc ?_ (by simp <;> omega) _ | refine Below.drew ?_ | refine below_drewN ?_ _))) (Y1_0_w5.out.cells.below (by repeat (first | exact Below.refl _ _ | exact Hid.out (by assumption) | refine below_alloc ?_ _ | refine Below.setCell ?_ (by simp <;> omega) _ | refine Below.alloc ?_ (by simp <;> omega) _ | refine Below.drew ?_ | refine below_drewN ?_ _)))).mono ?_
  rintro e w6 ⟨A0_w6, c0_w6, q00_w6, rfl, hq, hd, ho00, hb⟩
  have hq : w5.heap.size + 1 ≤ q00_w6 ∧ True := ⟨(by have := hq; first | omega | (simp at this; omega)), trivial⟩
  have N_w6 := Lib.hid (show Below w5.heap.size w5 w6 from Below.trans (by repeat (first | exact Below.refl _ _ | exact Hid.out (by assumption) | refine below_alloc ?_ _ | refine Below.setCell ?_ (by simp <;> omega) _ | refine Below.alloc ?_ (by simp <;> omega) _ | refine Below.drew ?_ | refine below_drewN ?_ _)) (hb.mono (by simp <;> omega)))
  have B_w6 := Lib.hid (B_w5.out.trans (N_w6.out.mono B_w5.out.size))
  have S_w6 := Lib.hid (show w5.heap.size ≤ w6.heap.size from N_w6.out.size)
  clear X0a X0b X0aq X0bq X1a X1b X1aq X1bq U0a U0b U0aq U0bq Z0a Z0b Z0aq Z0bq
  have X0_w6 := Lib.hid (X0_w5.out.below N_w6.out)
  clear X0_w5
  have X1_w6 := Lib.hid (X1_w5.out.below N_w6.out)
  clear X1_w5
  have SW0_0_w6 := Lib.hid (SW0_0_w5.out.below N_w6.out)
  clear SW0_0_w5
  have U0_w6 := Lib.hid (U0_w5.out.below N_w6.out)
  clear U0_w5
  have Y0_0_w6 := Lib.hid (Y0_0_w5.out.below N_w6.out)
  clear Y0_0_w5
  have Z0_w6 := Lib.hid (Z0_w5.out.below N_w6.out)
  clear Z0_w5
  have Y1_0_w6 := Lib.hid (Y1_0_w5.out.below N_w6.out)
  clear Y1_0_w5
  have Z1_w6 := Lib.hid (Box2.below (Box2.new w5 36 (.int .i64 s1) (.slice (some ⟨g0_w5, 0, none⟩) n1 n1)) hb)
  have LZ1_w6 := Lib.hid (Z1_w6.out.lt)
  obtain ⟨X0a, X0b⟩ := X0_w6.out
  obtain ⟨X1a, X1b⟩ := X1_w6.out
  obtain ⟨U0a, U0b⟩ := U0_w6.out
  obtain ⟨Z0a, Z0b⟩ := Z0_w6.out
  obtain ⟨Z1a, Z1b⟩ := Z1_w6.out
  have GW0_0_w6 := Lib.hid ho00
  have LGW0_0_w6 := Lib.hid (fun q => GW0_0_w6.out.lt q)
  have G_w6 := Lib.hid (hq)
  have D_w6 := Lib.hid (hd)
  clear hq hd ho00
  clear hb
  have X0aq := X0_w6.out.a0
  have X0bq := X0_w6.out.a1
  have X1aq := X1_w6.out.a0
  have X1bq := X1_w6.out.a1
  have U0aq := U0_w6.out.a0
  have U0bq := U0_w6.out.a1
  have Z0aq := Z0_w6.out.a0
  have Z0bq := Z0_w6.out.a1
  have Z1aq := Z1_w6.out.a0
  have Z1bq := Z1_w6.out.a1
  go_wp2_with fail
  refine (HR0.out _ _ _ _ _ (GW0_0_w6.out.cells.below (by repeat (first | exact Below.refl _ _ | exact Hid.out (by assumption) | refine below_alloc ?_ _ | refine Below.setCell ?_ (by simp <;> omega) _ | refine Below.alloc ?_ (by simp <;> omega) _ | refine Below.drew ?_ | refine below_drewN ?_ _))) (SW0_0_w6.out.cells.below (by repeat (first | exact Below.refl _ _ | exact Hid.out (by assumption) | refine below_alloc ?_ _ | refine Below.setCell ?_ (by simp <;> omega) _ | refine Below.alloc ?_ (by simp <;> omega) _ | refine Below.drew ?_ | refine below_drewN ?_ _)))).mono ?_
  rintro e w7 ⟨rfl, hb⟩
  have N_w7 := Lib.hid (show Below w6.heap.size w6 w7 from Below.trans (by repeat (first | exact Below.refl _ _ | exact Hid.out (by assumption) | refine below_alloc ?_ _ | refine Below.setCell ?_ (by simp <;> omega) _ | refine Below.alloc ?_ (by simp <;> omega) _ | refine Below.drew ?_ | refine below_drewN ?_ _)) (hb.mono (by simp <;> omega)))
  have B_w7 := Lib.hid (B_w6.out.trans (N_w7.out.mono B_w6.out.size))
  have S_w7 := Lib.hid (show w6.heap.size ≤ w7.heap.size from N_w7.out.size)
  clear X0a X0b X0aq X0bq X1a X1b X1aq X1bq U0a U0b U0aq U0bq Z0a Z0b Z0aq Z0bq Z1a Z1b Z1aq Z1bq
  have X0_w7 := Lib.hid (X0_w6.out.below N_w7.out)
  clear X0_w6
  have X1_w7 := Lib.hid (X1_w6.out.below N_w7.out)
  clear X1_w6
  have SW0_0_w7 := Lib.hid (SW0_0_w6.out.below N_w7.out)
  clear SW0_0_w6
  have U0_w7 := Lib.hid (U0_w6.out.below N_w7.out)
  clear U0_w6
  have Y0_0_w7 := Lib.hid (Y0_0_w6.out.below N_w7.out)
  clear Y0_0_w6
  have Z0_w7 := Lib.hid (Z0_w6.out.below N_w7.out)
  clear Z0_w6
  have Y1_0_w7 := Lib.hid (Y1_0_w6.out.below N_w7.out)
  clear Y1_0_w6
  have Z1_w7 := Lib.hid (Z1_w6.out.below N_w7.out)
  clear Z1_w6
  have GW0_0_w7 := Lib.hid (GW0_0_w6.out.below N_w7.out)
  clear GW0_0_w6
  have V0_w7 := Lib.hid (Box2.below (Box2.new w6 36 (.int .i64 Rs0) (.slice A0_w6 Rn0 c0_w6)) hb)
  have LV0_w7 := Lib.hid (V0_w7.out.lt)
  obtain ⟨X0a, X0b⟩ := X0_w7.out
  obtain ⟨X1a, X1b⟩ := X1_w7.out
  obtain ⟨U0a, U0b⟩ := U0_w7.out
  obtain ⟨Z0a, Z0b⟩ := Z0_w7.out
  obtain ⟨Z1a, Z1b⟩ := Z1_w7.out
  obtain ⟨V0a, V0b⟩ := V0_w7.out
  clear hb
  go_upto_region 14 with fail
  go_cut [58] from 54 to 58 (fun s wx => s = .bool false ∧ Below w7.heap.size w7 wx)
  case first =>
    go_region_with (first
      | (go_at_call 24
         refine (HT0.out _ (PA0_0.out.below (by repeat (first | exact Below.refl _ _ | exact Hid.out (by assumption) | refine below_alloc ?_ _ | refine Below.setCell ?_ (by simp <;> omega) _ | refine Below.alloc ?_ (by simp <;> omega) _ | refine Below.drew ?_ | refine below_drewN ?_ _)))).mono ?_
         rintro e u1 ⟨g0_u1, rfl, hg0, hg1, ho0, hb⟩
         have N_u1 := Lib.hid (show Below w7.heap.size w7 u1 from Below.trans (by repeat (first | exact Below.refl _ _ | exact Hid.out (by assumption) | refine below_alloc ?_ _ | refine Below.setCell ?_ (by simp <;> omega) _ | refine Below.alloc ?_ (by simp <;> omega) _ | refine Below.drew ?_ | refine below_drewN ?_ _)) (hb.mono (by simp)))
         have K_0 := Lib.hid ho0.cells
         obtain ⟨zZ0a, zZ0b⟩ := Z0_w7.out.below N_u1.out
         clear hb ho0)
      | (go_at_call 26
         refine (HE0.out _ _ _ _ _ (Y0_0_w7.out.cells.below (by repeat (first | exact Below.refl _ _ | exact Hid.out (by assumption) | refine below_alloc ?_ _ | refine Below.setCell ?_ (by simp <;> omega) _ | refine Below.alloc ?_ (by simp <;> omega) _ | refine Below.drew ?_ | refine below_drewN ?_ _))) (K_0.out.below (by repeat (first | exact Below.refl _ _ | exact Hid.out (by assumption) | refine below_alloc ?_ _ | refine Below.setCell ?_ (by simp <;> omega) _ | refine Below.alloc ?_ (by simp <;> omega) _ | refine Below.drew ?_ | refine below_drewN ?_ _)))).mono ?_
         rintro e u2 ⟨rfl, hb⟩
         have N_u2 := Lib.hid (show Below w7.heap.size w7 u2 from Below.trans (show Below w7.heap.size w7 _ from (by repeat (first | exact Below.refl _ _ | exact Hid.out (by assumption) | refine below_alloc ?_ _ | refine Below.setCell ?_ (by simp <;> omega) _ | refine Below.alloc ?_ (by simp <;> omega) _ | refine Below.drew ?_ | refine below_drewN ?_ _))) (hb.mono (by first | exact N_u1.out.size | simp [N_u1.out.size])))
         clear hb))
    all_goals (go_wp2_with fail; go_meet; exact ⟨rfl, N_u2.out⟩)
  case rest =>
  obtain ⟨rfl, hb⟩ := hcut
  obtain ⟨w8, rfl⟩ : ∃ u, u = wc := ⟨_, rfl⟩
  have N_w8 := Lib.hid hb
  clear hb
  have B_w8 := Lib.hid (B_w7.out.trans (N_w8.out.mono B_w7.out.size))
  have S_w8 := Lib.hid (show w7.heap.size ≤ w8.heap.size from N_w8.out.size)
  clear X0a X0b X1a X1b U0a U0b Z0a Z0b Z1a Z1b V0a V0b
  have X0_w8 := Lib.hid (X0_w7.out.below N_w8.out)
  clear X0_w7
  have X1_w8 := Lib.hid (X1_w7.out.below N_w8.out)
  clear X1_w7
  have SW0_0_w8 := Lib.hid (SW0_0_w7.out.below N_w8.out)
  clear SW0_0_w7
  have U0_w8 := Lib.hid (U0_w7.out.below N_w8.out)
  clear U0_w7
  have Y0_0_w8 := Lib.hid (Y0_0_w7.out.below N_w8.out)
  clear Y0_0_w7
  have Z0_w8 := Lib.hid (Z0_w7.out.below N_w8.out)
  clear Z0_w7
  have Y1_0_w8 := Lib.hid (Y1_0_w7.out.below N_w8.out)
  clear Y1_0_w7
  have Z1_w8 := Lib.hid (Z1_w7.out.below N_w8.out)
  clear Z1_w7
  have GW0_0_w8 := Lib.hid (GW0_0_w7.out.below N_w8.out)
  clear GW0_0_w7
  have V0_w8 := Lib.hid (V0_w7.out.below N_w8.out)
  clear V0_w7
  obtain ⟨X0a, X0b⟩ := X0_w8.out
  obtain ⟨X1a, X1b⟩ := X1_w8.out
  obtain ⟨U0a, U0b⟩ := U0_w8.out
  obtain ⟨Z0a, Z0b⟩ := Z0_w8.out
  obtain ⟨Z1a, Z1b⟩ := Z1_w8.out
  obtain ⟨V0a, V0b⟩ := V0_w8.out
  go_upto_region 16 with fail
  go_cut [63] from 59 to 63 (fun s wx => s = .bool false ∧ Below w8.heap.size w8 wx)
  case first =>
    go_region_with (first
      | (go_at_call 24
         refine (HT1.out _ (PA1_0.out.below (by repeat (first | exact Below.refl _ _ | exact Hid.out (by assumption) | refine below_alloc ?_ _ | refine Below.setCell ?_ (by simp <;> omega) _ | refine Below.alloc ?_ (by simp <;> omega) _ | refine Below.drew ?_ | refine below_drewN ?_ _)))).mono ?_
         rintro e u1 ⟨g0_u1, rfl, hg0, hg1, ho0, hb⟩
         have N_u1 := Lib.hid (show Below w8.heap.size w8 u1 from Below.trans (by repeat (first | exact Below.refl _ _ | exact Hid.out (by assumption) | refine below_alloc ?_ _ | refine Below.setCell ?_ (by simp <;> omega) _ | refine Below.alloc ?_ (by simp <;> omega) _ | refine Below.drew ?_ | refine below_drewN ?_ _)) (hb.mono (by simp)))
         have K_0 := Lib.hid ho0.cells
         obtain ⟨zZ1a, zZ1b⟩ := Z1_w8.out.below N_u1.out
         clear hb ho0)
      | (go_at_call 26
         refine (HE1.out _ _ _ _ _ (Y1_0_w8.out.cells.below (by repeat (first | exact Below.refl _ _ | exact Hid.out (by assumption) | refine below_alloc ?_ _ | refine Below.setCell ?_ (by simp <;> omega) _ | refine Below.alloc ?_ (by simp <;> omega) _ | refine Below.drew ?_ | refine below_drewN ?_ _))) (K_0.out.below (by repeat (first | exact Below.refl _ _ | exact Hid.out (by assumption) | refine below_alloc ?_ _ | refine Below.setCell ?_ (by simp <;> omega) _ | refine Below.alloc ?_ (by simp <;> omega) _ | refine Below.drew ?_ | refine below_drewN ?_ _)))).mono ?_
         rintro e u2 ⟨rfl, hb⟩
         have N_u2 := Lib.hid (show Below w8.heap.size w8 u2 from Below.trans (show Below w8.heap.size w8 _ from (by repeat (first | exact Below.refl _ _ | exact Hid.out (by assumption) | refine below_alloc ?_ _ | refine Below.setCell ?_ (by simp <;> omega) _ | refine Below.alloc ?_ (by simp <;> omega) _ | refine Below.drew ?_ | refine below_drewN ?_ _))) (hb.mono (by first | exact N_u1.out.size | simp [N_u1.out.size])))
         clear hb))
    all_goals (go_wp2_with fail; go_meet; exact ⟨rfl, N_u2.out⟩)
  case rest =>
  obtain ⟨rfl, hb⟩ := hcut
  obtain ⟨w9, rfl⟩ : ∃ u, u = wc := ⟨_, rfl⟩
  have N_w9 := Lib.hid hb
  clear hb
  have B_w9 := Lib.hid (B_w8.out.trans (N_w9.out.mono B_w8.out.size))
  have S_w9 := Lib.hid (show w8.heap.size ≤ w9.heap.size from N_w9.out.size)
  clear X0a X0b X1a X1b U0a U0b Z0a Z0b Z1a Z1b V0a V0b
  have X0_w9 := Lib.hid (X0_w8.out.below N_w9.out)
  clear X0_w8
  have X1_w9 := Lib.hid (X1_w8.out.below N_w9.out)
  clear X1_w8
  have SW0_0_w9 := Lib.hid (SW0_0_w8.out.below N_w9.out)
  clear SW0_0_w8
  have U0_w9 := Lib.hid (U0_w8.out.below N_w9.out)
  clear U0_w8
  have Y0_0_w9 := Lib.hid (Y0_0_w8.out.below N_w9.out)
  clear Y0_0_w8
  have Z0_w9 := Lib.hid (Z0_w8.out.below N_w9.out)
  clear Z0_w8
  have Y1_0_w9 := Lib.hid (Y1_0_w8.out.below N_w9.out)
  clear Y1_0_w8
  have Z1_w9 := Lib.hid (Z1_w8.out.below N_w9.out)
  clear Z1_w8
  have GW0_0_w9 := Lib.hid (GW0_0_w8.out.below N_w9.out)
  clear GW0_0_w8
  have V0_w9 := Lib.hid (V0_w8.out.below N_w9.out)
  clear V0_w8
  obtain ⟨X0a, X0b⟩ := X0_w9.out
  obtain ⟨X1a, X1b⟩ := X1_w9.out
  obtain ⟨U0a, U0b⟩ := U0_w9.out
  obtain ⟨Z0a, Z0b⟩ := Z0_w9.out
  obtain ⟨Z1a, Z1b⟩ := Z1_w9.out
  obtain ⟨V0a, V0b⟩ := V0_w9.out
  go_wp2_with fail
  refine (markZone_any s0 (some ⟨g0_w4, 0, none⟩) n0 n0 g0_w4 _ 1 _ (by omega) (by omega) (Y0_0_w9.out.below (by repeat (first | exact Below.refl _ _ | exact Hid.out (by assumption) | refine below_alloc ?_ _ | refine Below.setCell ?_ (by simp <;> omega) _ | refine Below.alloc ?_ (by simp <;> omega) _ | refine Below.drew ?_ | refine below_drewN ?_ _))) ).mono ?_
  rintro e w10 ⟨rfl, hm0, hw⟩
  have N_w10 := Lib.hid (show Within (w3.heap.size + 0) (w4.heap.size) w9 w10 from hw _ _ (by have o0 := S_w1.out; have o1 := S_w2.out; have o2 := S_w3.out; have o3 := S_w4.out; have o4 := S_w5.out; have o5 := S_w6.out; have o6 := S_w7.out; have o7 := S_w8.out; have o8 := S_w9.out; have o9 := LX0_w1.out; have o10 := LX1_w1.out; have o11 := LSW0_0_w3.out; have o12 := G_w3.out; have o13 := D_w3.out; have o14 := LU0_w3.out; have o15 := G_w4.out; have o16 := LZ0_w5.out; have o17 := G_w5.out; have o18 := LZ1_w6.out; have o19 := LGW0_0_w6.out; have o20 := G_w6.out; have o21 := D_w6.out; have o22 := LV0_w7.out; omega) (fun q => by have o0 := S_w1.out; have o1 := S_w2.out; have o2 := S_w3.out; have o3 := S_w4.out; have o4 := S_w5.out; have o5 := S_w6.out; have o6 := S_w7.out; have o7 := S_w8.out; have o8 := S_w9.out; have o9 := LX0_w1.out; have o10 := LX1_w1.out; have o11 := LSW0_0_w3.out; have o12 := G_w3.out; have o13 := D_w3.out; have o14 := LU0_w3.out; have o15 := G_w4.out; have o16 := LZ0_w5.out; have o17 := G_w5.out; have o18 := LZ1_w6.out; have o19 := LGW0_0_w6.out; have o20 := G_w6.out; have o21 := D_w6.out; have o22 := LV0_w7.out; omega))
  clear hw
  have B_w10 := Lib.hid (B_w9.out.trans (Within.below N_w10.out (by have o0 := S_w1.out; have o1 := S_w2.out; have o2 := S_w3.out; have o3 := S_w4.out; have o4 := S_w5.out; have o5 := S_w6.out; have o6 := S_w7.out; have o7 := S_w8.out; have o8 := S_w9.out; have o9 := LX0_w1.out; have o10 := LX1_w1.out; have o11 := LSW0_0_w3.out; have o12 := G_w3.out; have o13 := D_w3.out; have o14 := LU0_w3.out; have o15 := G_w4.out; have o16 := LZ0_w5.out; have o17 := G_w5.out; have o18 := LZ1_w6.out; have o19 := LGW0_0_w6.out; have o20 := G_w6.out; have o21 := D_w6.out; have o22 := LV0_w7.out; omega) (by have o0 := S_w1.out; have o1 := S_w2.out; have o2 := S_w3.out; have o3 := S_w4.out; have o4 := S_w5.out; have o5 := S_w6.out; have o6 := S_w7.out; have o7 := S_w8.out; have o8 := S_w9.out; have o9 := LX0_w1.out; have o10 := LX1_w1.out; have o11 := LSW0_0_w3.out; have o12 := G_w3.out; have o13 := D_w3.out; have o14 := LU0_w3.out; have o15 := G_w4.out; have o16 := LZ0_w5.out; have o17 := G_w5.out; have o18 := LZ1_w6.out; have o19 := LGW0_0_w6.out; have o20 := G_w6.out; have o21 := D_w6.out; have o22 := LV0_w7.out; omega)))
  have S_w10 := Lib.hid (show w9.heap.size ≤ w10.heap.size from N_w10.out.size)
  clear X0a X0b X1a X1b U0a U0b Z0a Z0b Z1a Z1b V0a V0b
  have X0_w10 := Lib.hid (X0_w9.out.within N_w10.out (by have o0 := S_w1.out; have o1 := S_w2.out; have o2 := S_w3.out; have o3 := S_w4.out; have o4 := S_w5.out; have o5 := S_w6.out; have o6 := S_w7.out; have o7 := S_w8.out; have o8 := S_w9.out; have o9 := S_w10.out; have o10 := LX0_w1.out; have o11 := LX1_w1.out; have o12 := LSW0_0_w3.out; have o13 := G_w3.out; have o14 := D_w3.out; have o15 := LU0_w3.out; have o16 := G_w4.out; have o17 := LZ0_w5.out; have o18 := G_w5.out; have o19 := LZ1_w6.out; have o20 := LGW0_0_w6.out; have o21 := G_w6.out; have o22 := D_w6.out; have o23 := LV0_w7.out; omega))
  clear X0_w9
  have X1_w10 := Lib.hid (X1_w9.out.within N_w10.out (by have o0 := S_w1.out; have o1 := S_w2.out; have o2 := S_w3.out; have o3 := S_w4.out; have o4 := S_w5.out; have o5 := S_w6.out; have o6 := S_w7.out; have o7 := S_w8.out; have o8 := S_w9.out; have o9 := S_w10.out; have o10 := LX0_w1.out; have o11 := LX1_w1.out; have o12 := LSW0_0_w3.out; have o13 := G_w3.out; have o14 := D_w3.out; have o15 := LU0_w3.out; have o16 := G_w4.out; have o17 := LZ0_w5.out; have o18 := G_w5.out; have o19 := LZ1_w6.out; have o20 := LGW0_0_w6.out; have o21 := G_w6.out; have o22 := D_w6.out; have o23 := LV0_w7.out; omega))
  clear X1_w9
  have SW0_0_w10 := Lib.hid (OwnC.within SW0_0_w9.out N_w10.out (fun q => by have o0 := S_w1.out; have o1 := S_w2.out; have o2 := S_w3.out; have o3 := S_w4.out; have o4 := S_w5.out; have o5 := S_w6.out; have o6 := S_w7.out; have o7 := S_w8.out; have o8 := S_w9.out; have o9 := S_w10.out; have o10 := LX0_w1.out; have o11 := LX1_w1.out; have o12 := LSW0_0_w3.out; have o13 := G_w3.out; have o14 := D_w3.out; have o15 := LU0_w3.out; have o16 := G_w4.out; have o17 := LZ0_w5.out; have o18 := G_w5.out; have o19 := LZ1_w6.out; have o20 := LGW0_0_w6.out; have o21 := G_w6.out; have o22 := D_w6.out; have o23 := LV0_w7.out; omega))
  clear SW0_0_w9
  have U0_w10 := Lib.hid (U0_w9.out.within N_w10.out (by have o0 := S_w1.out; have o1 := S_w2.out; have o2 := S_w3.out; have o3 := S_w4.out; have o4 := S_w5.out; have o5 := S_w6.out; have o6 := S_w7.out; have o7 := S_w8.out; have o8 := S_w9.out; have o9 := S_w10.out; have o10 := LX0_w1.out; have o11 := LX1_w1.out; have o12 := LSW0_0_w3.out; have o13 := G_w3.out; have o14 := D_w3.out; have o15 := LU0_w3.out; have o16 := G_w4.out; have o17 := LZ0_w5.out; have o18 := G_w5.out; have o19 := LZ1_w6.out; have o20 := LGW0_0_w6.out; have o21 := G_w6.out; have o22 := D_w6.out; have o23 := LV0_w7.out; omega))
  clear U0_w9
  clear Y0_0_w9
  clear Z0_w9
  have Y1_0_w10 := Lib.hid (OwnC.within Y1_0_w9.out N_w10.out (fun q => by have o0 := S_w1.out; have o1 := S_w2.out; have o2 := S_w3.out; have o3 := S_w4.out; have o4 := S_w5.out; have o5 := S_w6.out; have o6 := S_w7.out; have o7 := S_w8.out; have o8 := S_w9.out; have o9 := S_w10.out; have o10 := LX0_w1.out; have o11 := LX1_w1.out; have o12 := LSW0_0_w3.out; have o13 := G_w3.out; have o14 := D_w3.out; have o15 := LU0_w3.out; have o16 := G_w4.out; have o17 := LZ0_w5.out; have o18 := G_w5.out; have o19 := LZ1_w6.out; have o20 := LGW0_0_w6.out; have o21 := G_w6.out; have o22 := D_w6.out; have o23 := LV0_w7.out; omega))
  clear Y1_0_w9
  have Z1_w10 := Lib.hid (Z1_w9.out.within N_w10.out (by have o0 := S_w1.out; have o1 := S_w2.out; have o2 := S_w3.out; have o3 := S_w4.out; have o4 := S_w5.out; have o5 := S_w6.out; have o6 := S_w7.out; have o7 := S_w8.out; have o8 := S_w9.out; have o9 := S_w10.out; have o10 := LX0_w1.out; have o11 := LX1_w1.out; have o12 := LSW0_0_w3.out; have o13 := G_w3.out; have o14 := D_w3.out; have o15 := LU0_w3.out; have o16 := G_w4.out; have o17 := LZ0_w5.out; have o18 := G_w5.out; have o19 := LZ1_w6.out; have o20 := LGW0_0_w6.out; have o21 := G_w6.out; have o22 := D_w6.out; have o23 := LV0_w7.out; omega))
  clear Z1_w9
  have GW0_0_w10 := Lib.hid (OwnC.within GW0_0_w9.out N_w10.out (fun q => by have o0 := S_w1.out; have o1 := S_w2.out; have o2 := S_w3.out; have o3 := S_w4.out; have o4 := S_w5.out; have o5 := S_w6.out; have o6 := S_w7.out; have o7 := S_w8.out; have o8 := S_w9.out; have o9 := S_w10.out; have o10 := LX0_w1.out; have o11 := LX1_w1.out; have o12 := LSW0_0_w3.out; have o13 := G_w3.out; have o14 := D_w3.out; have o15 := LU0_w3.out; have o16 := G_w4.out; have o17 := LZ0_w5.out; have o18 := G_w5.out; have o19 := LZ1_w6.out; have o20 := LGW0_0_w6.out; have o21 := G_w6.out; have o22 := D_w6.out; have o23 := LV0_w7.out; omega))
  clear GW0_0_w9
  have V0_w10 := Lib.hid (V0_w9.out.within N_w10.out (by have o0 := S_w1.out; have o1 := S_w2.out; have o2 := S_w3.out; have o3 := S_w4.out; have o4 := S_w5.out; have o5 := S_w6.out; have o6 := S_w7.out; have o7 := S_w8.out; have o8 := S_w9.out; have o9 := S_w10.out; have o10 := LX0_w1.out; have o11 := LX1_w1.out; have o12 := LSW0_0_w3.out; have o13 := G_w3.out; have o14 := D_w3.out; have o15 := LU0_w3.out; have o16 := G_w4.out; have o17 := LZ0_w5.out; have o18 := G_w5.out; have o19 := LZ1_w6.out; have o20 := LGW0_0_w6.out; have o21 := G_w6.out; have o22 := D_w6.out; have o23 := LV0_w7.out; omega))
  clear V0_w9
  clear hm0
  obtain ⟨X0a, X0b⟩ := X0_w10.out
  obtain ⟨X1a, X1b⟩ := X1_w10.out
  obtain ⟨U0a, U0b⟩ := U0_w10.out
  obtain ⟨Z1a, Z1b⟩ := Z1_w10.out
  obtain ⟨V0a, V0b⟩ := V0_w10.out
  go_wp2_with fail
  refine (markZone_any s1 (some ⟨g0_w5, 0, none⟩) n1 n1 g0_w5 _ (1 + (n0 : Int)) _ (by omega) (by omega) (Y1_0_w10.out.below (by repeat (first | exact Below.refl _ _ | exact Hid.out (by assumption) | refine below_alloc ?_ _ | refine Below.setCell ?_ (by simp <;> omega) _ | refine Below.alloc ?_ (by simp <;> omega) _ | refine Below.drew ?_ | refine below_drewN ?_ _))) ).mono ?_
  rintro e w11 ⟨rfl, hm0, hw⟩
  have N_w11 := Lib.hid (show Within (w4.heap.size + 1) (w5.heap.size) w10 w11 from hw _ _ (by have o0 := S_w1.out; have o1 := S_w2.out; have o2 := S_w3.out; have o3 := S_w4.out; have o4 := S_w5.out; have o5 := S_w6.out; have o6 := S_w7.out; have o7 := S_w8.out; have o8 := S_w9.out; have o9 := S_w10.out; have o10 := LX0_w1.out; have o11 := LX1_w1.out; have o12 := LSW0_0_w3.out; have o13 := G_w3.out; have o14 := D_w3.out; have o15 := LU0_w3.out; have o16 := G_w4.out; have o17 := LZ0_w5.out; have o18 := G_w5.out; have o19 := LZ1_w6.out; have o20 := LGW0_0_w6.out; have o21 := G_w6.out; have o22 := D_w6.out; have o23 := LV0_w7.out; omega) (fun q => by have o0 := S_w1.out; have o1 := S_w2.out; have o2 := S_w3.out; have o3 := S_w4.out; have o4 := S_w5.out; have o5 := S_w6.out; have o6 := S_w7.out; have o7 := S_w8.out; have o8 := S_w9.out; have o9 := S_w10.out; have o10 := LX0_w1.out; have o11 := LX1_w1.out; have o12 := LSW0_0_w3.out; have o13 := G_w3.out; have o14 := D_w3.out; have o15 := LU0_w3.out; have o16 := G_w4.out; have o17 := LZ0_w5.out; have o18 := G_w5.out; have o19 := LZ1_w6.out; have o20 := LGW0_0_w6.out; have o21 := G_w6.out; have o22 := D_w6.out; have o23 := LV0_w7.out; omega))
  clear hw
  have B_w11 := Lib.hid (B_w10.out.trans (Within.below N_w11.out (by have o0 := S_w1.out; have o1 := S_w2.out; have o2 := S_w3.out; have o3 := S_w4.out; have o4 := S_w5.out; have o5 := S_w6.out; have o6 := S_w7.out; have o7 := S_w8.out; have o8 := S_w9.out; have o9 := S_w10.out; have o10 := LX0_w1.out; have o11 := LX1_w1.out; have o12 := LSW0_0_w3.out; have o13 := G_w3.out; have o14 := D_w3.out; have o15 := LU0_w3.out; have o16 := G_w4.out; have o17 := LZ0_w5.out; have o18 := G_w5.out; have o19 := LZ1_w6.out; have o20 := LGW0_0_w6.out; have o21 := G_w6.out; have o22 := D_w6.out; have o23 := LV0_w7.out; omega) (by have o0 := S_w1.out; have o1 := S_w2.out; have o2 := S_w3.out; have o3 := S_w4.out; have o4 := S_w5.out; have o5 := S_w6.out; have o6 := S_w7.out; have o7 := S_w8.out; have o8 := S_w9.out; have o9 := S_w10.out; have o10 := LX0_w1.out; have o11 := LX1_w1.out; have o12 := LSW0_0_w3.out; have o13 := G_w3.out; have o14 := D_w3.out; have o15 := LU0_w3.out; have o16 := G_w4.out; have o17 := LZ0_w5.out; have o18 := G_w5.out; have o19 := LZ1_w6.out; have o20 := LGW0_0_w6.out; have o21 := G_w6.out; have o22 := D_w6.out; have o23 := LV0_w7.out; omega)))
  have S_w11 := Lib.hid (show w10.heap.size ≤ w11.heap.size from N_w11.out.size)
  clear X0a X0b X1a X1b U0a U0b Z1a Z1b V0a V0b
  have X0_w11 := Lib.hid (X0_w10.out.within N_w11.out (by have o0 := S_w1.out; have o1 := S_w2.out; have o2 := S_w3.out; have o3 := S_w4.out; have o4 := S_w5.out; have o5 := S_w6.out; have o6 := S_w7.out; have o7 := S_w8.out; have o8 := S_w9.out; have o9 := S_w10.out; have o10 := S_w11.out; have o11 := LX0_w1.out; have o12 := LX1_w1.out; have o13 := LSW0_0_w3.out; have o14 := G_w3.out; have o15 := D_w3.out; have o16 := LU0_w3.out; have o17 := G_w4.out; have o18 := LZ0_w5.out; have o19 := G_w5.out; have o20 := LZ1_w6.out; have o21 := LGW0_0_w6.out; have o22 := G_w6.out; have o23 := D_w6.out; have o24 := LV0_w7.out; omega))
  clear X0_w10
  have X1_w11 := Lib.hid (X1_w10.out.within N_w11.out (by have o0 := S_w1.out; have o1 := S_w2.out; have o2 := S_w3.out; have o3 := S_w4.out; have o4 := S_w5.out; have o5 := S_w6.out; have o6 := S_w7.out; have o7 := S_w8.out; have o8 := S_w9.out; have o9 := S_w10.out; have o10 := S_w11.out; have o11 := LX0_w1.out; have o12 := LX1_w1.out; have o13 := LSW0_0_w3.out; have o14 := G_w3.out; have o15 := D_w3.out; have o16 := LU0_w3.out; have o17 := G_w4.out; have o18 := LZ0_w5.out; have o19 := G_w5.out; have o20 := LZ1_w6.out; have o21 := LGW0_0_w6.out; have o22 := G_w6.out; have o23 := D_w6.out; have o24 := LV0_w7.out; omega))
  clear X1_w10
  have SW0_0_w11 := Lib.hid (OwnC.within SW0_0_w10.out N_w11.out (fun q => by have o0 := S_w1.out; have o1 := S_w2.out; have o2 := S_w3.out; have o3 := S_w4.out; have o4 := S_w5.out; have o5 := S_w6.out; have o6 := S_w7.out; have o7 := S_w8.out; have o8 := S_w9.out; have o9 := S_w10.out; have o10 := S_w11.out; have o11 := LX0_w1.out; have o12 := LX1_w1.out; have o13 := LSW0_0_w3.out; have o14 := G_w3.out; have o15 := D_w3.out; have o16 := LU0_w3.out; have o17 := G_w4.out; have o18 := LZ0_w5.out; have o19 := G_w5.out; have o20 := LZ1_w6.out; have o21 := LGW0_0_w6.out; have o22 := G_w6.out; have o23 := D_w6.out; have o24 := LV0_w7.out; omega))
  clear SW0_0_w10
  have U0_w11 := Lib.hid (U0_w10.out.within N_w11.out (by have o0 := S_w1.out; have o1 := S_w2.out; have o2 := S_w3.out; have o3 := S_w4.out; have o4 := S_w5.out; have o5 := S_w6.out; have o6 := S_w7.out; have o7 := S_w8.out; have o8 := S_w9.out; have o9 := S_w10.out; have o10 := S_w11.out; have o11 := LX0_w1.out; have o12 := LX1_w1.out; have o13 := LSW0_0_w3.out; have o14 := G_w3.out; have o15 := D_w3.out; have o16 := LU0_w3.out; have o17 := G_w4.out; have o18 := LZ0_w5.out; have o19 := G_w5.out; have o20 := LZ1_w6.out; have o21 := LGW0_0_w6.out; have o22 := G_w6.out; have o23 := D_w6.out; have o24 := LV0_w7.out; omega))
  clear U0_w10
  clear Y1_0_w10
  clear Z1_w10
  have GW0_0_w11 := Lib.hid (OwnC.within GW0_0_w10.out N_w11.out (fun q => by have o0 := S_w1.out; have o1 := S_w2.out; have o2 := S_w3.out; have o3 := S_w4.out; have o4 := S_w5.out; have o5 := S_w6.out; have o6 := S_w7.out; have o7 := S_w8.out; have o8 := S_w9.out; have o9 := S_w10.out; have o10 := S_w11.out; have o11 := LX0_w1.out; have o12 := LX1_w1.out; have o13 := LSW0_0_w3.out; have o14 := G_w3.out; have o15 := D_w3.out; have o16 := LU0_w3.out; have o17 := G_w4.out; have o18 := LZ0_w5.out; have o19 := G_w5.out; have o20 := LZ1_w6.out; have o21 := LGW0_0_w6.out; have o22 := G_w6.out; have o23 := D_w6.out; have o24 := LV0_w7.out; omega))
  clear GW0_0_w10
  have V0_w11 := Lib.hid (V0_w10.out.within N_w11.out (by have o0 := S_w1.out; have o1 := S_w2.out; have o2 := S_w3.out; have o3 := S_w4.out; have o4 := S_w5.out; have o5 := S_w6.out; have o6 := S_w7.out; have o7 := S_w8.out; have o8 := S_w9.out; have o9 := S_w10.out; have o10 := S_w11.out; have o11 := LX0_w1.out; have o12 := LX1_w1.out; have o13 := LSW0_0_w3.out; have o14 := G_w3.out; have o15 := D_w3.out; have o16 := LU0_w3.out; have o17 := G_w4.out; have o18 := LZ0_w5.out; have o19 := G_w5.out; have o20 := LZ1_w6.out; have o21 := LGW0_0_w6.out; have o22 := G_w6.out; have o23 := D_w6.out; have o24 := LV0_w7.out; omega))
  clear V0_w10
  clear hm0
  obtain ⟨X0a, X0b⟩ := X0_w11.out
  obtain ⟨X1a, X1b⟩ := X1_w11.out
  obtain ⟨U0a, U0b⟩ := U0_w11.out
  obtain ⟨V0a, V0b⟩ := V0_w11.out
  have hk0 : ¬ ((1 + (n0 : Int)) + (n1 : Int)) < 0 := by omega
  go_wp2_with fail
  refine (HR0.out _ _ _ _ _ (GW0_0_w11.out.cells.below (by repeat (first | exact Below.refl _ _ | exact Hid.out (by assumption) | refine below_alloc ?_ _ | refine Below.setCell ?_ (by simp <;> omega) _ | refine Below.alloc ?_ (by simp <;> omega) _ | refine Below.drew ?_ | refine below_drewN ?_ _))) (SW0_0_w11.out.cells.below (by repeat (first | exact Below.refl _ _ | exact Hid.out (by assumption) | refine below_alloc ?_ _ | refine Below.setCell ?_ (by simp <;> omega) _ | refine Below.alloc ?_ (by simp <;> omega) _ | refine Below.drew ?_ | refine below_drewN ?_ _)))).mono ?_
  rintro e w12 ⟨rfl, hb⟩
  have N_w12 := Lib.hid (show Below w11.heap.size w11 w12 from Below.trans (by repeat (first | exact Below.refl _ _ | exact Hid.out (by assumption) | refine below_alloc ?_ _ | refine Below.setCell ?_ (by simp <;> omega) _ | refine Below.alloc ?_ (by simp <;> omega) _ | refine Below.drew ?_ | refine below_drewN ?_ _)) (hb.mono (by simp <;> omega)))
  have B_w12 := Lib.hid (B_w11.out.trans (N_w12.out.mono B_w11.out.size))
  have S_w12 := Lib.hid (show w11.heap.size ≤ w12.heap.size from N_w12.out.size)
  clear X0a X0b X1a X1b U0a U0b V0a V0b
  have X0_w12 := Lib.hid (X0_w11.out.below N_w12.out)
  clear X0_w11
  have X1_w12 := Lib.hid (X1_w11.out.below N_w12.out)
  clear X1_w11
  have SW0_0_w12 := Lib.hid (SW0_0_w11.out.below N_w12.out)
  clear SW0_0_w11
  have U0_w12 := Lib.hid (U0_w11.out.below N_w12.out)
  clear U0_w11
  have GW0_0_w12 := Lib.hid (GW0_0_w11.out.below N_w12.out)
  clear GW0_0_w11
  have V0_w12 := Lib.hid (V0_w11.out.below N_w12.out)
  clear V0_w11
  obtain ⟨X0a, X0b⟩ := X0_w12.out
  obtain ⟨X1a, X1b⟩ := X1_w12.out
  obtain ⟨U0a, U0b⟩ := U0_w12.out
  obtain ⟨V0a, V0b⟩ := V0_w12.out
  clear hb
  go_wp2_with fail
  refine (markZone_any Rs0 (A0_w6) Rn0 c0_w6 q00_w6 _ 1 _ (by omega) (by omega) (GW0_0_w12.out.below (by repeat (first | exact Below.refl _ _ | exact Hid.out (by assumption) | refine below_alloc ?_ _ | refine Below.setCell ?_ (by simp <;> omega) _ | refine Below.alloc ?_ (by simp <;> omega) _ | refine Below.drew ?_ | refine below_drewN ?_ _))) ).mono ?_
  rintro e w13 ⟨rfl, hm0, hw⟩
  have N_w13 := Lib.hid (show Within (w5.heap.size + 1) (w6.heap.size) w12 w13 from hw _ _ (by have o0 := S_w1.out; have o1 := S_w2.out; have o2 := S_w3.out; have o3 := S_w4.out; have o4 := S_w5.out; have o5 := S_w6.out; have o6 := S_w7.out; have o7 := S_w8.out; have o8 := S_w9.out; have o9 := S_w10.out; have o10 := S_w11.out; have o11 := S_w12.out; have o12 := LX0_w1.out; have o13 := LX1_w1.out; have o14 := LSW0_0_w3.out; have o15 := G_w3.out; have o16 := D_w3.out; have o17 := LU0_w3.out; have o18 := G_w4.out; have o19 := LZ0_w5.out; have o20 := G_w5.out; have o21 := LZ1_w6.out; have o22 := LGW0_0_w6.out; have o23 := G_w6.out; have o24 := D_w6.out; have o25 := LV0_w7.out; omega) (fun q => by have o0 := S_w1.out; have o1 := S_w2.out; have o2 := S_w3.out; have o3 := S_w4.out; have o4 := S_w5.out; have o5 := S_w6.out; have o6 := S_w7.out; have o7 := S_w8.out; have o8 := S_w9.out; have o9 := S_w10.out; have o10 := S_w11.out; have o11 := S_w12.out; have o12 := LX0_w1.out; have o13 := LX1_w1.out; have o14 := LSW0_0_w3.out; have o15 := G_w3.out; have o16 := D_w3.out; have o17 := LU0_w3.out; have o18 := G_w4.out; have o19 := LZ0_w5.out; have o20 := G_w5.out; have o21 := LZ1_w6.out; have o22 := LGW0_0_w6.out; have o23 := G_w6.out; have o24 := D_w6.out; have o25 := LV0_w7.out; omega))
  clear hw
  have B_w13 := Lib.hid (B_w12.out.trans (Within.below N_w13.out (by have o0 := S_w1.out; have o1 := S_w2.out; have o2 := S_w3.out; have o3 := S_w4.out; have o4 := S_w5.out; have o5 := S_w6.out; have o6 := S_w7.out; have o7 := S_w8.out; have o8 := S_w9.out; have o9 := S_w10.out; have o10 := S_w11.out; have o11 := S_w12.out; have o12 := LX0_w1.out; have o13 := LX1_w1.out; have o14 := LSW0_0_w3.out; have o15 := G_w3.out; have o16 := D_w3.out; have o17 := LU0_w3.out; have o18 := G_w4.out; have o19 := LZ0_w5.out; have o20 := G_w5.out; have o21 := LZ1_w6.out; have o22 := LGW0_0_w6.out; have o23 := G_w6.out; have o24 := D_w6.out; have o25 := LV0_w7.out; omega) (by have o0 := S_w1.out; have o1 := S_w2.out; have o2 := S_w3.out; have o3 := S_w4.out; have o4 := S_w5.out; have o5 := S_w6.out; have o6 := S_w7.out; have o7 := S_w8.out; have o8 := S_w9.out; have o9 := S_w10.out; have o10 := S_w11.out; have o11 := S_w12.out; have o12 := LX0_w1.out; have o13 := LX1_w1.out; have o14 := LSW0_0_w3.out; have o15 := G_w3.out; have o16 := D_w3.out; have o17 := LU0_w3.out; have o18 := G_w4.out; have o19 := LZ0_w5.out; have o20 := G_w5.out; have o21 := LZ1_w6.out; have o22 := LGW0_0_w6.out; have o23 := G_w6.out; have o24 := D_w6.out; have o25 := LV0_w7.out; omega)))
  have S_w13 := Lib.hid (show w12.heap.size ≤ w13.heap.size from N_w13.out.size)
  clear X0a X0b X1a X1b U0a U0b V0a V0b
  have X0_w13 := Lib.hid (X0_w12.out.within N_w13.out (by have o0 := S_w1.out; have o1 := S_w2.out; have o2 := S_w3.out; have o3 := S_w4.out; have o4 := S_w5.out; have o5 := S_w6.out; have o6 := S_w7.out; have o7 := S_w8.out; have o8 := S_w9.out; have o9 := S_w10.out; have o10 := S_w11.out; have o11 := S_w12.out; have o12 := S_w13.out; have o13 := LX0_w1.out; have o14 := LX1_w1.out; have o15 := LSW0_0_w3.out; have o16 := G_w3.out; have o17 := D_w3.out; have o18 := LU0_w3.out; have o19 := G_w4.out; have o20 := LZ0_w5.out; have o21 := G_w5.out; have o22 := LZ1_w6.out; have o23 := LGW0_0_w6.out; have o24 := G_w6.out; have o25 := D_w6.out; have o26 := LV0_w7.out; omega))
  clear X0_w12
  have X1_w13 := Lib.hid (X1_w12.out.within N_w13.out (by have o0 := S_w1.out; have o1 := S_w2.out; have o2 := S_w3.out; have o3 := S_w4.out; have o4 := S_w5.out; have o5 := S_w6.out; have o6 := S_w7.out; have o7 := S_w8.out; have o8 := S_w9.out; have o9 := S_w10.out; have o10 := S_w11.out; have o11 := S_w12.out; have o12 := S_w13.out; have o13 := LX0_w1.out; have o14 := LX1_w1.out; have o15 := LSW0_0_w3.out; have o16 := G_w3.out; have o17 := D_w3.out; have o18 := LU0_w3.out; have o19 := G_w4.out; have o20 := LZ0_w5.out; have o21 := G_w5.out; have o22 := LZ1_w6.out; have o23 := LGW0_0_w6.out; have o24 := G_w6.out; have o25 := D_w6.out; have o26 := LV0_w7.out; omega))
  clear X1_w12
  have SW0_0_w13 := Lib.hid (OwnC.within SW0_0_w12.out N_w13.out (fun q => by have o0 := S_w1.out; have o1 := S_w2.out; have o2 := S_w3.out; have o3 := S_w4.out; have o4 := S_w5.out; have o5 := S_w6.out; have o6 := S_w7.out; have o7 := S_w8.out; have o8 := S_w9.out; have o9 := S_w10.out; have o10 := S_w11.out; have o11 := S_w12.out; have o12 := S_w13.out; have o13 := LX0_w1.out; have o14 := LX1_w1.out; have o15 := LSW0_0_w3.out; have o16 := G_w3.out; have o17 := D_w3.out; have o18 := LU0_w3.out; have o19 := G_w4.out; have o20 := LZ0_w5.out; have o21 := G_w5.out; have o22 := LZ1_w6.out; have o23 := LGW0_0_w6.out; have o24 := G_w6.out; have o25 := D_w6.out; have o26 := LV0_w7.out; omega))
  clear SW0_0_w12
  have U0_w13 := Lib.hid (U0_w12.out.within N_w13.out (by have o0 := S_w1.out; have o1 := S_w2.out; have o2 := S_w3.out; have o3 := S_w4.out; have o4 := S_w5.out; have o5 := S_w6.out; have o6 := S_w7.out; have o7 := S_w8.out; have o8 := S_w9.out; have o9 := S_w10.out; have o10 := S_w11.out; have o11 := S_w12.out; have o12 := S_w13.out; have o13 := LX0_w1.out; have o14 := LX1_w1.out; have o15 := LSW0_0_w3.out; have o16 := G_w3.out; have o17 := D_w3.out; have o18 := LU0_w3.out; have o19 := G_w4.out; have o20 := LZ0_w5.out; have o21 := G_w5.out; have o22 := LZ1_w6.out; have o23 := LGW0_0_w6.out; have o24 := G_w6.out; have o25 := D_w6.out; have o26 := LV0_w7.out; omega))
  clear U0_w12
  clear GW0_0_w12
  have V0_w13 := Lib.hid (V0_w12.out.within N_w13.out (by have o0 := S_w1.out; have o1 := S_w2.out; have o2 := S_w3.out; have o3 := S_w4.out; have o4 := S_w5.out; have o5 := S_w6.out; have o6 := S_w7.out; have o7 := S_w8.out; have o8 := S_w9.out; have o9 := S_w10.out; have o10 := S_w11.out; have o11 := S_w12.out; have o12 := S_w13.out; have o13 := LX0_w1.out; have o14 := LX1_w1.out; have o15 := LSW0_0_w3.out; have o16 := G_w3.out; have o17 := D_w3.out; have o18 := LU0_w3.out; have o19 := G_w4.out; have o20 := LZ0_w5.out; have o21 := G_w5.out; have o22 := LZ1_w6.out; have o23 := LGW0_0_w6.out; have o24 := G_w6.out; have o25 := D_w6.out; have o26 := LV0_w7.out; omega))
  clear V0_w12
  have GW0_0_w13 := Lib.hid hm0
  clear hm0
  obtain ⟨X0a, X0b⟩ := X0_w13.out
  obtain ⟨X1a, X1b⟩ := X1_w13.out
  obtain ⟨U0a, U0b⟩ := U0_w13.out
  obtain ⟨V0a, V0b⟩ := V0_w13.out
  have hk1_0 : ¬ (1 + (Rn0 : Int)) < 0 := by omega
  go_wp2_with fail
  refine (heldZone_any Rs0 (A0_w6) Rn0 c0_w6 1 _ (by omega) (by omega) (GW0_0_w13.out.cells.below (by repeat (first | exact Below.refl _ _ | exact Hid.out (by assumption) | refine below_alloc ?_ _ | refine Below.setCell ?_ (by simp <;> omega) _ | refine Below.alloc ?_ (by simp <;> omega) _ | refine Below.drew ?_ | refine below_drewN ?_ _)))).mono ?_
  rintro e w14 ⟨rfl, hb⟩
  have N_w14 := Lib.hid (show Below w13.heap.size w13 w14 from Below.trans (by repeat (first | exact Below.refl _ _ | exact Hid.out (by assumption) | refine below_alloc ?_ _ | refine Below.setCell ?_ (by simp <;> omega) _ | refine Below.alloc ?_ (by simp <;> omega) _ | refine Below.drew ?_ | refine below_drewN ?_ _)) (hb.mono (by simp <;> omega)))
  have B_w14 := Lib.hid (B_w13.out.trans (N_w14.out.mono B_w13.out.size))
  have S_w14 := Lib.hid (show w13.heap.size ≤ w14.heap.size from N_w14.out.size)
  clear X0a X0b X1a X1b U0a U0b V0a V0b
  have X0_w14 := Lib.hid (X0_w13.out.below N_w14.out)
  clear X0_w13
  have X1_w14 := Lib.hid (X1_w13.out.below N_w14.out)
  clear X1_w13
  have SW0_0_w14 := Lib.hid (SW0_0_w13.out.below N_w14.out)
  clear SW0_0_w13
  have U0_w14 := Lib.hid (U0_w13.out.below N_w14.out)
  clear U0_w13
  have V0_w14 := Lib.hid (V0_w13.out.below N_w14.out)
  clear V0_w13
  have GW0_0_w14 := Lib.hid (GW0_0_w13.out.below N_w14.out)
  clear GW0_0_w13
  obtain ⟨X0a, X0b⟩ := X0_w14.out
  obtain ⟨X1a, X1b⟩ := X1_w14.out
  obtain ⟨U0a, U0b⟩ := U0_w14.out
  obtain ⟨V0a, V0b⟩ := V0_w14.out
  clear hb
  go_upto_region 31 with fail
  go_cut [15, 16] from 94 to 101 (fun s15 s16 wx => ∃ (p : Nat) (TA : Option Addr) (Tc : Nat) (q0 : Nat), s15 = .pointer (some ⟨p, 0, none⟩) ∧ s16 = .bool Rr1 ∧ w14.heap.size ≤ p ∧ Box2 wx p (.int .i64 Rs0) (.slice TA Rn0 Tc) ∧ (w14.heap.size ≤ q0) ∧ (True) ∧ OwnC wx q0 TA Rn0 (fun i => .int .i64 (Rf0 i)) ∧ Below w14.heap.size w14 wx)
  case first =>
    have HKeep := Lib.hid (show ∀ W, Below w14.heap.size w14 W → (W.cell? ⟨w.heap.size, 0, none⟩ = some (.int .i64 s0) ∧ W.cell? ⟨w.heap.size, 1, none⟩ = some (.slice A0 n0 c0) ∧ W.cell? ⟨w.heap.size + 1, 0, none⟩ = some (.int .i64 s1) ∧ W.cell? ⟨w.heap.size + 1, 1, none⟩ = some (.slice A1 n1 c1)) from fun W hW => ⟨(X0_w14.out.below hW).c0, (X0_w14.out.below hW).c1, (X1_w14.out.below hW).c0, (X1_w14.out.below hW).c1⟩)
    go_region_held3 (fun W => W.cell? ⟨w.heap.size, 0, none⟩ = some (.int .i64 s0) ∧ W.cell? ⟨w.heap.size, 1, none⟩ = some (.slice A0 n0 c0) ∧ W.cell? ⟨w.heap.size + 1, 0, none⟩ = some (.int .i64 s1) ∧ W.cell? ⟨w.heap.size + 1, 1, none⟩ = some (.slice A1 n1 c1)) (exact HKeep.out _ (by repeat (first | exact Below.refl _ _ | exact Hid.out (by assumption) | refine below_alloc ?_ _ | refine Below.setCell ?_ (by simp <;> omega) _ | refine Below.alloc ?_ (by simp <;> omega) _ | refine Below.drew ?_ | refine below_drewN ?_ _))) (first
      | (go_at_call_of 24 (Value.agg #[.int .i64 s0, .slice A0 n0 c0])
         refine (HT0.out _ (PA0_0.out.below (by repeat (first | exact Below.refl _ _ | exact Hid.out (by assumption) | refine below_alloc ?_ _ | refine Below.setCell ?_ (by simp <;> omega) _ | refine Below.alloc ?_ (by simp <;> omega) _ | refine Below.drew ?_ | refine below_drewN ?_ _)))).mono ?_
         rintro e u0 ⟨g0_u0, rfl, hg0, hg1, ho0, hb⟩
         have N_u0 := Lib.hid (show Below w14.heap.size w14 u0 from Below.trans (by repeat (first | exact Below.refl _ _ | exact Hid.out (by assumption) | refine below_alloc ?_ _ | refine Below.setCell ?_ (by simp <;> omega) _ | refine Below.alloc ?_ (by simp <;> omega) _ | refine Below.drew ?_ | refine below_drewN ?_ _)) (hb.mono (by simp)))
         have SZ_u0 := N_u0.out.size
         have B_u0 := Lib.hid (B_w14.out.trans (N_u0.out.mono B_w14.out.size))
         first | (have BX0 := Lib.hid (BoxF2.below (BoxF2.new _ _ _ _) hb); have LX0 := BX0.out.lt) | (have BX0 := Lib.hid (BoxF2.below (BoxF2.drew (BoxF2.new _ _ _ _)) hb); have LX0 := BX0.out.lt) | skip
         have K0_0 := Lib.hid ho0.cells
         clear hb hg0 hg1 ho0)
      | (go_at_call_of 24 (Value.agg #[.int .i64 s1, .slice A1 n1 c1])
         refine (HT1.out _ (PA1_0.out.below (by repeat (first | exact Below.refl _ _ | exact Hid.out (by assumption) | refine below_alloc ?_ _ | refine Below.setCell ?_ (by simp <;> omega) _ | refine Below.alloc ?_ (by simp <;> omega) _ | refine Below.drew ?_ | refine below_drewN ?_ _)))).mono ?_
         rintro e u1 ⟨g0_u1, rfl, hg0, hg1, ho0, hb⟩
         have N_u1 := Lib.hid (show Below w14.heap.size w14 u1 from Below.trans (by repeat (first | exact Below.refl _ _ | exact Hid.out (by assumption) | refine below_alloc ?_ _ | refine Below.setCell ?_ (by simp <;> omega) _ | refine Below.alloc ?_ (by simp <;> omega) _ | refine Below.drew ?_ | refine below_drewN ?_ _)) (hb.mono (by first | exact N_u0.out.size | (have := N_u0.out.size; simp; omega))))
         have SZ_u1 := N_u1.out.size
         have B_u1 := Lib.hid (B_w14.out.trans (N_u1.out.mono B_w14.out.size))
         first | (have BX1 := Lib.hid (BoxF2.below (BoxF2.new _ _ _ _) hb); have LX1 := BX1.out.lt) | (have BX1 := Lib.hid (BX0.out.below (show Below u0.heap.size u0 u1 from Below.trans (by repeat (first | exact Below.refl _ _ | exact Hid.out (by assumption) | refine below_alloc ?_ _ | refine Below.setCell ?_ (by simp <;> omega) _ | refine Below.alloc ?_ (by simp <;> omega) _ | refine Below.drew ?_ | refine below_drewN ?_ _)) (hb.mono (by simp)))); have LX1 := BX1.out.lt) | skip
         have SZB_u1 := (show Below u0.heap.size u0 u1 from Below.trans (by repeat (first | exact Below.refl _ _ | exact Hid.out (by assumption) | refine below_alloc ?_ _ | refine Below.setCell ?_ (by simp <;> omega) _ | refine Below.alloc ?_ (by simp <;> omega) _ | refine Below.drew ?_ | refine below_drewN ?_ _)) (hb.mono (by simp))).size
         have K0_0 := Lib.hid (K0_0.out.below (show Below u0.heap.size u0 u1 from Below.trans (by repeat (first | exact Below.refl _ _ | exact Hid.out (by assumption) | refine below_alloc ?_ _ | refine Below.setCell ?_ (by simp <;> omega) _ | refine Below.alloc ?_ (by simp <;> omega) _ | refine Below.drew ?_ | refine below_drewN ?_ _)) (hb.mono (by simp))))
         have K1_0 := Lib.hid ho0.cells
         clear hb hg0 hg1 ho0)
      | (go_at_call 25
         refine (HI.out _ _ _ _ _ (K0_0.out.below (by repeat (first | exact Below.refl _ _ | exact Hid.out (by assumption) | refine below_alloc ?_ _ | refine Below.setCell ?_ (by simp <;> omega) _ | refine Below.alloc ?_ (by simp <;> omega) _ | refine Below.drew ?_ | refine below_drewN ?_ _))) (K1_0.out.below (by repeat (first | exact Below.refl _ _ | exact Hid.out (by assumption) | refine below_alloc ?_ _ | refine Below.setCell ?_ (by simp <;> omega) _ | refine Below.alloc ?_ (by simp <;> omega) _ | refine Below.drew ?_ | refine below_drewN ?_ _)))).mono ?_
         rintro e u9 ⟨TA, Tc, q0, rfl, hq, hd, ho0, hb⟩
         have SQ9 : u1.heap.size ≤ q0 := by first | exact hq | (simp at hq; omega)
         first | (have BX9 := Lib.hid (BoxF2.below (BoxF2.new _ _ _ _) hb); have SP9 : u1.heap.size + 1 ≤ q0 := (by simp at hq; omega); have zb0 := BX9.out.box.c0; have zf0 := BX9.out.fz 0; have zb1 := BX9.out.box.c1; have zf1 := BX9.out.fz 1) | (have BX9 := Lib.hid (BX1.out.below (show Below u1.heap.size u1 u9 from Below.trans (by repeat (first | exact Below.refl _ _ | exact Hid.out (by assumption) | refine below_alloc ?_ _ | refine Below.setCell ?_ (by simp <;> omega) _ | refine Below.alloc ?_ (by simp <;> omega) _ | refine Below.drew ?_ | refine below_drewN ?_ _)) (hb.mono (by simp)))); have SP9 : True := trivial; have zb0 := BX9.out.box.c0; have zf0 := BX9.out.fz 0; have zb1 := BX9.out.box.c1; have zf1 := BX9.out.fz 1) | skip
         have N_u9 := Lib.hid (show Below w14.heap.size w14 u9 from Below.trans (show Below w14.heap.size w14 _ from (by repeat (first | exact Below.refl _ _ | exact Hid.out (by assumption) | refine below_alloc ?_ _ | refine Below.setCell ?_ (by simp <;> omega) _ | refine Below.alloc ?_ (by simp <;> omega) _ | refine Below.drew ?_ | refine below_drewN ?_ _))) (hb.mono (by first | exact N_u1.out.size | (have := N_u1.out.size; simp; omega))))
         have O9_0 := Lib.hid ho0
         have HQ9 := Lib.hid hd
         have SZ9 := N_u9.out.size
         clear hb hq hd ho0))
    all_goals (
      go_wp2_with fail
      go_meet
      first
        | exact ⟨_, TA, Tc, q0, rfl, rfl, by omega, ((BX9.out.set0).set1).box, by omega, HQ9.out, (own_setP' (own_setP' O9_0.out (fun _ => by omega)) (fun _ => by omega)), (by repeat (first | exact Below.refl _ _ | exact Hid.out (by assumption) | refine below_alloc ?_ _ | refine Below.setCell ?_ (by simp <;> omega) _ | refine Below.alloc ?_ (by simp <;> omega) _ | refine Below.drew ?_ | refine below_drewN ?_ _))⟩
        | exact ⟨u9.heap.size, TA, Tc, q0, rfl, rfl, by omega, Box2.new u9 _ _ _, by omega, HQ9.out, O9_0.out.below ((Below.refl _ _).alloc (Nat.le_refl _) _), (by repeat (first | exact Below.refl _ _ | exact Hid.out (by assumption) | refine below_alloc ?_ _ | refine Below.setCell ?_ (by simp <;> omega) _ | refine Below.alloc ?_ (by simp <;> omega) _ | refine Below.drew ?_ | refine below_drewN ?_ _))⟩)
  case rest =>
  obtain ⟨pU_w15, A0_w15, c0_w15, q00_w15, rfl, rfl, hpU, hbx, hq, hd, ho00, hb⟩ := hcut
  obtain ⟨w15, rfl⟩ : ∃ u, u = wc := ⟨_, rfl⟩
  have N_w15 := Lib.hid hb
  clear hb
  have B_w15 := Lib.hid (B_w14.out.trans (N_w15.out.mono B_w14.out.size))
  have S_w15 := Lib.hid (show w14.heap.size ≤ w15.heap.size from N_w15.out.size)
  clear X0a X0b X1a X1b U0a U0b V0a V0b
  have X0_w15 := Lib.hid (X0_w14.out.below N_w15.out)
  clear X0_w14
  have X1_w15 := Lib.hid (X1_w14.out.below N_w15.out)
  clear X1_w14
  have SW0_0_w15 := Lib.hid (SW0_0_w14.out.below N_w15.out)
  clear SW0_0_w14
  have U0_w15 := Lib.hid (U0_w14.out.below N_w15.out)
  clear U0_w14
  have V0_w15 := Lib.hid (V0_w14.out.below N_w15.out)
  clear V0_w14
  have GW0_0_w15 := Lib.hid (GW0_0_w14.out.below N_w15.out)
  clear GW0_0_w14
  have HW0_0_w15 := Lib.hid ho00
  have LHW0_0_w15 := Lib.hid (fun q => HW0_0_w15.out.lt q)
  have G_w15 := Lib.hid (hq)
  have D_w15 := Lib.hid (hd)
  clear hq hd ho00
  have T0_w15 := Lib.hid hbx
  have LT0_w15 := Lib.hid (T0_w15.out.lt)
  clear hbx hpU
  obtain ⟨X0a, X0b⟩ := X0_w15.out
  obtain ⟨X1a, X1b⟩ := X1_w15.out
  obtain ⟨U0a, U0b⟩ := U0_w15.out
  obtain ⟨V0a, V0b⟩ := V0_w15.out
  obtain ⟨T0a, T0b⟩ := T0_w15.out
  go_wp2_with fail
  refine (HR0.out _ _ _ _ _ (HW0_0_w15.out.cells.below (by repeat (first | exact Below.refl _ _ | exact Hid.out (by assumption) | refine below_alloc ?_ _ | refine Below.setCell ?_ (by simp <;> omega) _ | refine Below.alloc ?_ (by simp <;> omega) _ | refine Below.drew ?_ | refine below_drewN ?_ _))) (SW0_0_w15.out.cells.below (by repeat (first | exact Below.refl _ _ | exact Hid.out (by assumption) | refine below_alloc ?_ _ | refine Below.setCell ?_ (by simp <;> omega) _ | refine Below.alloc ?_ (by simp <;> omega) _ | refine Below.drew ?_ | refine below_drewN ?_ _)))).mono ?_
  rintro e w16 ⟨rfl, hb⟩
  have N_w16 := Lib.hid (show Below w15.heap.size w15 w16 from Below.trans (by repeat (first | exact Below.refl _ _ | exact Hid.out (by assumption) | refine below_alloc ?_ _ | refine Below.setCell ?_ (by simp <;> omega) _ | refine Below.alloc ?_ (by simp <;> omega) _ | refine Below.drew ?_ | refine below_drewN ?_ _)) (hb.mono (by simp <;> omega)))
  have B_w16 := Lib.hid (B_w15.out.trans (N_w16.out.mono B_w15.out.size))
  have S_w16 := Lib.hid (show w15.heap.size ≤ w16.heap.size from N_w16.out.size)
  clear X0a X0b X1a X1b U0a U0b V0a V0b T0a T0b
  have X0_w16 := Lib.hid (X0_w15.out.below N_w16.out)
  clear X0_w15
  have X1_w16 := Lib.hid (X1_w15.out.below N_w16.out)
  clear X1_w15
  have SW0_0_w16 := Lib.hid (SW0_0_w15.out.below N_w16.out)
  clear SW0_0_w15
  have U0_w16 := Lib.hid (U0_w15.out.below N_w16.out)
  clear U0_w15
  have V0_w16 := Lib.hid (V0_w15.out.below N_w16.out)
  clear V0_w15
  have GW0_0_w16 := Lib.hid (GW0_0_w15.out.below N_w16.out)
  clear GW0_0_w15
  have HW0_0_w16 := Lib.hid (HW0_0_w15.out.below N_w16.out)
  clear HW0_0_w15
  have T0_w16 := Lib.hid (T0_w15.out.below N_w16.out)
  clear T0_w15
  obtain ⟨X0a, X0b⟩ := X0_w16.out
  obtain ⟨X1a, X1b⟩ := X1_w16.out
  obtain ⟨U0a, U0b⟩ := U0_w16.out
  obtain ⟨V0a, V0b⟩ := V0_w16.out
  obtain ⟨T0a, T0b⟩ := T0_w16.out
  clear hb
  go_wp2_with fail
  refine (heldZone_any Rs0 (A0_w6) Rn0 c0_w6 1 _ (by omega) (by omega) (GW0_0_w16.out.cells.below (by repeat (first | exact Below.refl _ _ | exact Hid.out (by assumption) | refine below_alloc ?_ _ | refine Below.setCell ?_ (by simp <;> omega) _ | refine Below.alloc ?_ (by simp <;> omega) _ | refine Below.drew ?_ | refine below_drewN ?_ _)))).mono ?_
  rintro e w17 ⟨rfl, hb⟩
  have N_w17 := Lib.hid (show Below w16.heap.size w16 w17 from Below.trans (by repeat (first | exact Below.refl _ _ | exact Hid.out (by assumption) | refine below_alloc ?_ _ | refine Below.setCell ?_ (by simp <;> omega) _ | refine Below.alloc ?_ (by simp <;> omega) _ | refine Below.drew ?_ | refine below_drewN ?_ _)) (hb.mono (by simp <;> omega)))
  have B_w17 := Lib.hid (B_w16.out.trans (N_w17.out.mono B_w16.out.size))
  have S_w17 := Lib.hid (show w16.heap.size ≤ w17.heap.size from N_w17.out.size)
  clear X0a X0b X1a X1b U0a U0b V0a V0b T0a T0b
  have X0_w17 := Lib.hid (X0_w16.out.below N_w17.out)
  clear X0_w16
  have X1_w17 := Lib.hid (X1_w16.out.below N_w17.out)
  clear X1_w16
  have SW0_0_w17 := Lib.hid (SW0_0_w16.out.below N_w17.out)
  clear SW0_0_w16
  have U0_w17 := Lib.hid (U0_w16.out.below N_w17.out)
  clear U0_w16
  have V0_w17 := Lib.hid (V0_w16.out.below N_w17.out)
  clear V0_w16
  have GW0_0_w17 := Lib.hid (GW0_0_w16.out.below N_w17.out)
  clear GW0_0_w16
  have HW0_0_w17 := Lib.hid (HW0_0_w16.out.below N_w17.out)
  clear HW0_0_w16
  have T0_w17 := Lib.hid (T0_w16.out.below N_w17.out)
  clear T0_w16
  obtain ⟨X0a, X0b⟩ := X0_w17.out
  obtain ⟨X1a, X1b⟩ := X1_w17.out
  obtain ⟨U0a, U0b⟩ := U0_w17.out
  obtain ⟨V0a, V0b⟩ := V0_w17.out
  obtain ⟨T0a, T0b⟩ := T0_w17.out
  clear hb
  go_wp2_with fail
  go_ret
  exact ⟨rfl, B_w17.out⟩
end Go.Proofs.Ytfpombhhnojjhaa
