/- The law on HoldsIn walked. -/
import Derived.Test.YtpelmfanchkpeaaZonN
import Derived.Test.YtpelmfanchkpeaaOpenZone
import Derived.Test.YtpelmfanchkpeaaRowI
import Derived.Deep.CutRange
set_option linter.unusedVariables false
namespace Go.Proofs.Ytpelmfanchkpeaa
open Go.RowKit

set_option maxHeartbeats 4000000 in
theorem fnExactHoldsIn.walk (s0 : Int) (A0 : Option Addr) (n0 c0 : Nat) (f0 : Nat → Int) (A1 : Option Addr) (n1 c1 : Nat) (z1 : List Int) (w : World) (H0 : ZoneIn w s0 A0 n0 f0) (H1 : IsRow .i64 w A1 n1 c1 z1) :
    Calls Try.prog 10 #[.agg #[.int .i64 s0, .slice A0 n0 c0], .slice A1 n1 c1] w fun e w' => e = .returned (.bool true) ∧ Below w.heap.size w w' := by
  have PA0_0 := Lib.hid H0.ca
  have na0_0 := H0.na
  clear H0
  have PA1_0 := Lib.hid (V64c.ofRow H1)
  have na1_0 : n1 ≤ 9223372036854775807 := isRow_len H1
  clear H1
  generalize (fun i => z1.getD i 0) = f1 at *
  by_cases hb1 : n1 ≤ 1048576
  rotate_left
  · have d1 : (1048576 : Int) < n1 := by omega
    go_enter Try.func10, Try.ntmps10
    go_wp2_with fail
    go_ret
    exact ⟨rfl, (by repeat (first | exact Below.refl _ _ | exact Hid.out (by assumption) | refine below_alloc ?_ _ | refine Below.setCell ?_ (by simp <;> omega) _ | refine Below.alloc ?_ (by simp <;> omega) _ | refine Below.drew ?_ | refine below_drewN ?_ _))⟩
  have d1 : ¬ (1048576 : Int) < n1 := by omega
  by_cases hb0 : (n0 : Int) ≤ 1048576
  rotate_left
  · have HN0 := Lib.hid (fun W => szZone_no s0 A0 n0 c0 1048576 W (by omega) (by omega) na0_0 hb0)
    go_enter Try.func10, Try.ntmps10
    go_wp2_with fail
    refine (HN0.out _).mono ?_
    rintro e w1 ⟨rfl, hb⟩
    have N_e := Lib.hid (show Below w.heap.size w _ from Below.trans (by repeat (first | exact Below.refl _ _ | exact Hid.out (by assumption) | refine below_alloc ?_ _ | refine Below.setCell ?_ (by simp <;> omega) _ | refine Below.alloc ?_ (by simp <;> omega) _ | refine Below.drew ?_ | refine below_drewN ?_ _)) (hb.mono (by simp <;> omega)))
    have B_e := Lib.hid (N_e.out)
    clear hb
    go_wp2_with fail
    go_ret
    exact ⟨rfl, B_e.out⟩
  have HZ0 := Lib.hid (fun W => szZone_yes s0 A0 n0 c0 1048576 W (by omega) hb0)
  have HT0 := Lib.hid (fun W y1 => toZone_any s0 A0 n0 c0 f0 W (by omega) y1)
  have HE0 := Lib.hid (fun v0 v1 c0 e0 W y1 y2 => eqZone_any s0 v0 v1 n0 c0 e0 f0 W (by omega) y1 y2)
  have HT1 := Lib.hid (fun W h => toI_any A1 n1 c1 f1 W (by omega) h)
  have HE1 := Lib.hid (fun A B c d W y1 y2 => eqI_any A B n1 c d f1 W (by omega) y1 y2)
  have HS := Lib.hid (fun vA0 vc0 vA1 vc1 W h0_0 h1_0 => specHoldsIn_any s0 vA0 n0 vc0 f0 vA1 n1 vc1 f1 W (by omega) h0_0 (by omega) h1_0)
  have HI := Lib.hid (fun vA0 vc0 vA1 vc1 W h0_0 h1_0 => implHoldsIn_any s0 vA0 n0 vc0 f0 vA1 n1 vc1 f1 W (by omega) h0_0 (by omega) h1_0)
  generalize holdV s0 n0 f0 n1 f1 = r1 at *
  generalize holdOk s0 n0 f0 n1 f1 = r2 at *
  go_enter Try.func10, Try.ntmps10
  go_wp2_with fail
  refine (HZ0.out _).mono ?_
  rintro e w1 ⟨rfl, hb⟩
  have N_w1 := Lib.hid (show Below w.heap.size w w1 from Below.trans (by repeat (first | exact Below.refl _ _ | exact Hid.out (by assumption) | refine below_alloc ?_ _ | refine Below.setCell ?_ (by simp <;> omega) _ | refine Below.alloc ?_ (by simp <;> omega) _ | refine Below.drew ?_ | refine below_drewN ?_ _)) (hb.mono (by simp <;> omega)))
  have B_w1 := Lib.hid (show Below w.heap.size w w1 from N_w1.out)
  have S_w1 := Lib.hid (show w.heap.size ≤ w1.heap.size from N_w1.out.size)
  have X0_w1 := Lib.hid (Box2.below (Box2.new w 38 (.int .i64 s0) (.slice A0 n0 c0)) hb)
  obtain ⟨X0a, X0b⟩ := X0_w1.out
  clear hb
  go_wp2_with fail
  refine (HT0.out _ (PA0_0.out.below (by repeat (first | exact Below.refl _ _ | exact Hid.out (by assumption) | refine below_alloc ?_ _ | refine Below.setCell ?_ (by simp <;> omega) _ | refine Below.alloc ?_ (by simp <;> omega) _ | refine Below.drew ?_ | refine below_drewN ?_ _)))).mono ?_
  rintro e w2 ⟨g0_w2, rfl, hg0, hg1, ho0, hb⟩
  have N_w2 := Lib.hid (show Below w1.heap.size w1 w2 from Below.trans (by repeat (first | exact Below.refl _ _ | exact Hid.out (by assumption) | refine below_alloc ?_ _ | refine Below.setCell ?_ (by simp <;> omega) _ | refine Below.alloc ?_ (by simp <;> omega) _ | refine Below.drew ?_ | refine below_drewN ?_ _)) (hb.mono (by simp <;> omega)))
  have B_w2 := Lib.hid (B_w1.out.trans (N_w2.out.mono B_w1.out.size))
  have S_w2 := Lib.hid (show w1.heap.size ≤ w2.heap.size from N_w2.out.size)
  clear X0a X0b
  have X0_w2 := Lib.hid (X0_w1.out.below N_w2.out)
  clear X0_w1
  obtain ⟨X0a, X0b⟩ := X0_w2.out
  have C0_0_w2 := Lib.hid ho0
  have G_w2 := Lib.hid (show w1.heap.size + 0 ≤ g0_w2 ∧ g0_w2 < w2.heap.size from ⟨by first | omega | (simp at hg0; omega), hg1⟩)
  clear hb hg0 hg1 ho0
  go_wp2_with fail
  refine (HT1.out _ (PA1_0.out.below (by repeat (first | exact Below.refl _ _ | exact Hid.out (by assumption) | refine below_alloc ?_ _ | refine Below.setCell ?_ (by simp <;> omega) _ | refine Below.alloc ?_ (by simp <;> omega) _ | refine Below.drew ?_ | refine below_drewN ?_ _)))).mono ?_
  rintro e w3 ⟨rfl, hg, ho0, hb⟩
  try simp only [World.size_alloc] at ho0
  have N_w3 := Lib.hid (show Below w2.heap.size w2 w3 from Below.trans (by repeat (first | exact Below.refl _ _ | exact Hid.out (by assumption) | refine below_alloc ?_ _ | refine Below.setCell ?_ (by simp <;> omega) _ | refine Below.alloc ?_ (by simp <;> omega) _ | refine Below.drew ?_ | refine below_drewN ?_ _)) (hb.mono (by simp <;> omega)))
  have B_w3 := Lib.hid (B_w2.out.trans (N_w3.out.mono B_w2.out.size))
  have S_w3 := Lib.hid (show w2.heap.size ≤ w3.heap.size from N_w3.out.size)
  clear X0a X0b
  have X0_w3 := Lib.hid (X0_w2.out.below N_w3.out)
  clear X0_w2
  have C0_0_w3 := Lib.hid (C0_0_w2.out.below N_w3.out)
  clear C0_0_w2
  obtain ⟨X0a, X0b⟩ := X0_w3.out
  have C1_0_w3 := Lib.hid ho0
  clear hb ho0 hg
  go_wp2_with fail
  refine (HS.out _ _ _ _ _ (C0_0_w3.out.cells.below (by repeat (first | exact Below.refl _ _ | exact Hid.out (by assumption) | refine below_alloc ?_ _ | refine Below.setCell ?_ (by simp <;> omega) _ | refine Below.alloc ?_ (by simp <;> omega) _ | refine Below.drew ?_ | refine below_drewN ?_ _))) (C1_0_w3.out.cells.below (by repeat (first | exact Below.refl _ _ | exact Hid.out (by assumption) | refine below_alloc ?_ _ | refine Below.setCell ?_ (by simp <;> omega) _ | refine Below.alloc ?_ (by simp <;> omega) _ | refine Below.drew ?_ | refine below_drewN ?_ _)))).mono ?_
  rintro e w4 ⟨rfl, hb⟩
  have N_w4 := Lib.hid (show Below w3.heap.size w3 w4 from Below.trans (by repeat (first | exact Below.refl _ _ | exact Hid.out (by assumption) | refine below_alloc ?_ _ | refine Below.setCell ?_ (by simp <;> omega) _ | refine Below.alloc ?_ (by simp <;> omega) _ | refine Below.drew ?_ | refine below_drewN ?_ _)) (hb.mono (by simp <;> omega)))
  have B_w4 := Lib.hid (B_w3.out.trans (N_w4.out.mono B_w3.out.size))
  have S_w4 := Lib.hid (show w3.heap.size ≤ w4.heap.size from N_w4.out.size)
  clear X0a X0b
  have X0_w4 := Lib.hid (X0_w3.out.below N_w4.out)
  clear X0_w3
  have C0_0_w4 := Lib.hid (C0_0_w3.out.below N_w4.out)
  clear C0_0_w3
  have C1_0_w4 := Lib.hid (C1_0_w3.out.below N_w4.out)
  clear C1_0_w3
  obtain ⟨X0a, X0b⟩ := X0_w4.out
  clear hb
  clear C0_0_w4
  clear C1_0_w4
  go_wp2_with fail
  refine (HT0.out _ (PA0_0.out.below (by repeat (first | exact Below.refl _ _ | exact Hid.out (by assumption) | refine below_alloc ?_ _ | refine Below.setCell ?_ (by simp <;> omega) _ | refine Below.alloc ?_ (by simp <;> omega) _ | refine Below.drew ?_ | refine below_drewN ?_ _)))).mono ?_
  rintro e w5 ⟨g0_w5, rfl, hg0, hg1, ho0, hb⟩
  have N_w5 := Lib.hid (show Below w4.heap.size w4 w5 from Below.trans (by repeat (first | exact Below.refl _ _ | exact Hid.out (by assumption) | refine below_alloc ?_ _ | refine Below.setCell ?_ (by simp <;> omega) _ | refine Below.alloc ?_ (by simp <;> omega) _ | refine Below.drew ?_ | refine below_drewN ?_ _)) (hb.mono (by simp <;> omega)))
  have B_w5 := Lib.hid (B_w4.out.trans (N_w5.out.mono B_w4.out.size))
  have S_w5 := Lib.hid (show w4.heap.size ≤ w5.heap.size from N_w5.out.size)
  clear X0a X0b
  have X0_w5 := Lib.hid (X0_w4.out.below N_w5.out)
  clear X0_w4
  obtain ⟨X0a, X0b⟩ := X0_w5.out
  have Y0_0_w5 := Lib.hid ho0
  have G_w5 := Lib.hid (show w4.heap.size + 0 ≤ g0_w5 ∧ g0_w5 < w5.heap.size from ⟨by first | omega | (simp at hg0; omega), hg1⟩)
  clear hb hg0 hg1 ho0
  have X0aq := X0_w5.out.a0
  have X0bq := X0_w5.out.a1
  go_wp2_with fail
  refine (HT1.out _ (PA1_0.out.below (by repeat (first | exact Below.refl _ _ | exact Hid.out (by assumption) | refine below_alloc ?_ _ | refine Below.setCell ?_ (by simp <;> omega) _ | refine Below.alloc ?_ (by simp <;> omega) _ | refine Below.drew ?_ | refine below_drewN ?_ _)))).mono ?_
  rintro e w6 ⟨rfl, hg, ho0, hb⟩
  try simp only [World.size_alloc] at ho0
  have N_w6 := Lib.hid (show Below w5.heap.size w5 w6 from Below.trans (by repeat (first | exact Below.refl _ _ | exact Hid.out (by assumption) | refine below_alloc ?_ _ | refine Below.setCell ?_ (by simp <;> omega) _ | refine Below.alloc ?_ (by simp <;> omega) _ | refine Below.drew ?_ | refine below_drewN ?_ _)) (hb.mono (by simp <;> omega)))
  have B_w6 := Lib.hid (B_w5.out.trans (N_w6.out.mono B_w5.out.size))
  have S_w6 := Lib.hid (show w5.heap.size ≤ w6.heap.size from N_w6.out.size)
  clear X0a X0b X0aq X0bq
  have X0_w6 := Lib.hid (X0_w5.out.below N_w6.out)
  clear X0_w5
  have Y0_0_w6 := Lib.hid (Y0_0_w5.out.below N_w6.out)
  clear Y0_0_w5
  have Z0_w6 := Lib.hid (Box2.below (Box2.new w5 41 (.int .i64 s0) (.slice (some ⟨g0_w5, 0, none⟩) n0 n0)) hb)
  obtain ⟨X0a, X0b⟩ := X0_w6.out
  obtain ⟨Z0a, Z0b⟩ := Z0_w6.out
  have Y1_0_w6 := Lib.hid ho0
  clear hb ho0 hg
  go_wp2_with fail
  refine (HI.out _ _ _ _ _ (Y0_0_w6.out.cells.below (by repeat (first | exact Below.refl _ _ | exact Hid.out (by assumption) | refine below_alloc ?_ _ | refine Below.setCell ?_ (by simp <;> omega) _ | refine Below.alloc ?_ (by simp <;> omega) _ | refine Below.drew ?_ | refine below_drewN ?_ _))) (Y1_0_w6.out.cells.below (by repeat (first | exact Below.refl _ _ | exact Hid.out (by assumption) | refine below_alloc ?_ _ | refine Below.setCell ?_ (by simp <;> omega) _ | refine Below.alloc ?_ (by simp <;> omega) _ | refine Below.drew ?_ | refine below_drewN ?_ _)))).mono ?_
  rintro e w7 ⟨rfl, hb⟩
  have N_w7 := Lib.hid (show Below w6.heap.size w6 w7 from Below.trans (by repeat (first | exact Below.refl _ _ | exact Hid.out (by assumption) | refine below_alloc ?_ _ | refine Below.setCell ?_ (by simp <;> omega) _ | refine Below.alloc ?_ (by simp <;> omega) _ | refine Below.drew ?_ | refine below_drewN ?_ _)) (hb.mono (by simp <;> omega)))
  have B_w7 := Lib.hid (B_w6.out.trans (N_w7.out.mono B_w6.out.size))
  have S_w7 := Lib.hid (show w6.heap.size ≤ w7.heap.size from N_w7.out.size)
  clear X0a X0b Z0a Z0b
  have X0_w7 := Lib.hid (X0_w6.out.below N_w7.out)
  clear X0_w6
  have Y0_0_w7 := Lib.hid (Y0_0_w6.out.below N_w7.out)
  clear Y0_0_w6
  have Z0_w7 := Lib.hid (Z0_w6.out.below N_w7.out)
  clear Z0_w6
  have Y1_0_w7 := Lib.hid (Y1_0_w6.out.below N_w7.out)
  clear Y1_0_w6
  obtain ⟨X0a, X0b⟩ := X0_w7.out
  obtain ⟨Z0a, Z0b⟩ := Z0_w7.out
  clear hb
  go_upto_region 13 with fail
  go_cut [50] from 46 to 50 (fun s wx => s = .bool false ∧ Below w7.heap.size w7 wx)
  case first =>
    go_region_with (first
      | (go_at_call 28
         refine (HT0.out _ (PA0_0.out.below (by repeat (first | exact Below.refl _ _ | exact Hid.out (by assumption) | refine below_alloc ?_ _ | refine Below.setCell ?_ (by simp <;> omega) _ | refine Below.alloc ?_ (by simp <;> omega) _ | refine Below.drew ?_ | refine below_drewN ?_ _)))).mono ?_
         rintro e u1 ⟨g0_u1, rfl, hg0, hg1, ho0, hb⟩
         have N_u1 := Lib.hid (show Below w7.heap.size w7 u1 from Below.trans (by repeat (first | exact Below.refl _ _ | exact Hid.out (by assumption) | refine below_alloc ?_ _ | refine Below.setCell ?_ (by simp <;> omega) _ | refine Below.alloc ?_ (by simp <;> omega) _ | refine Below.drew ?_ | refine below_drewN ?_ _)) (hb.mono (by simp)))
         have K_0 := Lib.hid ho0.cells
         obtain ⟨zZ0a, zZ0b⟩ := Z0_w7.out.below N_u1.out
         clear hb ho0)
      | (go_at_call 30
         refine (HE0.out _ _ _ _ _ (Y0_0_w7.out.cells.below (by repeat (first | exact Below.refl _ _ | exact Hid.out (by assumption) | refine below_alloc ?_ _ | refine Below.setCell ?_ (by simp <;> omega) _ | refine Below.alloc ?_ (by simp <;> omega) _ | refine Below.drew ?_ | refine below_drewN ?_ _))) (K_0.out.below (by repeat (first | exact Below.refl _ _ | exact Hid.out (by assumption) | refine below_alloc ?_ _ | refine Below.setCell ?_ (by simp <;> omega) _ | refine Below.alloc ?_ (by simp <;> omega) _ | refine Below.drew ?_ | refine below_drewN ?_ _)))).mono ?_
         rintro e u2 ⟨rfl, hb⟩
         have N_u2 := Lib.hid (show Below w7.heap.size w7 u2 from Below.trans (show Below w7.heap.size w7 _ from (by repeat (first | exact Below.refl _ _ | exact Hid.out (by assumption) | refine below_alloc ?_ _ | refine Below.setCell ?_ (by simp <;> omega) _ | refine Below.alloc ?_ (by simp <;> omega) _ | refine Below.drew ?_ | refine below_drewN ?_ _))) (hb.mono (by first | exact N_u1.out.size | simp [N_u1.out.size])))
         clear hb))
    all_goals (go_wp2_with fail; go_meet; exact ⟨rfl, N_u2.out⟩)
  case rest =>
  obtain ⟨rfl, hb⟩ := hcut
  obtain ⟨w8, rfl⟩ : ∃ u, u = wc := ⟨_, rfl⟩
  have N_w8 := Lib.hid hb
  clear hb
  have B_w8 := Lib.hid (B_w7.out.trans (N_w8.out.mono B_w7.out.size))
  have S_w8 := Lib.hid (show w7.heap.size ≤ w8.heap.size from N_w8.out.size)
  clear X0a X0b Z0a Z0b
  have X0_w8 := Lib.hid (X0_w7.out.below N_w8.out)
  clear X0_w7
  have Y0_0_w8 := Lib.hid (Y0_0_w7.out.below N_w8.out)
  clear Y0_0_w7
  have Z0_w8 := Lib.hid (Z0_w7.out.below N_w8.out)
  clear Z0_w7
  have Y1_0_w8 := Lib.hid (Y1_0_w7.out.below N_w8.out)
  clear Y1_0_w7
  obtain ⟨X0a, X0b⟩ := X0_w8.out
  obtain ⟨Z0a, Z0b⟩ := Z0_w8.out
  go_wp2_with fail
  refine (HT1.out _ (PA1_0.out.below (by repeat (first | exact Below.refl _ _ | exact Hid.out (by assumption) | refine below_alloc ?_ _ | refine Below.setCell ?_ (by simp <;> omega) _ | refine Below.alloc ?_ (by simp <;> omega) _ | refine Below.drew ?_ | refine below_drewN ?_ _)))).mono ?_
  rintro e w9 ⟨rfl, hg, ho0, hb⟩
  try simp only [World.size_alloc] at ho0
  have N_w9 := Lib.hid (show Below w8.heap.size w8 w9 from Below.trans (by repeat (first | exact Below.refl _ _ | exact Hid.out (by assumption) | refine below_alloc ?_ _ | refine Below.setCell ?_ (by simp <;> omega) _ | refine Below.alloc ?_ (by simp <;> omega) _ | refine Below.drew ?_ | refine below_drewN ?_ _)) (hb.mono (by simp <;> omega)))
  have B_w9 := Lib.hid (B_w8.out.trans (N_w9.out.mono B_w8.out.size))
  have S_w9 := Lib.hid (show w8.heap.size ≤ w9.heap.size from N_w9.out.size)
  clear X0a X0b Z0a Z0b
  have X0_w9 := Lib.hid (X0_w8.out.below N_w9.out)
  clear X0_w8
  have Y0_0_w9 := Lib.hid (Y0_0_w8.out.below N_w9.out)
  clear Y0_0_w8
  have Z0_w9 := Lib.hid (Z0_w8.out.below N_w9.out)
  clear Z0_w8
  have Y1_0_w9 := Lib.hid (Y1_0_w8.out.below N_w9.out)
  clear Y1_0_w8
  obtain ⟨X0a, X0b⟩ := X0_w9.out
  obtain ⟨Z0a, Z0b⟩ := Z0_w9.out
  have C1_0_w9 := Lib.hid ho0
  clear hb ho0 hg
  go_wp2_with fail
  refine (HE1.out _ _ _ _ _ (Y1_0_w9.out.cells.below (by repeat (first | exact Below.refl _ _ | exact Hid.out (by assumption) | refine below_alloc ?_ _ | refine Below.setCell ?_ (by simp <;> omega) _ | refine Below.alloc ?_ (by simp <;> omega) _ | refine Below.drew ?_ | refine below_drewN ?_ _))) (C1_0_w9.out.cells.below (by repeat (first | exact Below.refl _ _ | exact Hid.out (by assumption) | refine below_alloc ?_ _ | refine Below.setCell ?_ (by simp <;> omega) _ | refine Below.alloc ?_ (by simp <;> omega) _ | refine Below.drew ?_ | refine below_drewN ?_ _)))).mono ?_
  rintro e w10 ⟨rfl, mq, hwq⟩
  have hb : Below w9.heap.size w9 w10 := by rw [hwq]; exact (by repeat (first | exact Below.refl _ _ | exact Hid.out (by assumption) | refine below_alloc ?_ _ | refine Below.setCell ?_ (by simp <;> omega) _ | refine Below.alloc ?_ (by simp <;> omega) _ | refine Below.drew ?_ | refine below_drewN ?_ _))
  clear hwq
  have N_w10 := Lib.hid (show Below w9.heap.size w9 w10 from Below.trans (by repeat (first | exact Below.refl _ _ | exact Hid.out (by assumption) | refine below_alloc ?_ _ | refine Below.setCell ?_ (by simp <;> omega) _ | refine Below.alloc ?_ (by simp <;> omega) _ | refine Below.drew ?_ | refine below_drewN ?_ _)) (hb.mono (by simp <;> omega)))
  have B_w10 := Lib.hid (B_w9.out.trans (N_w10.out.mono B_w9.out.size))
  have S_w10 := Lib.hid (show w9.heap.size ≤ w10.heap.size from N_w10.out.size)
  clear X0a X0b Z0a Z0b
  have X0_w10 := Lib.hid (X0_w9.out.below N_w10.out)
  clear X0_w9
  have Y0_0_w10 := Lib.hid (Y0_0_w9.out.below N_w10.out)
  clear Y0_0_w9
  have Z0_w10 := Lib.hid (Z0_w9.out.below N_w10.out)
  clear Z0_w9
  have Y1_0_w10 := Lib.hid (Y1_0_w9.out.below N_w10.out)
  clear Y1_0_w9
  have C1_0_w10 := Lib.hid (C1_0_w9.out.below N_w10.out)
  clear C1_0_w9
  obtain ⟨X0a, X0b⟩ := X0_w10.out
  obtain ⟨Z0a, Z0b⟩ := Z0_w10.out
  clear hb
  clear C1_0_w10
  go_wp2_with fail
  go_ret
  exact ⟨rfl, B_w10.out⟩
end Go.Proofs.Ytpelmfanchkpeaa
