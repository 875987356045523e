/- The law on LetterAt walked. -/
import Derived.Test.YtpelmfanchkpeaaLetA
import Derived.Test.YtpelmfanchkpeaaOpenLoop
import Derived.Deep.CutRange
set_option linter.unusedVariables false
namespace Go.Proofs.Ytpelmfanchkpeaa
open Go.RowKit

set_option maxHeartbeats 4000000 in
theorem fnExactLetterAt.walk (A0 : Option Addr) (n0 c0 : Nat) (B0 : Option Addr) (m0 d0 : Nat) (f0 : Nat → Int) (g0 : Nat → Int) (x1 : Int) (x2 : Int) (w : World) (H0 : LoopIn w A0 n0 B0 m0 f0 g0) (H1 : (Lit.int .i64 x1).wf = true) (H2 : (Lit.int .i64 x2).wf = true) :
    Calls Try.prog 5 #[.agg #[.slice A0 n0 c0, .slice B0 m0 d0], .int .i64 x1, .int .i64 x2] w fun e w' => e = .returned (.bool true) ∧ Below w.heap.size w w' := by
  have PA0_0 := Lib.hid H0.ca
  have PA0_1 := Lib.hid H0.cb
  have na0_0 := H0.na
  have na0_1 := H0.nb
  clear H0
  clear H1
  clear H2
  by_cases hb0 : (n0 : Int) + m0 ≤ 1048576
  rotate_left
  · have HN0 := Lib.hid (fun W => szLoop_no A0 B0 n0 c0 m0 d0 1048576 W (by omega) (by omega) na0_0 na0_1 hb0)
    go_enter Try.func5, Try.ntmps5
    go_wp2_with fail
    refine (HN0.out _).mono ?_
    rintro e w1 ⟨rfl, hb⟩
    have N_e := Lib.hid (show Below w.heap.size w _ from Below.trans (by repeat (first | exact Below.refl _ _ | exact Hid.out (by assumption) | refine below_alloc ?_ _ | refine Below.setCell ?_ (by simp <;> omega) _ | refine Below.alloc ?_ (by simp <;> omega) _ | refine Below.drew ?_ | refine below_drewN ?_ _)) (hb.mono (by simp <;> omega)))
    have B_e := Lib.hid (N_e.out)
    clear hb
    go_wp2_with fail
    go_ret
    exact ⟨rfl, B_e.out⟩
  have HZ0 := Lib.hid (fun W => szLoop_yes A0 B0 n0 c0 m0 d0 1048576 W (by omega) hb0)
  have HT0 := Lib.hid (fun W y1 y2 => toLoop_any A0 B0 n0 c0 m0 d0 f0 g0 W (by omega) (by omega) y1 y2)
  have HE0 := Lib.hid (fun v0 v1 v2 v3 c0 c1 e0 e1 W y1 y2 y3 y4 => eqLoop_any  v0 v1 v2 v3 n0 c0 m0 c1 e0 e1 f0 g0 W (by omega) (by omega) y1 y2 y3 y4)
  have HS := Lib.hid (fun vA0 vB0 vc0 vd0 W h0_0 h0_1 => specLetterAt_any vA0 vB0 n0 vc0 m0 vd0 f0 g0 x1 x2 W (by omega) (by omega) h0_0 h0_1)
  have HI := Lib.hid (fun vA0 vB0 vc0 vd0 W h0_0 h0_1 => implLetterAt_any vA0 vB0 n0 vc0 m0 vd0 f0 g0 x1 x2 W (by omega) (by omega) h0_0 h0_1)
  generalize letV x1 n0 m0 f0 g0 x2 = r1 at *
  generalize letOk x1 n0 m0 f0 g0 x2 = r2 at *
  go_enter Try.func5, Try.ntmps5
  go_wp2_with fail
  refine (HZ0.out _).mono ?_
  rintro e w1 ⟨rfl, hb⟩
  have N_w1 := Lib.hid (show Below w.heap.size w w1 from Below.trans (by repeat (first | exact Below.refl _ _ | exact Hid.out (by assumption) | refine below_alloc ?_ _ | refine Below.setCell ?_ (by simp <;> omega) _ | refine Below.alloc ?_ (by simp <;> omega) _ | refine Below.drew ?_ | refine below_drewN ?_ _)) (hb.mono (by simp <;> omega)))
  have B_w1 := Lib.hid (show Below w.heap.size w w1 from N_w1.out)
  have S_w1 := Lib.hid (show w.heap.size ≤ w1.heap.size from N_w1.out.size)
  have X0_w1 := Lib.hid (Box2.below (Box2.new w 24 (.slice A0 n0 c0) (.slice B0 m0 d0)) hb)
  obtain ⟨X0a, X0b⟩ := X0_w1.out
  clear hb
  go_wp2_with fail
  refine (HT0.out _ (PA0_0.out.below (by repeat (first | exact Below.refl _ _ | exact Hid.out (by assumption) | refine below_alloc ?_ _ | refine Below.setCell ?_ (by simp <;> omega) _ | refine Below.alloc ?_ (by simp <;> omega) _ | refine Below.drew ?_ | refine below_drewN ?_ _))) (PA0_1.out.below (by repeat (first | exact Below.refl _ _ | exact Hid.out (by assumption) | refine below_alloc ?_ _ | refine Below.setCell ?_ (by simp <;> omega) _ | refine Below.alloc ?_ (by simp <;> omega) _ | refine Below.drew ?_ | refine below_drewN ?_ _)))).mono ?_
  rintro e w2 ⟨g0_w2, g1_w2, rfl, hg0, hg1, hg2, ho0, ho1, hb⟩
  have N_w2 := Lib.hid (show Below w1.heap.size w1 w2 from Below.trans (by repeat (first | exact Below.refl _ _ | exact Hid.out (by assumption) | refine below_alloc ?_ _ | refine Below.setCell ?_ (by simp <;> omega) _ | refine Below.alloc ?_ (by simp <;> omega) _ | refine Below.drew ?_ | refine below_drewN ?_ _)) (hb.mono (by simp <;> omega)))
  have B_w2 := Lib.hid (B_w1.out.trans (N_w2.out.mono B_w1.out.size))
  have S_w2 := Lib.hid (show w1.heap.size ≤ w2.heap.size from N_w2.out.size)
  clear X0a X0b
  have X0_w2 := Lib.hid (X0_w1.out.below N_w2.out)
  clear X0_w1
  obtain ⟨X0a, X0b⟩ := X0_w2.out
  have C0_0_w2 := Lib.hid ho0
  have C0_1_w2 := Lib.hid ho1
  have G_w2 := Lib.hid (show w1.heap.size + 0 ≤ g0_w2 ∧ g0_w2 < g1_w2 ∧ g1_w2 < w2.heap.size from ⟨by first | omega | (simp at hg0; omega), hg1, hg2⟩)
  clear hb hg0 hg1 hg2 ho0 ho1
  go_wp2_with fail
  refine (HS.out _ _ _ _ _ (C0_0_w2.out.cells.below (by repeat (first | exact Below.refl _ _ | exact Hid.out (by assumption) | refine below_alloc ?_ _ | refine Below.setCell ?_ (by simp <;> omega) _ | refine Below.alloc ?_ (by simp <;> omega) _ | refine Below.drew ?_ | refine below_drewN ?_ _))) (C0_1_w2.out.cells.below (by repeat (first | exact Below.refl _ _ | exact Hid.out (by assumption) | refine below_alloc ?_ _ | refine Below.setCell ?_ (by simp <;> omega) _ | refine Below.alloc ?_ (by simp <;> omega) _ | refine Below.drew ?_ | refine below_drewN ?_ _)))).mono ?_
  rintro e w3 ⟨rfl, hb⟩
  have N_w3 := Lib.hid (show Below w2.heap.size w2 w3 from Below.trans (by repeat (first | exact Below.refl _ _ | exact Hid.out (by assumption) | refine below_alloc ?_ _ | refine Below.setCell ?_ (by simp <;> omega) _ | refine Below.alloc ?_ (by simp <;> omega) _ | refine Below.drew ?_ | refine below_drewN ?_ _)) (hb.mono (by simp <;> omega)))
  have B_w3 := Lib.hid (B_w2.out.trans (N_w3.out.mono B_w2.out.size))
  have S_w3 := Lib.hid (show w2.heap.size ≤ w3.heap.size from N_w3.out.size)
  clear X0a X0b
  have X0_w3 := Lib.hid (X0_w2.out.below N_w3.out)
  clear X0_w2
  have C0_0_w3 := Lib.hid (C0_0_w2.out.below N_w3.out)
  clear C0_0_w2
  have C0_1_w3 := Lib.hid (C0_1_w2.out.below N_w3.out)
  clear C0_1_w2
  obtain ⟨X0a, X0b⟩ := X0_w3.out
  clear hb
  clear C0_0_w3
  clear C0_1_w3
  go_wp2_with fail
  refine (HT0.out _ (PA0_0.out.below (by repeat (first | exact Below.refl _ _ | exact Hid.out (by assumption) | refine below_alloc ?_ _ | refine Below.setCell ?_ (by simp <;> omega) _ | refine Below.alloc ?_ (by simp <;> omega) _ | refine Below.drew ?_ | refine below_drewN ?_ _))) (PA0_1.out.below (by repeat (first | exact Below.refl _ _ | exact Hid.out (by assumption) | refine below_alloc ?_ _ | refine Below.setCell ?_ (by simp <;> omega) _ | refine Below.alloc ?_ (by simp <;> omega) _ | refine Below.drew ?_ | refine below_drewN ?_ _)))).mono ?_
  rintro e w4 ⟨g0_w4, g1_w4, rfl, hg0, hg1, hg2, ho0, ho1, hb⟩
  have N_w4 := Lib.hid (show Below w3.heap.size w3 w4 from Below.trans (by repeat (first | exact Below.refl _ _ | exact Hid.out (by assumption) | refine below_alloc ?_ _ | refine Below.setCell ?_ (by simp <;> omega) _ | refine Below.alloc ?_ (by simp <;> omega) _ | refine Below.drew ?_ | refine below_drewN ?_ _)) (hb.mono (by simp <;> omega)))
  have B_w4 := Lib.hid (B_w3.out.trans (N_w4.out.mono B_w3.out.size))
  have S_w4 := Lib.hid (show w3.heap.size ≤ w4.heap.size from N_w4.out.size)
  clear X0a X0b
  have X0_w4 := Lib.hid (X0_w3.out.below N_w4.out)
  clear X0_w3
  obtain ⟨X0a, X0b⟩ := X0_w4.out
  have Y0_0_w4 := Lib.hid ho0
  have Y0_1_w4 := Lib.hid ho1
  have G_w4 := Lib.hid (show w3.heap.size + 0 ≤ g0_w4 ∧ g0_w4 < g1_w4 ∧ g1_w4 < w4.heap.size from ⟨by first | omega | (simp at hg0; omega), hg1, hg2⟩)
  clear hb hg0 hg1 hg2 ho0 ho1
  have X0aq := X0_w4.out.a0
  have X0bq := X0_w4.out.a1
  go_wp2_with fail
  refine (HI.out _ _ _ _ _ (Y0_0_w4.out.cells.below (by repeat (first | exact Below.refl _ _ | exact Hid.out (by assumption) | refine below_alloc ?_ _ | refine Below.setCell ?_ (by simp <;> omega) _ | refine Below.alloc ?_ (by simp <;> omega) _ | refine Below.drew ?_ | refine below_drewN ?_ _))) (Y0_1_w4.out.cells.below (by repeat (first | exact Below.refl _ _ | exact Hid.out (by assumption) | refine below_alloc ?_ _ | refine Below.setCell ?_ (by simp <;> omega) _ | refine Below.alloc ?_ (by simp <;> omega) _ | refine Below.drew ?_ | refine below_drewN ?_ _)))).mono ?_
  rintro e w5 ⟨rfl, hb⟩
  have N_w5 := Lib.hid (show Below w4.heap.size w4 w5 from Below.trans (by repeat (first | exact Below.refl _ _ | exact Hid.out (by assumption) | refine below_alloc ?_ _ | refine Below.setCell ?_ (by simp <;> omega) _ | refine Below.alloc ?_ (by simp <;> omega) _ | refine Below.drew ?_ | refine below_drewN ?_ _)) (hb.mono (by simp <;> omega)))
  have B_w5 := Lib.hid (B_w4.out.trans (N_w5.out.mono B_w4.out.size))
  have S_w5 := Lib.hid (show w4.heap.size ≤ w5.heap.size from N_w5.out.size)
  clear X0a X0b X0aq X0bq
  have X0_w5 := Lib.hid (X0_w4.out.below N_w5.out)
  clear X0_w4
  have Y0_0_w5 := Lib.hid (Y0_0_w4.out.below N_w5.out)
  clear Y0_0_w4
  have Y0_1_w5 := Lib.hid (Y0_1_w4.out.below N_w5.out)
  clear Y0_1_w4
  have Z0_w5 := Lib.hid (Box2.below (Box2.new w4 27 (.slice (some ⟨g0_w4, 0, none⟩) n0 n0) (.slice (some ⟨g1_w4, 0, none⟩) m0 m0)) hb)
  obtain ⟨X0a, X0b⟩ := X0_w5.out
  obtain ⟨Z0a, Z0b⟩ := Z0_w5.out
  clear hb
  go_upto_region 10 with fail
  go_cut [47] from 43 to 47 (fun s wx => s = .bool false ∧ Below w5.heap.size w5 wx)
  case first =>
    go_region_with (first
      | (go_at_call 17
         refine (HT0.out _ (PA0_0.out.below (by repeat (first | exact Below.refl _ _ | exact Hid.out (by assumption) | refine below_alloc ?_ _ | refine Below.setCell ?_ (by simp <;> omega) _ | refine Below.alloc ?_ (by simp <;> omega) _ | refine Below.drew ?_ | refine below_drewN ?_ _))) (PA0_1.out.below (by repeat (first | exact Below.refl _ _ | exact Hid.out (by assumption) | refine below_alloc ?_ _ | refine Below.setCell ?_ (by simp <;> omega) _ | refine Below.alloc ?_ (by simp <;> omega) _ | refine Below.drew ?_ | refine below_drewN ?_ _)))).mono ?_
         rintro e u1 ⟨g0_u1, g1_u1, rfl, hg0, hg1, hg2, ho0, ho1, hb⟩
         have N_u1 := Lib.hid (show Below w5.heap.size w5 u1 from Below.trans (by repeat (first | exact Below.refl _ _ | exact Hid.out (by assumption) | refine below_alloc ?_ _ | refine Below.setCell ?_ (by simp <;> omega) _ | refine Below.alloc ?_ (by simp <;> omega) _ | refine Below.drew ?_ | refine below_drewN ?_ _)) (hb.mono (by simp)))
         have K_0 := Lib.hid ho0.cells
         have K_1 := Lib.hid ho1.cells
         obtain ⟨zZ0a, zZ0b⟩ := Z0_w5.out.below N_u1.out
         clear hb ho0 ho1)
      | (go_at_call 19
         refine (HE0.out _ _ _ _ _ _ _ _ _ (Y0_0_w5.out.cells.below (by repeat (first | exact Below.refl _ _ | exact Hid.out (by assumption) | refine below_alloc ?_ _ | refine Below.setCell ?_ (by simp <;> omega) _ | refine Below.alloc ?_ (by simp <;> omega) _ | refine Below.drew ?_ | refine below_drewN ?_ _))) (Y0_1_w5.out.cells.below (by repeat (first | exact Below.refl _ _ | exact Hid.out (by assumption) | refine below_alloc ?_ _ | refine Below.setCell ?_ (by simp <;> omega) _ | refine Below.alloc ?_ (by simp <;> omega) _ | refine Below.drew ?_ | refine below_drewN ?_ _))) (K_0.out.below (by repeat (first | exact Below.refl _ _ | exact Hid.out (by assumption) | refine below_alloc ?_ _ | refine Below.setCell ?_ (by simp <;> omega) _ | refine Below.alloc ?_ (by simp <;> omega) _ | refine Below.drew ?_ | refine below_drewN ?_ _))) (K_1.out.below (by repeat (first | exact Below.refl _ _ | exact Hid.out (by assumption) | refine below_alloc ?_ _ | refine Below.setCell ?_ (by simp <;> omega) _ | refine Below.alloc ?_ (by simp <;> omega) _ | refine Below.drew ?_ | refine below_drewN ?_ _)))).mono ?_
         rintro e u2 ⟨rfl, hb⟩
         have N_u2 := Lib.hid (show Below w5.heap.size w5 u2 from Below.trans (show Below w5.heap.size w5 _ from (by repeat (first | exact Below.refl _ _ | exact Hid.out (by assumption) | refine below_alloc ?_ _ | refine Below.setCell ?_ (by simp <;> omega) _ | refine Below.alloc ?_ (by simp <;> omega) _ | refine Below.drew ?_ | refine below_drewN ?_ _))) (hb.mono (by first | exact N_u1.out.size | simp [N_u1.out.size])))
         clear hb))
    all_goals (go_wp2_with fail; go_meet; exact ⟨rfl, N_u2.out⟩)
  case rest =>
  obtain ⟨rfl, hb⟩ := hcut
  obtain ⟨w6, rfl⟩ : ∃ u, u = wc := ⟨_, rfl⟩
  have N_w6 := Lib.hid hb
  clear hb
  have B_w6 := Lib.hid (B_w5.out.trans (N_w6.out.mono B_w5.out.size))
  have S_w6 := Lib.hid (show w5.heap.size ≤ w6.heap.size from N_w6.out.size)
  clear X0a X0b Z0a Z0b
  have X0_w6 := Lib.hid (X0_w5.out.below N_w6.out)
  clear X0_w5
  have Y0_0_w6 := Lib.hid (Y0_0_w5.out.below N_w6.out)
  clear Y0_0_w5
  have Y0_1_w6 := Lib.hid (Y0_1_w5.out.below N_w6.out)
  clear Y0_1_w5
  have Z0_w6 := Lib.hid (Z0_w5.out.below N_w6.out)
  clear Z0_w5
  obtain ⟨X0a, X0b⟩ := X0_w6.out
  obtain ⟨Z0a, Z0b⟩ := Z0_w6.out
  go_wp2_with fail
  go_ret
  exact ⟨rfl, B_w6.out⟩
end Go.Proofs.Ytpelmfanchkpeaa
