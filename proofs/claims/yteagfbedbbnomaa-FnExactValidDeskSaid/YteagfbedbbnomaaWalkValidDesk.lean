/- The law on ValidDesk walked. -/
import Derived.Test.YteagfbedbbnomaaDeskV
import Derived.Test.YteagfbedbbnomaaOpenDesk
import Derived.Deep.CutRange
set_option linter.unusedVariables false
namespace Go.Proofs.Yteagfbedbbnomaa
open Go.RowKit

set_option maxHeartbeats 16000000 in
theorem fnExactValidDesk.walk (s10 l10 s20 l20 s30 l30 : Int) (A10 : Option Addr) (n10 c10 : Nat) (A20 : Option Addr) (n20 c20 : Nat) (A30 : Option Addr) (n30 c30 : Nat) (A40 : Option Addr) (n40 c40 : Nat) (A50 : Option Addr) (n50 c50 : Nat) (A60 : Option Addr) (n60 c60 : Nat) (A70 : Option Addr) (n70 c70 : Nat) (f10 : Nat → Int) (f20 : Nat → Int) (f30 : Nat → Int) (f40 : Nat → Int) (f50 : Nat → Bool) (f60 : Nat → Int) (f70 : Nat → Int) (w : World) (H0 : DeskIn w s10 l10 s20 l20 s30 l30 A10 n10 A20 n20 A30 n30 A40 n40 A50 n50 A60 n60 A70 n70 f10 f20 f30 f40 f50 f60 f70) :
    Calls Try.prog 3 #[.agg #[.int .i64 s10, .int .i64 l10, .slice A10 n10 c10, .slice A20 n20 c20, .slice A30 n30 c30, .int .i64 s20, .int .i64 l20, .slice A40 n40 c40, .slice A50 n50 c50, .int .i64 s30, .int .i64 l30, .slice A60 n60 c60, .slice A70 n70 c70]] w fun e w' => e = .returned (.bool true) ∧ Below w.heap.size w w' := by
  have PA0_0 := Lib.hid H0.ca1
  have PA0_1 := Lib.hid H0.ca2
  have PA0_2 := Lib.hid H0.ca3
  have PA0_3 := Lib.hid H0.ca4
  have PA0_4 := Lib.hid H0.ca5
  have PA0_5 := Lib.hid H0.ca6
  have PA0_6 := Lib.hid H0.ca7
  have na0_0 := H0.na1
  have na0_1 := H0.na2
  have na0_2 := H0.na3
  have na0_3 := H0.na4
  have na0_4 := H0.na5
  have na0_5 := H0.na6
  have na0_6 := H0.na7
  clear H0
  by_cases hb0 : (n10 : Int) + n20 + n30 + n40 + n50 + n60 + n70 ≤ 1048576
  rotate_left
  · have HN0 := Lib.hid (fun W => szDesk_no s10 l10 s20 l20 s30 l30 A10 A20 A30 A40 A50 A60 A70 n10 c10 n20 c20 n30 c30 n40 c40 n50 c50 n60 c60 n70 c70 1048576 W (by omega) (by omega) na0_0 na0_1 na0_2 na0_3 na0_4 na0_5 na0_6 hb0)
    go_enter Try.func3, Try.ntmps3
    go_wp2_with fail
    refine (HN0.out _).mono ?_
    rintro e w1 ⟨rfl, hb⟩
    have N_e := Lib.hid (show Below w.heap.size w _ from Below.trans (by repeat (first | exact Below.refl _ _ | exact Hid.out (by assumption) | refine below_alloc ?_ _ | refine Below.setCell ?_ (by simp <;> omega) _ | refine Below.alloc ?_ (by simp <;> omega) _ | refine Below.drew ?_ | refine below_drewN ?_ _)) (hb.mono (by simp <;> omega)))
    have B_e := Lib.hid (N_e.out)
    clear hb
    go_wp2_with fail
    go_ret
    exact ⟨rfl, B_e.out⟩
  have HZ0 := Lib.hid (fun W => szDesk_yes s10 l10 s20 l20 s30 l30 A10 A20 A30 A40 A50 A60 A70 n10 c10 n20 c20 n30 c30 n40 c40 n50 c50 n60 c60 n70 c70 1048576 W (by omega) hb0)
  have HT0 := Lib.hid (fun W y1 y2 y3 y4 y5 y6 y7 => toDesk_any s10 l10 s20 l20 s30 l30 A10 A20 A30 A40 A50 A60 A70 n10 c10 n20 c20 n30 c30 n40 c40 n50 c50 n60 c60 n70 c70 f10 f20 f30 f40 f50 f60 f70 W (by omega) (by omega) (by omega) (by omega) (by omega) (by omega) (by omega) y1 y2 y3 y4 y5 y6 y7)
  have HE0 := Lib.hid (fun v0 v1 v2 v3 v4 v5 v6 v7 v8 v9 v10 v11 v12 v13 c0 c1 c2 c3 c4 c5 c6 e0 e1 e2 e3 e4 e5 e6 W y1 y2 y3 y4 y5 y6 y7 y8 y9 y10 y11 y12 y13 y14 => eqDesk_any s10 l10 s20 l20 s30 l30 v0 v1 v2 v3 v4 v5 v6 v7 v8 v9 v10 v11 v12 v13 n10 c0 n20 c1 n30 c2 n40 c3 n50 c4 n60 c5 n70 c6 e0 e1 e2 e3 e4 e5 e6 f10 f20 f30 f40 f50 f60 f70 W (by omega) (by omega) (by omega) (by omega) (by omega) (by omega) (by omega) y1 y2 y3 y4 y5 y6 y7 y8 y9 y10 y11 y12 y13 y14)
  have HS := Lib.hid (fun vA10 vA20 vA30 vA40 vA50 vA60 vA70 vc10 vc20 vc30 vc40 vc50 vc60 vc70 W h0_0 h0_1 h0_2 h0_3 h0_4 h0_5 h0_6 => specValidDesk_any s10 l10 s20 l20 s30 l30 vA10 vA20 vA30 vA40 vA50 vA60 vA70 n10 vc10 n20 vc20 n30 vc30 n40 vc40 n50 vc50 n60 vc60 n70 vc70 f10 f20 f30 f40 f50 f60 f70 W (by omega) (by omega) (by omega) (by omega) (by omega) (by omega) (by omega) h0_0 h0_1 h0_2 h0_3 h0_4 h0_5 h0_6)
  have HI := Lib.hid (fun vA10 vA20 vA30 vA40 vA50 vA60 vA70 vc10 vc20 vc30 vc40 vc50 vc60 vc70 W h0_0 h0_1 h0_2 h0_3 h0_4 h0_5 h0_6 => implValidDesk_any s10 l10 s20 l20 s30 l30 vA10 vA20 vA30 vA40 vA50 vA60 vA70 n10 vc10 n20 vc20 n30 vc30 n40 vc40 n50 vc50 n60 vc60 n70 vc70 f10 f20 f30 f40 f50 f60 f70 W (by omega) (by omega) (by omega) (by omega) (by omega) (by omega) (by omega) h0_0 h0_1 h0_2 h0_3 h0_4 h0_5 h0_6)
  generalize validD s10 l10 s20 l20 s30 l30 n10 n20 n30 n40 n50 n60 n70 f10 f20 f30 f40 f50 f60 f70 = r at *
  go_enter Try.func3, Try.ntmps3
  go_wp2_with fail
  refine (HZ0.out _).mono ?_
  rintro e w1 ⟨rfl, hb⟩
  have N_w1 := Lib.hid (show Below w.heap.size w w1 from Below.trans (by repeat (first | exact Below.refl _ _ | exact Hid.out (by assumption) | refine below_alloc ?_ _ | refine Below.setCell ?_ (by simp <;> omega) _ | refine Below.alloc ?_ (by simp <;> omega) _ | refine Below.drew ?_ | refine below_drewN ?_ _)) (hb.mono (by simp <;> omega)))
  have B_w1 := Lib.hid (show Below w.heap.size w w1 from N_w1.out)
  have S_w1 := Lib.hid (show w.heap.size ≤ w1.heap.size from N_w1.out.size)
  have X0_w1 := Lib.hid (Box13.below (Box13.new w 33 (.int .i64 s10) (.int .i64 l10) (.slice A10 n10 c10) (.slice A20 n20 c20) (.slice A30 n30 c30) (.int .i64 s20) (.int .i64 l20) (.slice A40 n40 c40) (.slice A50 n50 c50) (.int .i64 s30) (.int .i64 l30) (.slice A60 n60 c60) (.slice A70 n70 c70)) hb)
  obtain ⟨X0a, X0b, X0c, X0d, X0e, X0f, X0g, X0h, X0i, X0j, X0k, X0l, X0m⟩ := X0_w1.out
  clear hb
  go_wp2_with fail
  refine (HT0.out _ (PA0_0.out.below (by repeat (first | exact Below.refl _ _ | exact Hid.out (by assumption) | refine below_alloc ?_ _ | refine Below.setCell ?_ (by simp <;> omega) _ | refine Below.alloc ?_ (by simp <;> omega) _ | refine Below.drew ?_ | refine below_drewN ?_ _))) (PA0_1.out.below (by repeat (first | exact Below.refl _ _ | exact Hid.out (by assumption) | refine below_alloc ?_ _ | refine Below.setCell ?_ (by simp <;> omega) _ | refine Below.alloc ?_ (by simp <;> omega) _ | refine Below.drew ?_ | refine below_drewN ?_ _))) (PA0_2.out.below (by repeat (first | exact Below.refl _ _ | exact Hid.out (by assumption) | refine below_alloc ?_ _ | refine Below.setCell ?_ (by simp <;> omega) _ | refine Below.alloc ?_ (by simp <;> omega) _ | refine Below.drew ?_ | refine below_drewN ?_ _))) (PA0_3.out.below (by repeat (first | exact Below.refl _ _ | exact Hid.out (by assumption) | refine below_alloc ?_ _ | refine Below.setCell ?_ (by simp <;> omega) _ | refine Below.alloc ?_ (by simp <;> omega) _ | refine Below.drew ?_ | refine below_drewN ?_ _))) (PA0_4.out.below (by repeat (first | exact Below.refl _ _ | exact Hid.out (by assumption) | refine below_alloc ?_ _ | refine Below.setCell ?_ (by simp <;> omega) _ | refine Below.alloc ?_ (by simp <;> omega) _ | refine Below.drew ?_ | refine below_drewN ?_ _))) (PA0_5.out.below (by repeat (first | exact Below.refl _ _ | exact Hid.out (by assumption) | refine below_alloc ?_ _ | refine Below.setCell ?_ (by simp <;> omega) _ | refine Below.alloc ?_ (by simp <;> omega) _ | refine Below.drew ?_ | refine below_drewN ?_ _))) (PA0_6.out.below (by repeat (first | exact Below.refl _ _ | exact Hid.out (by assumption) | refine below_alloc ?_ _ | refine Below.setCell ?_ (by simp <;> omega) _ | refine Below.alloc ?_ (by simp <;> omega) _ | refine Below.drew ?_ | refine below_drewN ?_ _)))).mono ?_
  rintro e w2 ⟨g0_w2, g1_w2, g2_w2, g3_w2, g4_w2, g5_w2, g6_w2, rfl, hg0, hg1, hg2, hg3, hg4, hg5, hg6, hg7, ho0, ho1, ho2, ho3, ho4, ho5, ho6, hb⟩
  have N_w2 := Lib.hid (show Below w1.heap.size w1 w2 from Below.trans (by repeat (first | exact Below.refl _ _ | exact Hid.out (by assumption) | refine below_alloc ?_ _ | refine Below.setCell ?_ (by simp <;> omega) _ | refine Below.alloc ?_ (by simp <;> omega) _ | refine Below.drew ?_ | refine below_drewN ?_ _)) (hb.mono (by simp <;> omega)))
  have B_w2 := Lib.hid (B_w1.out.trans (N_w2.out.mono B_w1.out.size))
  have S_w2 := Lib.hid (show w1.heap.size ≤ w2.heap.size from N_w2.out.size)
  clear X0a X0b X0c X0d X0e X0f X0g X0h X0i X0j X0k X0l X0m
  have X0_w2 := Lib.hid (X0_w1.out.below N_w2.out)
  clear X0_w1
  obtain ⟨X0a, X0b, X0c, X0d, X0e, X0f, X0g, X0h, X0i, X0j, X0k, X0l, X0m⟩ := X0_w2.out
  have C0_0_w2 := Lib.hid ho0
  have C0_1_w2 := Lib.hid ho1
  have C0_2_w2 := Lib.hid ho2
  have C0_3_w2 := Lib.hid ho3
  have C0_4_w2 := Lib.hid ho4
  have C0_5_w2 := Lib.hid ho5
  have C0_6_w2 := Lib.hid ho6
  have G_w2 := Lib.hid (show w1.heap.size + 0 ≤ g0_w2 ∧ g0_w2 < g1_w2 ∧ g1_w2 < g2_w2 ∧ g2_w2 < g3_w2 ∧ g3_w2 < g4_w2 ∧ g4_w2 < g5_w2 ∧ g5_w2 < g6_w2 ∧ g6_w2 < w2.heap.size from ⟨by first | omega | (simp at hg0; omega), hg1, hg2, hg3, hg4, hg5, hg6, hg7⟩)
  clear hb hg0 hg1 hg2 hg3 hg4 hg5 hg6 hg7 ho0 ho1 ho2 ho3 ho4 ho5 ho6
  go_wp2_with fail
  refine (HS.out _ _ _ _ _ _ _ _ _ _ _ _ _ _ _ (C0_0_w2.out.cells.below (by repeat (first | exact Below.refl _ _ | exact Hid.out (by assumption) | refine below_alloc ?_ _ | refine Below.setCell ?_ (by simp <;> omega) _ | refine Below.alloc ?_ (by simp <;> omega) _ | refine Below.drew ?_ | refine below_drewN ?_ _))) (C0_1_w2.out.cells.below (by repeat (first | exact Below.refl _ _ | exact Hid.out (by assumption) | refine below_alloc ?_ _ | refine Below.setCell ?_ (by simp <;> omega) _ | refine Below.alloc ?_ (by simp <;> omega) _ | refine Below.drew ?_ | refine below_drewN ?_ _))) (C0_2_w2.out.cells.below (by repeat (first | exact Below.refl _ _ | exact Hid.out (by assumption) | refine below_alloc ?_ _ | refine Below.setCell ?_ (by simp <;> omega) _ | refine Below.alloc ?_ (by simp <;> omega) _ | refine Below.drew ?_ | refine below_drewN ?_ _))) (C0_3_w2.out.cells.below (by repeat (first | exact Below.refl _ _ | exact Hid.out (by assumption) | refine below_alloc ?_ _ | refine Below.setCell ?_ (by simp <;> omega) _ | refine Below.alloc ?_ (by simp <;> omega) _ | refine Below.drew ?_ | refine below_drewN ?_ _))) (C0_4_w2.out.cells.below (by repeat (first | exact Below.refl _ _ | exact Hid.out (by assumption) | refine below_alloc ?_ _ | refine Below.setCell ?_ (by simp <;> omega) _ | refine Below.alloc ?_ (by simp <;> omega) _ | refine Below.drew ?_ | refine below_drewN ?_ _))) (C0_5_w2.out.cells.below (by repeat (first | exact Below.refl _ _ | exact Hid.out (by assumption) | refine below_alloc ?_ _ | refine Below.setCell ?_ (by simp <;> omega) _ | refine Below.alloc ?_ (by simp <;> omega) _ | refine Below.drew ?_ | refine below_drewN ?_ _))) (C0_6_w2.out.cells.below (by repeat (first | exact Below.refl _ _ | exact Hid.out (by assumption) | refine below_alloc ?_ _ | refine Below.setCell ?_ (by simp <;> omega) _ | refine Below.alloc ?_ (by simp <;> omega) _ | refine Below.drew ?_ | refine below_drewN ?_ _)))).mono ?_
  rintro e w3 ⟨rfl, hb⟩
  have N_w3 := Lib.hid (show Below w2.heap.size w2 w3 from Below.trans (by repeat (first | exact Below.refl _ _ | exact Hid.out (by assumption) | refine below_alloc ?_ _ | refine Below.setCell ?_ (by simp <;> omega) _ | refine Below.alloc ?_ (by simp <;> omega) _ | refine Below.drew ?_ | refine below_drewN ?_ _)) (hb.mono (by simp <;> omega)))
  have B_w3 := Lib.hid (B_w2.out.trans (N_w3.out.mono B_w2.out.size))
  have S_w3 := Lib.hid (show w2.heap.size ≤ w3.heap.size from N_w3.out.size)
  clear X0a X0b X0c X0d X0e X0f X0g X0h X0i X0j X0k X0l X0m
  have X0_w3 := Lib.hid (X0_w2.out.below N_w3.out)
  clear X0_w2
  have C0_0_w3 := Lib.hid (C0_0_w2.out.below N_w3.out)
  clear C0_0_w2
  have C0_1_w3 := Lib.hid (C0_1_w2.out.below N_w3.out)
  clear C0_1_w2
  have C0_2_w3 := Lib.hid (C0_2_w2.out.below N_w3.out)
  clear C0_2_w2
  have C0_3_w3 := Lib.hid (C0_3_w2.out.below N_w3.out)
  clear C0_3_w2
  have C0_4_w3 := Lib.hid (C0_4_w2.out.below N_w3.out)
  clear C0_4_w2
  have C0_5_w3 := Lib.hid (C0_5_w2.out.below N_w3.out)
  clear C0_5_w2
  have C0_6_w3 := Lib.hid (C0_6_w2.out.below N_w3.out)
  clear C0_6_w2
  obtain ⟨X0a, X0b, X0c, X0d, X0e, X0f, X0g, X0h, X0i, X0j, X0k, X0l, X0m⟩ := X0_w3.out
  clear hb
  clear C0_0_w3
  clear C0_1_w3
  clear C0_2_w3
  clear C0_3_w3
  clear C0_4_w3
  clear C0_5_w3
  clear C0_6_w3
  go_wp2_with fail
  refine (HT0.out _ (PA0_0.out.below (by repeat (first | exact Below.refl _ _ | exact Hid.out (by assumption) | refine below_alloc ?_ _ | refine Below.setCell ?_ (by simp <;> omega) _ | refine Below.alloc ?_ (by simp <;> omega) _ | refine Below.drew ?_ | refine below_drewN ?_ _))) (PA0_1.out.below (by repeat (first | exact Below.refl _ _ | exact Hid.out (by assumption) | refine below_alloc ?_ _ | refine Below.setCell ?_ (by simp <;> omega) _ | refine Below.alloc ?_ (by simp <;> omega) _ | refine Below.drew ?_ | refine below_drewN ?_ _))) (PA0_2.out.below (by repeat (first | exact Below.refl _ _ | exact Hid.out (by assumption) | refine below_alloc ?_ _ | refine Below.setCell ?_ (by simp <;> omega) _ | refine Below.alloc ?_ (by simp <;> omega) _ | refine Below.drew ?_ | refine below_drewN ?_ _))) (PA0_3.out.below (by repeat (first | exact Below.refl _ _ | exact Hid.out (by assumption) | refine below_alloc ?_ _ | refine Below.setCell ?_ (by simp <;> omega) _ | refine Below.alloc ?_ (by simp <;> omega) _ | refine Below.drew ?_ | refine below_drewN ?_ _))) (PA0_4.out.below (by repeat (first | exact Below.refl _ _ | exact Hid.out (by assumption) | refine below_alloc ?_ _ | refine Below.setCell ?_ (by simp <;> omega) _ | refine Below.alloc ?_ (by simp <;> omega) _ | refine Below.drew ?_ | refine below_drewN ?_ _))) (PA0_5.out.below (by repeat (first | exact Below.refl _ _ | exact Hid.out (by assumption) | refine below_alloc ?_ _ | refine Below.setCell ?_ (by simp <;> omega) _ | refine Below.alloc ?_ (by simp <;> omega) _ | refine Below.drew ?_ | refine below_drewN ?_ _))) (PA0_6.out.below (by repeat (first | exact Below.refl _ _ | exact Hid.out (by assumption) | refine below_alloc ?_ _ | refine Below.setCell ?_ (by simp <;> omega) _ | refine Below.alloc ?_ (by simp <;> omega) _ | refine Below.drew ?_ | refine below_drewN ?_ _)))).mono ?_
  rintro e w4 ⟨g0_w4, g1_w4, g2_w4, g3_w4, g4_w4, g5_w4, g6_w4, rfl, hg0, hg1, hg2, hg3, hg4, hg5, hg6, hg7, ho0, ho1, ho2, ho3, ho4, ho5, ho6, hb⟩
  have N_w4 := Lib.hid (show Below w3.heap.size w3 w4 from Below.trans (by repeat (first | exact Below.refl _ _ | exact Hid.out (by assumption) | refine below_alloc ?_ _ | refine Below.setCell ?_ (by simp <;> omega) _ | refine Below.alloc ?_ (by simp <;> omega) _ | refine Below.drew ?_ | refine below_drewN ?_ _)) (hb.mono (by simp <;> omega)))
  have B_w4 := Lib.hid (B_w3.out.trans (N_w4.out.mono B_w3.out.size))
  have S_w4 := Lib.hid (show w3.heap.size ≤ w4.heap.size from N_w4.out.size)
  clear X0a X0b X0c X0d X0e X0f X0g X0h X0i X0j X0k X0l X0m
  have X0_w4 := Lib.hid (X0_w3.out.below N_w4.out)
  clear X0_w3
  obtain ⟨X0a, X0b, X0c, X0d, X0e, X0f, X0g, X0h, X0i, X0j, X0k, X0l, X0m⟩ := X0_w4.out
  have Y0_0_w4 := Lib.hid ho0
  have Y0_1_w4 := Lib.hid ho1
  have Y0_2_w4 := Lib.hid ho2
  have Y0_3_w4 := Lib.hid ho3
  have Y0_4_w4 := Lib.hid ho4
  have Y0_5_w4 := Lib.hid ho5
  have Y0_6_w4 := Lib.hid ho6
  have G_w4 := Lib.hid (show w3.heap.size + 0 ≤ g0_w4 ∧ g0_w4 < g1_w4 ∧ g1_w4 < g2_w4 ∧ g2_w4 < g3_w4 ∧ g3_w4 < g4_w4 ∧ g4_w4 < g5_w4 ∧ g5_w4 < g6_w4 ∧ g6_w4 < w4.heap.size from ⟨by first | omega | (simp at hg0; omega), hg1, hg2, hg3, hg4, hg5, hg6, hg7⟩)
  clear hb hg0 hg1 hg2 hg3 hg4 hg5 hg6 hg7 ho0 ho1 ho2 ho3 ho4 ho5 ho6
  have X0aq := X0_w4.out.a0
  have X0bq := X0_w4.out.a1
  have X0cq := X0_w4.out.a2
  have X0dq := X0_w4.out.a3
  have X0eq := X0_w4.out.a4
  have X0fq := X0_w4.out.a5
  have X0gq := X0_w4.out.a6
  have X0hq := X0_w4.out.a7
  have X0iq := X0_w4.out.a8
  have X0jq := X0_w4.out.a9
  have X0kq := X0_w4.out.a10
  have X0lq := X0_w4.out.a11
  have X0mq := X0_w4.out.a12
  go_wp2_with fail
  refine (HI.out _ _ _ _ _ _ _ _ _ _ _ _ _ _ _ (Y0_0_w4.out.cells.below (by repeat (first | exact Below.refl _ _ | exact Hid.out (by assumption) | refine below_alloc ?_ _ | refine Below.setCell ?_ (by simp <;> omega) _ | refine Below.alloc ?_ (by simp <;> omega) _ | refine Below.drew ?_ | refine below_drewN ?_ _))) (Y0_1_w4.out.cells.below (by repeat (first | exact Below.refl _ _ | exact Hid.out (by assumption) | refine below_alloc ?_ _ | refine Below.setCell ?_ (by simp <;> omega) _ | refine Below.alloc ?_ (by simp <;> omega) _ | refine Below.drew ?_ | refine below_drewN ?_ _))) (Y0_2_w4.out.cells.below (by repeat (first | exact Below.refl _ _ | exact Hid.out (by assumption) | refine below_alloc ?_ _ | refine Below.setCell ?_ (by simp <;> omega) _ | refine Below.alloc ?_ (by simp <;> omega) _ | refine Below.drew ?_ | refine below_drewN ?_ _))) (Y0_3_w4.out.cells.below (by repeat (first | exact Below.refl _ _ | exact Hid.out (by assumption) | refine below_alloc ?_ _ | refine Below.setCell ?_ (by simp <;> omega) _ | refine Below.alloc ?_ (by simp <;> omega) _ | refine Below.drew ?_ | refine below_drewN ?_ _))) (Y0_4_w4.out.cells.below (by repeat (first | exact Below.refl _ _ | exact Hid.out (by assumption) | refine below_alloc ?_ _ | refine Below.setCell ?_ (by simp <;> omega) _ | refine Below.alloc ?_ (by simp <;> omega) _ | refine Below.drew ?_ | refine below_drewN ?_ _))) (Y0_5_w4.out.cells.below (by repeat (first | exact Below.refl _ _ | exact Hid.out (by assumption) | refine below_alloc ?_ _ | refine Below.setCell ?_ (by simp <;> omega) _ | refine Below.alloc ?_ (by simp <;> omega) _ | refine Below.drew ?_ | refine below_drewN ?_ _))) (Y0_6_w4.out.cells.below (by repeat (first | exact Below.refl _ _ | exact Hid.out (by assumption) | refine below_alloc ?_ _ | refine Below.setCell ?_ (by simp <;> omega) _ | refine Below.alloc ?_ (by simp <;> omega) _ | refine Below.drew ?_ | refine below_drewN ?_ _)))).mono ?_
  rintro e w5 ⟨rfl, hb⟩
  have N_w5 := Lib.hid (show Below w4.heap.size w4 w5 from Below.trans (by repeat (first | exact Below.refl _ _ | exact Hid.out (by assumption) | refine below_alloc ?_ _ | refine Below.setCell ?_ (by simp <;> omega) _ | refine Below.alloc ?_ (by simp <;> omega) _ | refine Below.drew ?_ | refine below_drewN ?_ _)) (hb.mono (by simp <;> omega)))
  have B_w5 := Lib.hid (B_w4.out.trans (N_w5.out.mono B_w4.out.size))
  have S_w5 := Lib.hid (show w4.heap.size ≤ w5.heap.size from N_w5.out.size)
  clear X0a X0b X0c X0d X0e X0f X0g X0h X0i X0j X0k X0l X0m X0aq X0bq X0cq X0dq X0eq X0fq X0gq X0hq X0iq X0jq X0kq X0lq X0mq
  have X0_w5 := Lib.hid (X0_w4.out.below N_w5.out)
  clear X0_w4
  have Y0_0_w5 := Lib.hid (Y0_0_w4.out.below N_w5.out)
  clear Y0_0_w4
  have Y0_1_w5 := Lib.hid (Y0_1_w4.out.below N_w5.out)
  clear Y0_1_w4
  have Y0_2_w5 := Lib.hid (Y0_2_w4.out.below N_w5.out)
  clear Y0_2_w4
  have Y0_3_w5 := Lib.hid (Y0_3_w4.out.below N_w5.out)
  clear Y0_3_w4
  have Y0_4_w5 := Lib.hid (Y0_4_w4.out.below N_w5.out)
  clear Y0_4_w4
  have Y0_5_w5 := Lib.hid (Y0_5_w4.out.below N_w5.out)
  clear Y0_5_w4
  have Y0_6_w5 := Lib.hid (Y0_6_w4.out.below N_w5.out)
  clear Y0_6_w4
  have Z0_w5 := Lib.hid (Box13.below (Box13.new w4 44 (.int .i64 s10) (.int .i64 l10) (.slice (some ⟨g0_w4, 0, none⟩) n10 n10) (.slice (some ⟨g1_w4, 0, none⟩) n20 n20) (.slice (some ⟨g2_w4, 0, none⟩) n30 n30) (.int .i64 s20) (.int .i64 l20) (.slice (some ⟨g3_w4, 0, none⟩) n40 n40) (.slice (some ⟨g4_w4, 0, none⟩) n50 n50) (.int .i64 s30) (.int .i64 l30) (.slice (some ⟨g5_w4, 0, none⟩) n60 n60) (.slice (some ⟨g6_w4, 0, none⟩) n70 n70)) hb)
  obtain ⟨X0a, X0b, X0c, X0d, X0e, X0f, X0g, X0h, X0i, X0j, X0k, X0l, X0m⟩ := X0_w5.out
  obtain ⟨Z0a, Z0b, Z0c, Z0d, Z0e, Z0f, Z0g, Z0h, Z0i, Z0j, Z0k, Z0l, Z0m⟩ := Z0_w5.out
  clear hb
  go_upto_region 10 with fail
  go_cut [26] from 22 to 26 (fun s wx => s = .bool false ∧ Below w5.heap.size w5 wx)
  case first =>
    go_region_with (first
      | (go_at_call 8
         refine (HT0.out _ (PA0_0.out.below (by repeat (first | exact Below.refl _ _ | exact Hid.out (by assumption) | refine below_alloc ?_ _ | refine Below.setCell ?_ (by simp <;> omega) _ | refine Below.alloc ?_ (by simp <;> omega) _ | refine Below.drew ?_ | refine below_drewN ?_ _))) (PA0_1.out.below (by repeat (first | exact Below.refl _ _ | exact Hid.out (by assumption) | refine below_alloc ?_ _ | refine Below.setCell ?_ (by simp <;> omega) _ | refine Below.alloc ?_ (by simp <;> omega) _ | refine Below.drew ?_ | refine below_drewN ?_ _))) (PA0_2.out.below (by repeat (first | exact Below.refl _ _ | exact Hid.out (by assumption) | refine below_alloc ?_ _ | refine Below.setCell ?_ (by simp <;> omega) _ | refine Below.alloc ?_ (by simp <;> omega) _ | refine Below.drew ?_ | refine below_drewN ?_ _))) (PA0_3.out.below (by repeat (first | exact Below.refl _ _ | exact Hid.out (by assumption) | refine below_alloc ?_ _ | refine Below.setCell ?_ (by simp <;> omega) _ | refine Below.alloc ?_ (by simp <;> omega) _ | refine Below.drew ?_ | refine below_drewN ?_ _))) (PA0_4.out.below (by repeat (first | exact Below.refl _ _ | exact Hid.out (by assumption) | refine below_alloc ?_ _ | refine Below.setCell ?_ (by simp <;> omega) _ | refine Below.alloc ?_ (by simp <;> omega) _ | refine Below.drew ?_ | refine below_drewN ?_ _))) (PA0_5.out.below (by repeat (first | exact Below.refl _ _ | exact Hid.out (by assumption) | refine below_alloc ?_ _ | refine Below.setCell ?_ (by simp <;> omega) _ | refine Below.alloc ?_ (by simp <;> omega) _ | refine Below.drew ?_ | refine below_drewN ?_ _))) (PA0_6.out.below (by repeat (first | exact Below.refl _ _ | exact Hid.out (by assumption) | refine below_alloc ?_ _ | refine Below.setCell ?_ (by simp <;> omega) _ | refine Below.alloc ?_ (by simp <;> omega) _ | refine Below.drew ?_ | refine below_drewN ?_ _)))).mono ?_
         rintro e u1 ⟨g0_u1, g1_u1, g2_u1, g3_u1, g4_u1, g5_u1, g6_u1, rfl, hg0, hg1, hg2, hg3, hg4, hg5, hg6, hg7, ho0, ho1, ho2, ho3, ho4, ho5, ho6, hb⟩
         have N_u1 := Lib.hid (show Below w5.heap.size w5 u1 from Below.trans (by repeat (first | exact Below.refl _ _ | exact Hid.out (by assumption) | refine below_alloc ?_ _ | refine Below.setCell ?_ (by simp <;> omega) _ | refine Below.alloc ?_ (by simp <;> omega) _ | refine Below.drew ?_ | refine below_drewN ?_ _)) (hb.mono (by simp)))
         have K_0 := Lib.hid ho0.cells
         have K_1 := Lib.hid ho1.cells
         have K_2 := Lib.hid ho2.cells
         have K_3 := Lib.hid ho3.cells
         have K_4 := Lib.hid ho4.cells
         have K_5 := Lib.hid ho5.cells
         have K_6 := Lib.hid ho6.cells
         obtain ⟨zZ0a, zZ0b, zZ0c, zZ0d, zZ0e, zZ0f, zZ0g, zZ0h, zZ0i, zZ0j, zZ0k, zZ0l, zZ0m⟩ := Z0_w5.out.below N_u1.out
         clear hb ho0 ho1 ho2 ho3 ho4 ho5 ho6)
      | (go_at_call 10
         refine (HE0.out _ _ _ _ _ _ _ _ _ _ _ _ _ _ _ _ _ _ _ _ _ _ _ _ _ _ _ _ _ (Y0_0_w5.out.cells.below (by repeat (first | exact Below.refl _ _ | exact Hid.out (by assumption) | refine below_alloc ?_ _ | refine Below.setCell ?_ (by simp <;> omega) _ | refine Below.alloc ?_ (by simp <;> omega) _ | refine Below.drew ?_ | refine below_drewN ?_ _))) (Y0_1_w5.out.cells.below (by repeat (first | exact Below.refl _ _ | exact Hid.out (by assumption) | refine below_alloc ?_ _ | refine Below.setCell ?_ (by simp <;> omega) _ | refine Below.alloc ?_ (by simp <;> omega) _ | refine Below.drew ?_ | refine below_drewN ?_ _))) (Y0_2_w5.out.cells.below (by repeat (first | exact Below.refl _ _ | exact Hid.out (by assumption) | refine below_alloc ?_ _ | refine Below.setCell ?_ (by simp <;> omega) _ | refine Below.alloc ?_ (by simp <;> omega) _ | refine Below.drew ?_ | refine below_drewN ?_ _))) (Y0_3_w5.out.cells.below (by repeat (first | exact Below.refl _ _ | exact Hid.out (by assumption) | refine below_alloc ?_ _ | refine Below.setCell ?_ (by simp <;> omega) _ | refine Below.alloc ?_ (by simp <;> omega) _ | refine Below.drew ?_ | refine below_drewN ?_ _))) (Y0_4_w5.out.cells.below (by repeat (first | exact Below.refl _ _ | exact Hid.out (by assumption) | refine below_alloc ?_ _ | refine Below.setCell ?_ (by simp <;> omega) _ | refine Below.alloc ?_ (by simp <;> omega) _ | refine Below.drew ?_ | refine below_drewN ?_ _))) (Y0_5_w5.out.cells.below (by repeat (first | exact Below.refl _ _ | exact Hid.out (by assumption) | refine below_alloc ?_ _ | refine Below.setCell ?_ (by simp <;> omega) _ | refine Below.alloc ?_ (by simp <;> omega) _ | refine Below.drew ?_ | refine below_drewN ?_ _))) (Y0_6_w5.out.cells.below (by repeat (first | exact Below.refl _ _ | exact Hid.out (by assumption) | refine below_alloc ?_ _ | refine Below.setCell ?_ (by simp <;> omega) _ | refine Below.alloc ?_ (by simp <;> omega) _ | refine Below.drew ?_ | refine below_drewN ?_ _))) (K_0.out.below (by repeat (first | exact Below.refl _ _ | exact Hid.out (by assumption) | refine below_alloc ?_ _ | refine Below.setCell ?_ (by simp <;> omega) _ | refine Below.alloc ?_ (by simp <;> omega) _ | refine Below.drew ?_ | refine below_drewN ?_ _))) (K_1.out.below (by repeat (first | exact Below.refl _ _ | exact Hid.out (by assumption) | refine below_alloc ?_ _ | refine Below.setCell ?_ (by simp <;> omega) _ | refine Below.alloc ?_ (by simp <;> omega) _ | refine Below.drew ?_ | refine below_drewN ?_ _))) (K_2.out.below (by repeat (first | exact Below.refl _ _ | exact Hid.out (by assumption) | refine below_alloc ?_ _ | refine Below.setCell ?_ (by simp <;> omega) _ | refine Below.alloc ?_ (by simp <;> omega) _ | refine Below.drew ?_ | refine below_drewN ?_ _))) (K_3.out.below (by repeat (first | exact Below.refl _ _ | exact Hid.out (by assumption) | refine below_alloc ?_ _ | refine Below.setCell ?_ (by simp <;> omega) _ | refine Below.alloc ?_ (by simp <;> omega) _ | refine Below.drew ?_ | refine below_drewN ?_ _))) (K_4.out.below (by repeat (first | exact Below.refl _ _ | exact Hid.out (by assumption) | refine below_alloc ?_ _ | refine Below.setCell ?_ (by simp <;> omega) _ | refine Below.alloc ?_ (by simp <;> omega) _ | refine Below.drew ?_ | refine below_drewN ?_ _))) (K_5.out.below (by repeat (first | exact Below.refl _ _ | exact Hid.out (by assumption) | refine below_alloc ?_ _ | refine Below.setCell ?_ (by simp <;> omega) _ | refine Below.alloc ?_ (by simp <;> omega) _ | refine Below.drew ?_ | refine below_drewN ?_ _))) (K_6.out.below (by repeat (first | exact Below.refl _ _ | exact Hid.out (by assumption) | refine below_alloc ?_ _ | refine Below.setCell ?_ (by simp <;> omega) _ | refine Below.alloc ?_ (by simp <;> omega) _ | refine Below.drew ?_ | refine below_drewN ?_ _)))).mono ?_
         rintro e u2 ⟨rfl, hb⟩
         have N_u2 := Lib.hid (show Below w5.heap.size w5 u2 from Below.trans (show Below w5.heap.size w5 _ from (by repeat (first | exact Below.refl _ _ | exact Hid.out (by assumption) | refine below_alloc ?_ _ | refine Below.setCell ?_ (by simp <;> omega) _ | refine Below.alloc ?_ (by simp <;> omega) _ | refine Below.drew ?_ | refine below_drewN ?_ _))) (hb.mono (by first | exact N_u1.out.size | simp [N_u1.out.size])))
         clear hb))
    all_goals (go_wp2_with fail; go_meet; exact ⟨rfl, N_u2.out⟩)
  case rest =>
  obtain ⟨rfl, hb⟩ := hcut
  obtain ⟨w6, rfl⟩ : ∃ u, u = wc := ⟨_, rfl⟩
  have N_w6 := Lib.hid hb
  clear hb
  have B_w6 := Lib.hid (B_w5.out.trans (N_w6.out.mono B_w5.out.size))
  have S_w6 := Lib.hid (show w5.heap.size ≤ w6.heap.size from N_w6.out.size)
  clear X0a X0b X0c X0d X0e X0f X0g X0h X0i X0j X0k X0l X0m Z0a Z0b Z0c Z0d Z0e Z0f Z0g Z0h Z0i Z0j Z0k Z0l Z0m
  have X0_w6 := Lib.hid (X0_w5.out.below N_w6.out)
  clear X0_w5
  have Y0_0_w6 := Lib.hid (Y0_0_w5.out.below N_w6.out)
  clear Y0_0_w5
  have Y0_1_w6 := Lib.hid (Y0_1_w5.out.below N_w6.out)
  clear Y0_1_w5
  have Y0_2_w6 := Lib.hid (Y0_2_w5.out.below N_w6.out)
  clear Y0_2_w5
  have Y0_3_w6 := Lib.hid (Y0_3_w5.out.below N_w6.out)
  clear Y0_3_w5
  have Y0_4_w6 := Lib.hid (Y0_4_w5.out.below N_w6.out)
  clear Y0_4_w5
  have Y0_5_w6 := Lib.hid (Y0_5_w5.out.below N_w6.out)
  clear Y0_5_w5
  have Y0_6_w6 := Lib.hid (Y0_6_w5.out.below N_w6.out)
  clear Y0_6_w5
  have Z0_w6 := Lib.hid (Z0_w5.out.below N_w6.out)
  clear Z0_w5
  obtain ⟨X0a, X0b, X0c, X0d, X0e, X0f, X0g, X0h, X0i, X0j, X0k, X0l, X0m⟩ := X0_w6.out
  obtain ⟨Z0a, Z0b, Z0c, Z0d, Z0e, Z0f, Z0g, Z0h, Z0i, Z0j, Z0k, Z0l, Z0m⟩ := Z0_w6.out
  go_wp2_with fail
  go_ret
  exact ⟨rfl, B_w6.out⟩
end Go.Proofs.Yteagfbedbbnomaa
