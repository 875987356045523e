/- The law on SameDesk walked. -/
import Derived.Test.YteagfbedbbnomaaDeskS
import Derived.Test.YteagfbedbbnomaaOpenDesk
import Derived.Deep.CutRange
set_option linter.unusedVariables false
namespace Go.Proofs.Yteagfbedbbnomaa
open Go.RowKit

set_option maxHeartbeats 32000000 in
theorem fnExactSameDesk.walk (s10 l10 s20 l20 s30 l30 : Int) (A10 : Option Addr) (n10 c10 : Nat) (A20 : Option Addr) (n20 c20 : Nat) (A30 : Option Addr) (n30 c30 : Nat) (A40 : Option Addr) (n40 c40 : Nat) (A50 : Option Addr) (n50 c50 : Nat) (A60 : Option Addr) (n60 c60 : Nat) (A70 : Option Addr) (n70 c70 : Nat) (f10 : Nat → Int) (f20 : Nat → Int) (f30 : Nat → Int) (f40 : Nat → Int) (f50 : Nat → Bool) (f60 : Nat → Int) (f70 : Nat → Int) (s11 l11 s21 l21 s31 l31 : Int) (A11 : Option Addr) (n11 c11 : Nat) (A21 : Option Addr) (n21 c21 : Nat) (A31 : Option Addr) (n31 c31 : Nat) (A41 : Option Addr) (n41 c41 : Nat) (A51 : Option Addr) (n51 c51 : Nat) (A61 : Option Addr) (n61 c61 : Nat) (A71 : Option Addr) (n71 c71 : Nat) (f11 : Nat → Int) (f21 : Nat → Int) (f31 : Nat → Int) (f41 : Nat → Int) (f51 : Nat → Bool) (f61 : Nat → Int) (f71 : Nat → Int) (w : World) (H0 : DeskIn w s10 l10 s20 l20 s30 l30 A10 n10 A20 n20 A30 n30 A40 n40 A50 n50 A60 n60 A70 n70 f10 f20 f30 f40 f50 f60 f70) (H1 : DeskIn w s11 l11 s21 l21 s31 l31 A11 n11 A21 n21 A31 n31 A41 n41 A51 n51 A61 n61 A71 n71 f11 f21 f31 f41 f51 f61 f71) :
    Calls Try.prog 4 #[.agg #[.int .i64 s10, .int .i64 l10, .slice A10 n10 c10, .slice A20 n20 c20, .slice A30 n30 c30, .int .i64 s20, .int .i64 l20, .slice A40 n40 c40, .slice A50 n50 c50, .int .i64 s30, .int .i64 l30, .slice A60 n60 c60, .slice A70 n70 c70], .agg #[.int .i64 s11, .int .i64 l11, .slice A11 n11 c11, .slice A21 n21 c21, .slice A31 n31 c31, .int .i64 s21, .int .i64 l21, .slice A41 n41 c41, .slice A51 n51 c51, .int .i64 s31, .int .i64 l31, .slice A61 n61 c61, .slice A71 n71 c71]] w fun e w' => e = .returned (.bool true) ∧ Below w.heap.size w w' := by
  have PA0_0 := Lib.hid H0.ca1
  have PA0_1 := Lib.hid H0.ca2
  have PA0_2 := Lib.hid H0.ca3
  have PA0_3 := Lib.hid H0.ca4
  have PA0_4 := Lib.hid H0.ca5
  have PA0_5 := Lib.hid H0.ca6
  have PA0_6 := Lib.hid H0.ca7
  have na0_0 := H0.na1
  have na0_1 := H0.na2
  have na0_2 := H0.na3
  have na0_3 := H0.na4
  have na0_4 := H0.na5
  have na0_5 := H0.na6
  have na0_6 := H0.na7
  clear H0
  have PA1_0 := Lib.hid H1.ca1
  have PA1_1 := Lib.hid H1.ca2
  have PA1_2 := Lib.hid H1.ca3
  have PA1_3 := Lib.hid H1.ca4
  have PA1_4 := Lib.hid H1.ca5
  have PA1_5 := Lib.hid H1.ca6
  have PA1_6 := Lib.hid H1.ca7
  have na1_0 := H1.na1
  have na1_1 := H1.na2
  have na1_2 := H1.na3
  have na1_3 := H1.na4
  have na1_4 := H1.na5
  have na1_5 := H1.na6
  have na1_6 := H1.na7
  clear H1
  by_cases hb0 : (n10 : Int) + n20 + n30 + n40 + n50 + n60 + n70 ≤ 1048576
  rotate_left
  · have HN0 := Lib.hid (fun W => szDesk_no s10 l10 s20 l20 s30 l30 A10 A20 A30 A40 A50 A60 A70 n10 c10 n20 c20 n30 c30 n40 c40 n50 c50 n60 c60 n70 c70 1048576 W (by omega) (by omega) na0_0 na0_1 na0_2 na0_3 na0_4 na0_5 na0_6 hb0)
    go_enter Try.func4, Try.ntmps4
    go_wp2_with fail
    refine (HN0.out _).mono ?_
    rintro e w1 ⟨rfl, hb⟩
    have N_e := Lib.hid (show Below w.heap.size w _ from Below.trans (by repeat (first | exact Below.refl _ _ | exact Hid.out (by assumption) | refine below_alloc ?_ _ | refine Below.setCell ?_ (by simp <;> omega) _ | refine Below.alloc ?_ (by simp <;> omega) _ | refine Below.drew ?_ | refine below_drewN ?_ _)) (hb.mono (by simp <;> omega)))
    have B_e := Lib.hid (N_e.out)
    clear hb
    go_wp2_with fail
    go_ret
    exact ⟨rfl, B_e.out⟩
  have HZ0 := Lib.hid (fun W => szDesk_yes s10 l10 s20 l20 s30 l30 A10 A20 A30 A40 A50 A60 A70 n10 c10 n20 c20 n30 c30 n40 c40 n50 c50 n60 c60 n70 c70 1048576 W (by omega) hb0)
  by_cases hb1 : (n11 : Int) + n21 + n31 + n41 + n51 + n61 + n71 ≤ (1048576 - (n10 : Int) - n20 - n30 - n40 - n50 - n60 - n70)
  rotate_left
  · have HN1 := Lib.hid (fun W => szDesk_no s11 l11 s21 l21 s31 l31 A11 A21 A31 A41 A51 A61 A71 n11 c11 n21 c21 n31 c31 n41 c41 n51 c51 n61 c61 n71 c71 (1048576 - (n10 : Int) - n20 - n30 - n40 - n50 - n60 - n70) W (by omega) (by omega) na1_0 na1_1 na1_2 na1_3 na1_4 na1_5 na1_6 hb1)
    go_enter Try.func4, Try.ntmps4
    go_wp2_with fail
    refine (HZ0.out _).mono ?_
    rintro e w1 ⟨rfl, hb⟩
    have N_w1 := Lib.hid (show Below w.heap.size w w1 from Below.trans (by repeat (first | exact Below.refl _ _ | exact Hid.out (by assumption) | refine below_alloc ?_ _ | refine Below.setCell ?_ (by simp <;> omega) _ | refine Below.alloc ?_ (by simp <;> omega) _ | refine Below.drew ?_ | refine below_drewN ?_ _)) (hb.mono (by simp <;> omega)))
    have B_w1 := Lib.hid (show Below w.heap.size w w1 from N_w1.out)
    have S_w1 := Lib.hid (show w.heap.size ≤ w1.heap.size from N_w1.out.size)
    have X0_w1 := Lib.hid (Box13.below (Box13.alloc (Box13.new w 33 (.int .i64 s10) (.int .i64 l10) (.slice A10 n10 c10) (.slice A20 n20 c20) (.slice A30 n30 c30) (.int .i64 s20) (.int .i64 l20) (.slice A40 n40 c40) (.slice A50 n50 c50) (.int .i64 s30) (.int .i64 l30) (.slice A60 n60 c60) (.slice A70 n70 c70)) _) hb)
    have X1_w1 := Lib.hid (Box13.below (show Box13 _ (w.heap.size + 1) _ _ _ _ _ _ _ _ _ _ _ _ _ from by simpa using (Box13.new (w.alloc (.cells #[.int .i64 s10, .int .i64 l10, .slice A10 n10 c10, .slice A20 n20 c20, .slice A30 n30 c30, .int .i64 s20, .int .i64 l20, .slice A40 n40 c40, .slice A50 n50 c50, .int .i64 s30, .int .i64 l30, .slice A60 n60 c60, .slice A70 n70 c70] 33)) 33 (.int .i64 s11) (.int .i64 l11) (.slice A11 n11 c11) (.slice A21 n21 c21) (.slice A31 n31 c31) (.int .i64 s21) (.int .i64 l21) (.slice A41 n41 c41) (.slice A51 n51 c51) (.int .i64 s31) (.int .i64 l31) (.slice A61 n61 c61) (.slice A71 n71 c71))) hb)
    obtain ⟨X0a, X0b, X0c, X0d, X0e, X0f, X0g, X0h, X0i, X0j, X0k, X0l, X0m⟩ := X0_w1.out
    obtain ⟨X1a, X1b, X1c, X1d, X1e, X1f, X1g, X1h, X1i, X1j, X1k, X1l, X1m⟩ := X1_w1.out
    clear hb
    go_wp2_with fail
    refine (HN1.out _).mono ?_
    rintro e w2 ⟨rfl, hb⟩
    have N_e := Lib.hid (show Below w1.heap.size w1 _ from Below.trans (by repeat (first | exact Below.refl _ _ | exact Hid.out (by assumption) | refine below_alloc ?_ _ | refine Below.setCell ?_ (by simp <;> omega) _ | refine Below.alloc ?_ (by simp <;> omega) _ | refine Below.drew ?_ | refine below_drewN ?_ _)) (hb.mono (by simp <;> omega)))
    have B_e := Lib.hid (B_w1.out.trans (N_e.out.mono B_w1.out.size))
    clear hb
    clear X0a X0b X0c X0d X0e X0f X0g X0h X0i X0j X0k X0l X0m X1a X1b X1c X1d X1e X1f X1g X1h X1i X1j X1k X1l X1m
    go_wp2_with fail
    go_ret
    exact ⟨rfl, B_e.out⟩
  have HZ1 := Lib.hid (fun W => szDesk_yes s11 l11 s21 l21 s31 l31 A11 A21 A31 A41 A51 A61 A71 n11 c11 n21 c21 n31 c31 n41 c41 n51 c51 n61 c61 n71 c71 (1048576 - (n10 : Int) - n20 - n30 - n40 - n50 - n60 - n70) W (by omega) hb1)
  have HT0 := Lib.hid (fun W y1 y2 y3 y4 y5 y6 y7 => toDesk_any s10 l10 s20 l20 s30 l30 A10 A20 A30 A40 A50 A60 A70 n10 c10 n20 c20 n30 c30 n40 c40 n50 c50 n60 c60 n70 c70 f10 f20 f30 f40 f50 f60 f70 W (by omega) (by omega) (by omega) (by omega) (by omega) (by omega) (by omega) y1 y2 y3 y4 y5 y6 y7)
  have HE0 := Lib.hid (fun v0 v1 v2 v3 v4 v5 v6 v7 v8 v9 v10 v11 v12 v13 c0 c1 c2 c3 c4 c5 c6 e0 e1 e2 e3 e4 e5 e6 W y1 y2 y3 y4 y5 y6 y7 y8 y9 y10 y11 y12 y13 y14 => eqDesk_any s10 l10 s20 l20 s30 l30 v0 v1 v2 v3 v4 v5 v6 v7 v8 v9 v10 v11 v12 v13 n10 c0 n20 c1 n30 c2 n40 c3 n50 c4 n60 c5 n70 c6 e0 e1 e2 e3 e4 e5 e6 f10 f20 f30 f40 f50 f60 f70 W (by omega) (by omega) (by omega) (by omega) (by omega) (by omega) (by omega) y1 y2 y3 y4 y5 y6 y7 y8 y9 y10 y11 y12 y13 y14)
  have HT1 := Lib.hid (fun W y1 y2 y3 y4 y5 y6 y7 => toDesk_any s11 l11 s21 l21 s31 l31 A11 A21 A31 A41 A51 A61 A71 n11 c11 n21 c21 n31 c31 n41 c41 n51 c51 n61 c61 n71 c71 f11 f21 f31 f41 f51 f61 f71 W (by omega) (by omega) (by omega) (by omega) (by omega) (by omega) (by omega) y1 y2 y3 y4 y5 y6 y7)
  have HE1 := Lib.hid (fun v0 v1 v2 v3 v4 v5 v6 v7 v8 v9 v10 v11 v12 v13 c0 c1 c2 c3 c4 c5 c6 e0 e1 e2 e3 e4 e5 e6 W y1 y2 y3 y4 y5 y6 y7 y8 y9 y10 y11 y12 y13 y14 => eqDesk_any s11 l11 s21 l21 s31 l31 v0 v1 v2 v3 v4 v5 v6 v7 v8 v9 v10 v11 v12 v13 n11 c0 n21 c1 n31 c2 n41 c3 n51 c4 n61 c5 n71 c6 e0 e1 e2 e3 e4 e5 e6 f11 f21 f31 f41 f51 f61 f71 W (by omega) (by omega) (by omega) (by omega) (by omega) (by omega) (by omega) y1 y2 y3 y4 y5 y6 y7 y8 y9 y10 y11 y12 y13 y14)
  have HS := Lib.hid (fun vA10 vA20 vA30 vA40 vA50 vA60 vA70 vc10 vc20 vc30 vc40 vc50 vc60 vc70 vA11 vA21 vA31 vA41 vA51 vA61 vA71 vc11 vc21 vc31 vc41 vc51 vc61 vc71 W h0_0 h0_1 h0_2 h0_3 h0_4 h0_5 h0_6 h1_0 h1_1 h1_2 h1_3 h1_4 h1_5 h1_6 => specSameDesk_any s10 l10 s20 l20 s30 l30 vA10 vA20 vA30 vA40 vA50 vA60 vA70 n10 vc10 n20 vc20 n30 vc30 n40 vc40 n50 vc50 n60 vc60 n70 vc70 f10 f20 f30 f40 f50 f60 f70 s11 l11 s21 l21 s31 l31 vA11 vA21 vA31 vA41 vA51 vA61 vA71 n11 vc11 n21 vc21 n31 vc31 n41 vc41 n51 vc51 n61 vc61 n71 vc71 f11 f21 f31 f41 f51 f61 f71 W (by omega) (by omega) (by omega) (by omega) (by omega) (by omega) (by omega) h0_0 h0_1 h0_2 h0_3 h0_4 h0_5 h0_6 (by omega) (by omega) (by omega) (by omega) (by omega) (by omega) (by omega) h1_0 h1_1 h1_2 h1_3 h1_4 h1_5 h1_6)
  have HI := Lib.hid (fun vA10 vA20 vA30 vA40 vA50 vA60 vA70 vc10 vc20 vc30 vc40 vc50 vc60 vc70 vA11 vA21 vA31 vA41 vA51 vA61 vA71 vc11 vc21 vc31 vc41 vc51 vc61 vc71 W h0_0 h0_1 h0_2 h0_3 h0_4 h0_5 h0_6 h1_0 h1_1 h1_2 h1_3 h1_4 h1_5 h1_6 => implSameDesk_any s10 l10 s20 l20 s30 l30 vA10 vA20 vA30 vA40 vA50 vA60 vA70 n10 vc10 n20 vc20 n30 vc30 n40 vc40 n50 vc50 n60 vc60 n70 vc70 f10 f20 f30 f40 f50 f60 f70 s11 l11 s21 l21 s31 l31 vA11 vA21 vA31 vA41 vA51 vA61 vA71 n11 vc11 n21 vc21 n31 vc31 n41 vc41 n51 vc51 n61 vc61 n71 vc71 f11 f21 f31 f41 f51 f61 f71 W (by omega) (by omega) (by omega) (by omega) (by omega) (by omega) (by omega) h0_0 h0_1 h0_2 h0_3 h0_4 h0_5 h0_6 (by omega) (by omega) (by omega) (by omega) (by omega) (by omega) (by omega) h1_0 h1_1 h1_2 h1_3 h1_4 h1_5 h1_6)
  generalize sameDB s10 l10 s20 l20 s30 l30 s11 l11 s21 l21 s31 l31 n10 n20 n30 n40 n50 n60 n70 n11 n21 n31 n41 n51 n61 n71 f10 f20 f30 f40 f50 f60 f70 f11 f21 f31 f41 f51 f61 f71 = r at *
  go_enter Try.func4, Try.ntmps4
  go_wp2_with fail
  refine (HZ0.out _).mono ?_
  rintro e w1 ⟨rfl, hb⟩
  have N_w1 := Lib.hid (show Below w.heap.size w w1 from Below.trans (by repeat (first | exact Below.refl _ _ | exact Hid.out (by assumption) | refine below_alloc ?_ _ | refine Below.setCell ?_ (by simp <;> omega) _ | refine Below.alloc ?_ (by simp <;> omega) _ | refine Below.drew ?_ | refine below_drewN ?_ _)) (hb.mono (by simp <;> omega)))
  have B_w1 := Lib.hid (show Below w.heap.size w w1 from N_w1.out)
  have S_w1 := Lib.hid (show w.heap.size ≤ w1.heap.size from N_w1.out.size)
  have X0_w1 := Lib.hid (Box13.below (Box13.alloc (Box13.new w 33 (.int .i64 s10) (.int .i64 l10) (.slice A10 n10 c10) (.slice A20 n20 c20) (.slice A30 n30 c30) (.int .i64 s20) (.int .i64 l20) (.slice A40 n40 c40) (.slice A50 n50 c50) (.int .i64 s30) (.int .i64 l30) (.slice A60 n60 c60) (.slice A70 n70 c70)) _) hb)
  have X1_w1 := Lib.hid (Box13.below (show Box13 _ (w.heap.size + 1) _ _ _ _ _ _ _ _ _ _ _ _ _ from by simpa using (Box13.new (w.alloc (.cells #[.int .i64 s10, .int .i64 l10, .slice A10 n10 c10, .slice A20 n20 c20, .slice A30 n30 c30, .int .i64 s20, .int .i64 l20, .slice A40 n40 c40, .slice A50 n50 c50, .int .i64 s30, .int .i64 l30, .slice A60 n60 c60, .slice A70 n70 c70] 33)) 33 (.int .i64 s11) (.int .i64 l11) (.slice A11 n11 c11) (.slice A21 n21 c21) (.slice A31 n31 c31) (.int .i64 s21) (.int .i64 l21) (.slice A41 n41 c41) (.slice A51 n51 c51) (.int .i64 s31) (.int .i64 l31) (.slice A61 n61 c61) (.slice A71 n71 c71))) hb)
  obtain ⟨X0a, X0b, X0c, X0d, X0e, X0f, X0g, X0h, X0i, X0j, X0k, X0l, X0m⟩ := X0_w1.out
  obtain ⟨X1a, X1b, X1c, X1d, X1e, X1f, X1g, X1h, X1i, X1j, X1k, X1l, X1m⟩ := X1_w1.out
  clear hb
  go_wp2_with fail
  refine (HZ1.out _).mono ?_
  rintro e w2 ⟨rfl, hb⟩
  have N_w2 := Lib.hid (show Below w1.heap.size w1 w2 from Below.trans (by repeat (first | exact Below.refl _ _ | exact Hid.out (by assumption) | refine below_alloc ?_ _ | refine Below.setCell ?_ (by simp <;> omega) _ | refine Below.alloc ?_ (by simp <;> omega) _ | refine Below.drew ?_ | refine below_drewN ?_ _)) (hb.mono (by simp <;> omega)))
  have B_w2 := Lib.hid (B_w1.out.trans (N_w2.out.mono B_w1.out.size))
  have S_w2 := Lib.hid (show w1.heap.size ≤ w2.heap.size from N_w2.out.size)
  clear X0a X0b X0c X0d X0e X0f X0g X0h X0i X0j X0k X0l X0m X1a X1b X1c X1d X1e X1f X1g X1h X1i X1j X1k X1l X1m
  have X0_w2 := Lib.hid (X0_w1.out.below N_w2.out)
  clear X0_w1
  have X1_w2 := Lib.hid (X1_w1.out.below N_w2.out)
  clear X1_w1
  obtain ⟨X0a, X0b, X0c, X0d, X0e, X0f, X0g, X0h, X0i, X0j, X0k, X0l, X0m⟩ := X0_w2.out
  obtain ⟨X1a, X1b, X1c, X1d, X1e, X1f, X1g, X1h, X1i, X1j, X1k, X1l, X1m⟩ := X1_w2.out
  clear hb
  go_upto_region 8 with fail
  go_cut [6] from 20 to 24 (fun s6 wx => s6 = .bool r ∧ Below w2.heap.size w2 wx)
  case first =>
    go_region_with (first
      | (go_at_call_of 8 (Value.agg #[.int .i64 s10, .int .i64 l10, .slice A10 n10 c10, .slice A20 n20 c20, .slice A30 n30 c30, .int .i64 s20, .int .i64 l20, .slice A40 n40 c40, .slice A50 n50 c50, .int .i64 s30, .int .i64 l30, .slice A60 n60 c60, .slice A70 n70 c70])
         refine (HT0.out _ (PA0_0.out.below (by repeat (first | exact Below.refl _ _ | exact Hid.out (by assumption) | refine below_alloc ?_ _ | refine Below.setCell ?_ (by simp <;> omega) _ | refine Below.alloc ?_ (by simp <;> omega) _ | refine Below.drew ?_ | refine below_drewN ?_ _))) (PA0_1.out.below (by repeat (first | exact Below.refl _ _ | exact Hid.out (by assumption) | refine below_alloc ?_ _ | refine Below.setCell ?_ (by simp <;> omega) _ | refine Below.alloc ?_ (by simp <;> omega) _ | refine Below.drew ?_ | refine below_drewN ?_ _))) (PA0_2.out.below (by repeat (first | exact Below.refl _ _ | exact Hid.out (by assumption) | refine below_alloc ?_ _ | refine Below.setCell ?_ (by simp <;> omega) _ | refine Below.alloc ?_ (by simp <;> omega) _ | refine Below.drew ?_ | refine below_drewN ?_ _))) (PA0_3.out.below (by repeat (first | exact Below.refl _ _ | exact Hid.out (by assumption) | refine below_alloc ?_ _ | refine Below.setCell ?_ (by simp <;> omega) _ | refine Below.alloc ?_ (by simp <;> omega) _ | refine Below.drew ?_ | refine below_drewN ?_ _))) (PA0_4.out.below (by repeat (first | exact Below.refl _ _ | exact Hid.out (by assumption) | refine below_alloc ?_ _ | refine Below.setCell ?_ (by simp <;> omega) _ | refine Below.alloc ?_ (by simp <;> omega) _ | refine Below.drew ?_ | refine below_drewN ?_ _))) (PA0_5.out.below (by repeat (first | exact Below.refl _ _ | exact Hid.out (by assumption) | refine below_alloc ?_ _ | refine Below.setCell ?_ (by simp <;> omega) _ | refine Below.alloc ?_ (by simp <;> omega) _ | refine Below.drew ?_ | refine below_drewN ?_ _))) (PA0_6.out.below (by repeat (first | exact Below.refl _ _ | exact Hid.out (by assumption) | refine below_alloc ?_ _ | refine Below.setCell ?_ (by simp <;> omega) _ | refine Below.alloc ?_ (by simp <;> omega) _ | refine Below.drew ?_ | refine below_drewN ?_ _)))).mono ?_
         rintro e u0 ⟨g0_u0, g1_u0, g2_u0, g3_u0, g4_u0, g5_u0, g6_u0, rfl, hg0, hg1, hg2, hg3, hg4, hg5, hg6, hg7, ho0, ho1, ho2, ho3, ho4, ho5, ho6, hb⟩
         have N_u0 := Lib.hid (show Below w2.heap.size w2 u0 from Below.trans (by repeat (first | exact Below.refl _ _ | exact Hid.out (by assumption) | refine below_alloc ?_ _ | refine Below.setCell ?_ (by simp <;> omega) _ | refine Below.alloc ?_ (by simp <;> omega) _ | refine Below.drew ?_ | refine below_drewN ?_ _)) (hb.mono (by simp)))
         have B_u0 := Lib.hid (B_w2.out.trans (N_u0.out.mono B_w2.out.size))
         have K0_0 := Lib.hid ho0.cells
         have K0_1 := Lib.hid ho1.cells
         have K0_2 := Lib.hid ho2.cells
         have K0_3 := Lib.hid ho3.cells
         have K0_4 := Lib.hid ho4.cells
         have K0_5 := Lib.hid ho5.cells
         have K0_6 := Lib.hid ho6.cells
         obtain ⟨zX00a, zX00b, zX00c, zX00d, zX00e, zX00f, zX00g, zX00h, zX00i, zX00j, zX00k, zX00l, zX00m⟩ := X0_w2.out.below N_u0.out
         obtain ⟨zX10a, zX10b, zX10c, zX10d, zX10e, zX10f, zX10g, zX10h, zX10i, zX10j, zX10k, zX10l, zX10m⟩ := X1_w2.out.below N_u0.out
         clear hb ho0 ho1 ho2 ho3 ho4 ho5 ho6)
      | (go_at_call_of 8 (Value.agg #[.int .i64 s11, .int .i64 l11, .slice A11 n11 c11, .slice A21 n21 c21, .slice A31 n31 c31, .int .i64 s21, .int .i64 l21, .slice A41 n41 c41, .slice A51 n51 c51, .int .i64 s31, .int .i64 l31, .slice A61 n61 c61, .slice A71 n71 c71])
         refine (HT1.out _ (PA1_0.out.below (by repeat (first | exact Below.refl _ _ | exact Hid.out (by assumption) | refine below_alloc ?_ _ | refine Below.setCell ?_ (by simp <;> omega) _ | refine Below.alloc ?_ (by simp <;> omega) _ | refine Below.drew ?_ | refine below_drewN ?_ _))) (PA1_1.out.below (by repeat (first | exact Below.refl _ _ | exact Hid.out (by assumption) | refine below_alloc ?_ _ | refine Below.setCell ?_ (by simp <;> omega) _ | refine Below.alloc ?_ (by simp <;> omega) _ | refine Below.drew ?_ | refine below_drewN ?_ _))) (PA1_2.out.below (by repeat (first | exact Below.refl _ _ | exact Hid.out (by assumption) | refine below_alloc ?_ _ | refine Below.setCell ?_ (by simp <;> omega) _ | refine Below.alloc ?_ (by simp <;> omega) _ | refine Below.drew ?_ | refine below_drewN ?_ _))) (PA1_3.out.below (by repeat (first | exact Below.refl _ _ | exact Hid.out (by assumption) | refine below_alloc ?_ _ | refine Below.setCell ?_ (by simp <;> omega) _ | refine Below.alloc ?_ (by simp <;> omega) _ | refine Below.drew ?_ | refine below_drewN ?_ _))) (PA1_4.out.below (by repeat (first | exact Below.refl _ _ | exact Hid.out (by assumption) | refine below_alloc ?_ _ | refine Below.setCell ?_ (by simp <;> omega) _ | refine Below.alloc ?_ (by simp <;> omega) _ | refine Below.drew ?_ | refine below_drewN ?_ _))) (PA1_5.out.below (by repeat (first | exact Below.refl _ _ | exact Hid.out (by assumption) | refine below_alloc ?_ _ | refine Below.setCell ?_ (by simp <;> omega) _ | refine Below.alloc ?_ (by simp <;> omega) _ | refine Below.drew ?_ | refine below_drewN ?_ _))) (PA1_6.out.below (by repeat (first | exact Below.refl _ _ | exact Hid.out (by assumption) | refine below_alloc ?_ _ | refine Below.setCell ?_ (by simp <;> omega) _ | refine Below.alloc ?_ (by simp <;> omega) _ | refine Below.drew ?_ | refine below_drewN ?_ _)))).mono ?_
         rintro e u1 ⟨g0_u1, g1_u1, g2_u1, g3_u1, g4_u1, g5_u1, g6_u1, rfl, hg0, hg1, hg2, hg3, hg4, hg5, hg6, hg7, ho0, ho1, ho2, ho3, ho4, ho5, ho6, hb⟩
         have N_u1 := Lib.hid (show Below w2.heap.size w2 u1 from Below.trans (by repeat (first | exact Below.refl _ _ | exact Hid.out (by assumption) | refine below_alloc ?_ _ | refine Below.setCell ?_ (by simp <;> omega) _ | refine Below.alloc ?_ (by simp <;> omega) _ | refine Below.drew ?_ | refine below_drewN ?_ _)) (hb.mono (by first | exact Hid.out N_u0.size | simp | (have := N_u0.out.size; simpa using this))))
         have B_u1 := Lib.hid (B_w2.out.trans (N_u1.out.mono B_w2.out.size))
         have K0_0 := Lib.hid (K0_0.out.below (show Below u0.heap.size u0 u1 from Below.trans (by repeat (first | exact Below.refl _ _ | exact Hid.out (by assumption) | refine below_alloc ?_ _ | refine Below.setCell ?_ (by simp <;> omega) _ | refine Below.alloc ?_ (by simp <;> omega) _ | refine Below.drew ?_ | refine below_drewN ?_ _)) (hb.mono (by simp))))
         have K0_1 := Lib.hid (K0_1.out.below (show Below u0.heap.size u0 u1 from Below.trans (by repeat (first | exact Below.refl _ _ | exact Hid.out (by assumption) | refine below_alloc ?_ _ | refine Below.setCell ?_ (by simp <;> omega) _ | refine Below.alloc ?_ (by simp <;> omega) _ | refine Below.drew ?_ | refine below_drewN ?_ _)) (hb.mono (by simp))))
         have K0_2 := Lib.hid (K0_2.out.below (show Below u0.heap.size u0 u1 from Below.trans (by repeat (first | exact Below.refl _ _ | exact Hid.out (by assumption) | refine below_alloc ?_ _ | refine Below.setCell ?_ (by simp <;> omega) _ | refine Below.alloc ?_ (by simp <;> omega) _ | refine Below.drew ?_ | refine below_drewN ?_ _)) (hb.mono (by simp))))
         have K0_3 := Lib.hid (K0_3.out.below (show Below u0.heap.size u0 u1 from Below.trans (by repeat (first | exact Below.refl _ _ | exact Hid.out (by assumption) | refine below_alloc ?_ _ | refine Below.setCell ?_ (by simp <;> omega) _ | refine Below.alloc ?_ (by simp <;> omega) _ | refine Below.drew ?_ | refine below_drewN ?_ _)) (hb.mono (by simp))))
         have K0_4 := Lib.hid (K0_4.out.below (show Below u0.heap.size u0 u1 from Below.trans (by repeat (first | exact Below.refl _ _ | exact Hid.out (by assumption) | refine below_alloc ?_ _ | refine Below.setCell ?_ (by simp <;> omega) _ | refine Below.alloc ?_ (by simp <;> omega) _ | refine Below.drew ?_ | refine below_drewN ?_ _)) (hb.mono (by simp))))
         have K0_5 := Lib.hid (K0_5.out.below (show Below u0.heap.size u0 u1 from Below.trans (by repeat (first | exact Below.refl _ _ | exact Hid.out (by assumption) | refine below_alloc ?_ _ | refine Below.setCell ?_ (by simp <;> omega) _ | refine Below.alloc ?_ (by simp <;> omega) _ | refine Below.drew ?_ | refine below_drewN ?_ _)) (hb.mono (by simp))))
         have K0_6 := Lib.hid (K0_6.out.below (show Below u0.heap.size u0 u1 from Below.trans (by repeat (first | exact Below.refl _ _ | exact Hid.out (by assumption) | refine below_alloc ?_ _ | refine Below.setCell ?_ (by simp <;> omega) _ | refine Below.alloc ?_ (by simp <;> omega) _ | refine Below.drew ?_ | refine below_drewN ?_ _)) (hb.mono (by simp))))
         have K1_0 := Lib.hid ho0.cells
         have K1_1 := Lib.hid ho1.cells
         have K1_2 := Lib.hid ho2.cells
         have K1_3 := Lib.hid ho3.cells
         have K1_4 := Lib.hid ho4.cells
         have K1_5 := Lib.hid ho5.cells
         have K1_6 := Lib.hid ho6.cells
         obtain ⟨zX01a, zX01b, zX01c, zX01d, zX01e, zX01f, zX01g, zX01h, zX01i, zX01j, zX01k, zX01l, zX01m⟩ := X0_w2.out.below N_u1.out
         obtain ⟨zX11a, zX11b, zX11c, zX11d, zX11e, zX11f, zX11g, zX11h, zX11i, zX11j, zX11k, zX11l, zX11m⟩ := X1_w2.out.below N_u1.out
         clear hb ho0 ho1 ho2 ho3 ho4 ho5 ho6)
      | (go_at_call 11
         refine (HS.out _ _ _ _ _ _ _ _ _ _ _ _ _ _ _ _ _ _ _ _ _ _ _ _ _ _ _ _ _ (K0_0.out.below (by repeat (first | exact Below.refl _ _ | exact Hid.out (by assumption) | refine below_alloc ?_ _ | refine Below.setCell ?_ (by simp <;> omega) _ | refine Below.alloc ?_ (by simp <;> omega) _ | refine Below.drew ?_ | refine below_drewN ?_ _))) (K0_1.out.below (by repeat (first | exact Below.refl _ _ | exact Hid.out (by assumption) | refine below_alloc ?_ _ | refine Below.setCell ?_ (by simp <;> omega) _ | refine Below.alloc ?_ (by simp <;> omega) _ | refine Below.drew ?_ | refine below_drewN ?_ _))) (K0_2.out.below (by repeat (first | exact Below.refl _ _ | exact Hid.out (by assumption) | refine below_alloc ?_ _ | refine Below.setCell ?_ (by simp <;> omega) _ | refine Below.alloc ?_ (by simp <;> omega) _ | refine Below.drew ?_ | refine below_drewN ?_ _))) (K0_3.out.below (by repeat (first | exact Below.refl _ _ | exact Hid.out (by assumption) | refine below_alloc ?_ _ | refine Below.setCell ?_ (by simp <;> omega) _ | refine Below.alloc ?_ (by simp <;> omega) _ | refine Below.drew ?_ | refine below_drewN ?_ _))) (K0_4.out.below (by repeat (first | exact Below.refl _ _ | exact Hid.out (by assumption) | refine below_alloc ?_ _ | refine Below.setCell ?_ (by simp <;> omega) _ | refine Below.alloc ?_ (by simp <;> omega) _ | refine Below.drew ?_ | refine below_drewN ?_ _))) (K0_5.out.below (by repeat (first | exact Below.refl _ _ | exact Hid.out (by assumption) | refine below_alloc ?_ _ | refine Below.setCell ?_ (by simp <;> omega) _ | refine Below.alloc ?_ (by simp <;> omega) _ | refine Below.drew ?_ | refine below_drewN ?_ _))) (K0_6.out.below (by repeat (first | exact Below.refl _ _ | exact Hid.out (by assumption) | refine below_alloc ?_ _ | refine Below.setCell ?_ (by simp <;> omega) _ | refine Below.alloc ?_ (by simp <;> omega) _ | refine Below.drew ?_ | refine below_drewN ?_ _))) (K1_0.out.below (by repeat (first | exact Below.refl _ _ | exact Hid.out (by assumption) | refine below_alloc ?_ _ | refine Below.setCell ?_ (by simp <;> omega) _ | refine Below.alloc ?_ (by simp <;> omega) _ | refine Below.drew ?_ | refine below_drewN ?_ _))) (K1_1.out.below (by repeat (first | exact Below.refl _ _ | exact Hid.out (by assumption) | refine below_alloc ?_ _ | refine Below.setCell ?_ (by simp <;> omega) _ | refine Below.alloc ?_ (by simp <;> omega) _ | refine Below.drew ?_ | refine below_drewN ?_ _))) (K1_2.out.below (by repeat (first | exact Below.refl _ _ | exact Hid.out (by assumption) | refine below_alloc ?_ _ | refine Below.setCell ?_ (by simp <;> omega) _ | refine Below.alloc ?_ (by simp <;> omega) _ | refine Below.drew ?_ | refine below_drewN ?_ _))) (K1_3.out.below (by repeat (first | exact Below.refl _ _ | exact Hid.out (by assumption) | refine below_alloc ?_ _ | refine Below.setCell ?_ (by simp <;> omega) _ | refine Below.alloc ?_ (by simp <;> omega) _ | refine Below.drew ?_ | refine below_drewN ?_ _))) (K1_4.out.below (by repeat (first | exact Below.refl _ _ | exact Hid.out (by assumption) | refine below_alloc ?_ _ | refine Below.setCell ?_ (by simp <;> omega) _ | refine Below.alloc ?_ (by simp <;> omega) _ | refine Below.drew ?_ | refine below_drewN ?_ _))) (K1_5.out.below (by repeat (first | exact Below.refl _ _ | exact Hid.out (by assumption) | refine below_alloc ?_ _ | refine Below.setCell ?_ (by simp <;> omega) _ | refine Below.alloc ?_ (by simp <;> omega) _ | refine Below.drew ?_ | refine below_drewN ?_ _))) (K1_6.out.below (by repeat (first | exact Below.refl _ _ | exact Hid.out (by assumption) | refine below_alloc ?_ _ | refine Below.setCell ?_ (by simp <;> omega) _ | refine Below.alloc ?_ (by simp <;> omega) _ | refine Below.drew ?_ | refine below_drewN ?_ _)))).mono ?_
         rintro e u9 ⟨rfl, hb⟩
         have N_u9 := Lib.hid (show Below w2.heap.size w2 u9 from Below.trans (show Below w2.heap.size w2 _ from (by repeat (first | exact Below.refl _ _ | exact Hid.out (by assumption) | refine below_alloc ?_ _ | refine Below.setCell ?_ (by simp <;> omega) _ | refine Below.alloc ?_ (by simp <;> omega) _ | refine Below.drew ?_ | refine below_drewN ?_ _))) (hb.mono (by first | exact N_u1.out.size | simp [N_u1.out.size])))
         clear hb))
    all_goals (go_wp2_with fail; go_meet; exact ⟨rfl, N_u9.out⟩)
  case rest =>
  obtain ⟨rfl, hb⟩ := hcut
  obtain ⟨w3, rfl⟩ : ∃ u, u = wc := ⟨_, rfl⟩
  have N_w3 := Lib.hid hb
  clear hb
  have B_w3 := Lib.hid (B_w2.out.trans (N_w3.out.mono B_w2.out.size))
  have S_w3 := Lib.hid (show w2.heap.size ≤ w3.heap.size from N_w3.out.size)
  clear X0a X0b X0c X0d X0e X0f X0g X0h X0i X0j X0k X0l X0m X1a X1b X1c X1d X1e X1f X1g X1h X1i X1j X1k X1l X1m
  have X0_w3 := Lib.hid (X0_w2.out.below N_w3.out)
  clear X0_w2
  have X1_w3 := Lib.hid (X1_w2.out.below N_w3.out)
  clear X1_w2
  obtain ⟨X0a, X0b, X0c, X0d, X0e, X0f, X0g, X0h, X0i, X0j, X0k, X0l, X0m⟩ := X0_w3.out
  obtain ⟨X1a, X1b, X1c, X1d, X1e, X1f, X1g, X1h, X1i, X1j, X1k, X1l, X1m⟩ := X1_w3.out
  go_wp2_with fail
  refine (HT0.out _ (PA0_0.out.below (by repeat (first | exact Below.refl _ _ | exact Hid.out (by assumption) | refine below_alloc ?_ _ | refine Below.setCell ?_ (by simp <;> omega) _ | refine Below.alloc ?_ (by simp <;> omega) _ | refine Below.drew ?_ | refine below_drewN ?_ _))) (PA0_1.out.below (by repeat (first | exact Below.refl _ _ | exact Hid.out (by assumption) | refine below_alloc ?_ _ | refine Below.setCell ?_ (by simp <;> omega) _ | refine Below.alloc ?_ (by simp <;> omega) _ | refine Below.drew ?_ | refine below_drewN ?_ _))) (PA0_2.out.below (by repeat (first | exact Below.refl _ _ | exact Hid.out (by assumption) | refine below_alloc ?_ _ | refine Below.setCell ?_ (by simp <;> omega) _ | refine Below.alloc ?_ (by simp <;> omega) _ | refine Below.drew ?_ | refine below_drewN ?_ _))) (PA0_3.out.below (by repeat (first | exact Below.refl _ _ | exact Hid.out (by assumption) | refine below_alloc ?_ _ | refine Below.setCell ?_ (by simp <;> omega) _ | refine Below.alloc ?_ (by simp <;> omega) _ | refine Below.drew ?_ | refine below_drewN ?_ _))) (PA0_4.out.below (by repeat (first | exact Below.refl _ _ | exact Hid.out (by assumption) | refine below_alloc ?_ _ | refine Below.setCell ?_ (by simp <;> omega) _ | refine Below.alloc ?_ (by simp <;> omega) _ | refine Below.drew ?_ | refine below_drewN ?_ _))) (PA0_5.out.below (by repeat (first | exact Below.refl _ _ | exact Hid.out (by assumption) | refine below_alloc ?_ _ | refine Below.setCell ?_ (by simp <;> omega) _ | refine Below.alloc ?_ (by simp <;> omega) _ | refine Below.drew ?_ | refine below_drewN ?_ _))) (PA0_6.out.below (by repeat (first | exact Below.refl _ _ | exact Hid.out (by assumption) | refine below_alloc ?_ _ | refine Below.setCell ?_ (by simp <;> omega) _ | refine Below.alloc ?_ (by simp <;> omega) _ | refine Below.drew ?_ | refine below_drewN ?_ _)))).mono ?_
  rintro e w4 ⟨g0_w4, g1_w4, g2_w4, g3_w4, g4_w4, g5_w4, g6_w4, rfl, hg0, hg1, hg2, hg3, hg4, hg5, hg6, hg7, ho0, ho1, ho2, ho3, ho4, ho5, ho6, hb⟩
  have N_w4 := Lib.hid (show Below w3.heap.size w3 w4 from Below.trans (by repeat (first | exact Below.refl _ _ | exact Hid.out (by assumption) | refine below_alloc ?_ _ | refine Below.setCell ?_ (by simp <;> omega) _ | refine Below.alloc ?_ (by simp <;> omega) _ | refine Below.drew ?_ | refine below_drewN ?_ _)) (hb.mono (by simp <;> omega)))
  have B_w4 := Lib.hid (B_w3.out.trans (N_w4.out.mono B_w3.out.size))
  have S_w4 := Lib.hid (show w3.heap.size ≤ w4.heap.size from N_w4.out.size)
  clear X0a X0b X0c X0d X0e X0f X0g X0h X0i X0j X0k X0l X0m X1a X1b X1c X1d X1e X1f X1g X1h X1i X1j X1k X1l X1m
  have X0_w4 := Lib.hid (X0_w3.out.below N_w4.out)
  clear X0_w3
  have X1_w4 := Lib.hid (X1_w3.out.below N_w4.out)
  clear X1_w3
  obtain ⟨X0a, X0b, X0c, X0d, X0e, X0f, X0g, X0h, X0i, X0j, X0k, X0l, X0m⟩ := X0_w4.out
  obtain ⟨X1a, X1b, X1c, X1d, X1e, X1f, X1g, X1h, X1i, X1j, X1k, X1l, X1m⟩ := X1_w4.out
  have Y0_0_w4 := Lib.hid ho0
  have Y0_1_w4 := Lib.hid ho1
  have Y0_2_w4 := Lib.hid ho2
  have Y0_3_w4 := Lib.hid ho3
  have Y0_4_w4 := Lib.hid ho4
  have Y0_5_w4 := Lib.hid ho5
  have Y0_6_w4 := Lib.hid ho6
  have G_w4 := Lib.hid (show w3.heap.size + 0 ≤ g0_w4 ∧ g0_w4 < g1_w4 ∧ g1_w4 < g2_w4 ∧ g2_w4 < g3_w4 ∧ g3_w4 < g4_w4 ∧ g4_w4 < g5_w4 ∧ g5_w4 < g6_w4 ∧ g6_w4 < w4.heap.size from ⟨by first | omega | (simp at hg0; omega), hg1, hg2, hg3, hg4, hg5, hg6, hg7⟩)
  clear hb hg0 hg1 hg2 hg3 hg4 hg5 hg6 hg7 ho0 ho1 ho2 ho3 ho4 ho5 ho6
  have X0aq := X0_w4.out.a0
  have X0bq := X0_w4.out.a1
  have X0cq := X0_w4.out.a2
  have X0dq := X0_w4.out.a3
  have X0eq := X0_w4.out.a4
  have X0fq := X0_w4.out.a5
  have X0gq := X0_w4.out.a6
  have X0hq := X0_w4.out.a7
  have X0iq := X0_w4.out.a8
  have X0jq := X0_w4.out.a9
  have X0kq := X0_w4.out.a10
  have X0lq := X0_w4.out.a11
  have X0mq := X0_w4.out.a12
  have X1aq := X1_w4.out.a0
  have X1bq := X1_w4.out.a1
  have X1cq := X1_w4.out.a2
  have X1dq := X1_w4.out.a3
  have X1eq := X1_w4.out.a4
  have X1fq := X1_w4.out.a5
  have X1gq := X1_w4.out.a6
  have X1hq := X1_w4.out.a7
  have X1iq := X1_w4.out.a8
  have X1jq := X1_w4.out.a9
  have X1kq := X1_w4.out.a10
  have X1lq := X1_w4.out.a11
  have X1mq := X1_w4.out.a12
  go_wp2_with fail
  refine (HT1.out _ (PA1_0.out.below (by repeat (first | exact Below.refl _ _ | exact Hid.out (by assumption) | refine below_alloc ?_ _ | refine Below.setCell ?_ (by simp <;> omega) _ | refine Below.alloc ?_ (by simp <;> omega) _ | refine Below.drew ?_ | refine below_drewN ?_ _))) (PA1_1.out.below (by repeat (first | exact Below.refl _ _ | exact Hid.out (by assumption) | refine below_alloc ?_ _ | refine Below.setCell ?_ (by simp <;> omega) _ | refine Below.alloc ?_ (by simp <;> omega) _ | refine Below.drew ?_ | refine below_drewN ?_ _))) (PA1_2.out.below (by repeat (first | exact Below.refl _ _ | exact Hid.out (by assumption) | refine below_alloc ?_ _ | refine Below.setCell ?_ (by simp <;> omega) _ | refine Below.alloc ?_ (by simp <;> omega) _ | refine Below.drew ?_ | refine below_drewN ?_ _))) (PA1_3.out.below (by repeat (first | exact Below.refl _ _ | exact Hid.out (by assumption) | refine below_alloc ?_ _ | refine Below.setCell ?_ (by simp <;> omega) _ | refine Below.alloc ?_ (by simp <;> omega) _ | refine Below.drew ?_ | refine below_drewN ?_ _))) (PA1_4.out.below (by repeat (first | exact Below.refl _ _ | exact Hid.out (by assumption) | refine below_alloc ?_ _ | refine Below.setCell ?_ (by simp <;> omega) _ | refine Below.alloc ?_ (by simp <;> omega) _ | refine Below.drew ?_ | refine below_drewN ?_ _))) (PA1_5.out.below (by repeat (first | exact Below.refl _ _ | exact Hid.out (by assumption) | refine below_alloc ?_ _ | refine Below.setCell ?_ (by simp <;> omega) _ | refine Below.alloc ?_ (by simp <;> omega) _ | refine Below.drew ?_ | refine below_drewN ?_ _))) (PA1_6.out.below (by repeat (first | exact Below.refl _ _ | exact Hid.out (by assumption) | refine below_alloc ?_ _ | refine Below.setCell ?_ (by simp <;> omega) _ | refine Below.alloc ?_ (by simp <;> omega) _ | refine Below.drew ?_ | refine below_drewN ?_ _)))).mono ?_
  rintro e w5 ⟨g0_w5, g1_w5, g2_w5, g3_w5, g4_w5, g5_w5, g6_w5, rfl, hg0, hg1, hg2, hg3, hg4, hg5, hg6, hg7, ho0, ho1, ho2, ho3, ho4, ho5, ho6, hb⟩
  have N_w5 := Lib.hid (show Below w4.heap.size w4 w5 from Below.trans (by repeat (first | exact Below.refl _ _ | exact Hid.out (by assumption) | refine below_alloc ?_ _ | refine Below.setCell ?_ (by simp <;> omega) _ | refine Below.alloc ?_ (by simp <;> omega) _ | refine Below.drew ?_ | refine below_drewN ?_ _)) (hb.mono (by simp <;> omega)))
  have B_w5 := Lib.hid (B_w4.out.trans (N_w5.out.mono B_w4.out.size))
  have S_w5 := Lib.hid (show w4.heap.size ≤ w5.heap.size from N_w5.out.size)
  clear X0a X0b X0c X0d X0e X0f X0g X0h X0i X0j X0k X0l X0m X0aq X0bq X0cq X0dq X0eq X0fq X0gq X0hq X0iq X0jq X0kq X0lq X0mq X1a X1b X1c X1d X1e X1f X1g X1h X1i X1j X1k X1l X1m X1aq X1bq X1cq X1dq X1eq X1fq X1gq X1hq X1iq X1jq X1kq X1lq X1mq
  have X0_w5 := Lib.hid (X0_w4.out.below N_w5.out)
  clear X0_w4
  have X1_w5 := Lib.hid (X1_w4.out.below N_w5.out)
  clear X1_w4
  have Y0_0_w5 := Lib.hid (Y0_0_w4.out.below N_w5.out)
  clear Y0_0_w4
  have Y0_1_w5 := Lib.hid (Y0_1_w4.out.below N_w5.out)
  clear Y0_1_w4
  have Y0_2_w5 := Lib.hid (Y0_2_w4.out.below N_w5.out)
  clear Y0_2_w4
  have Y0_3_w5 := Lib.hid (Y0_3_w4.out.below N_w5.out)
  clear Y0_3_w4
  have Y0_4_w5 := Lib.hid (Y0_4_w4.out.below N_w5.out)
  clear Y0_4_w4
  have Y0_5_w5 := Lib.hid (Y0_5_w4.out.below N_w5.out)
  clear Y0_5_w4
  have Y0_6_w5 := Lib.hid (Y0_6_w4.out.below N_w5.out)
  clear Y0_6_w4
  have Z0_w5 := Lib.hid (Box13.below (Box13.new w4 44 (.int .i64 s10) (.int .i64 l10) (.slice (some ⟨g0_w4, 0, none⟩) n10 n10) (.slice (some ⟨g1_w4, 0, none⟩) n20 n20) (.slice (some ⟨g2_w4, 0, none⟩) n30 n30) (.int .i64 s20) (.int .i64 l20) (.slice (some ⟨g3_w4, 0, none⟩) n40 n40) (.slice (some ⟨g4_w4, 0, none⟩) n50 n50) (.int .i64 s30) (.int .i64 l30) (.slice (some ⟨g5_w4, 0, none⟩) n60 n60) (.slice (some ⟨g6_w4, 0, none⟩) n70 n70)) hb)
  obtain ⟨X0a, X0b, X0c, X0d, X0e, X0f, X0g, X0h, X0i, X0j, X0k, X0l, X0m⟩ := X0_w5.out
  obtain ⟨X1a, X1b, X1c, X1d, X1e, X1f, X1g, X1h, X1i, X1j, X1k, X1l, X1m⟩ := X1_w5.out
  obtain ⟨Z0a, Z0b, Z0c, Z0d, Z0e, Z0f, Z0g, Z0h, Z0i, Z0j, Z0k, Z0l, Z0m⟩ := Z0_w5.out
  have Y1_0_w5 := Lib.hid ho0
  have Y1_1_w5 := Lib.hid ho1
  have Y1_2_w5 := Lib.hid ho2
  have Y1_3_w5 := Lib.hid ho3
  have Y1_4_w5 := Lib.hid ho4
  have Y1_5_w5 := Lib.hid ho5
  have Y1_6_w5 := Lib.hid ho6
  have G_w5 := Lib.hid (show w4.heap.size + 1 ≤ g0_w5 ∧ g0_w5 < g1_w5 ∧ g1_w5 < g2_w5 ∧ g2_w5 < g3_w5 ∧ g3_w5 < g4_w5 ∧ g4_w5 < g5_w5 ∧ g5_w5 < g6_w5 ∧ g6_w5 < w5.heap.size from ⟨by first | omega | (simp at hg0; omega), hg1, hg2, hg3, hg4, hg5, hg6, hg7⟩)
  clear hb hg0 hg1 hg2 hg3 hg4 hg5 hg6 hg7 ho0 ho1 ho2 ho3 ho4 ho5 ho6
  have X0aq := X0_w5.out.a0
  have X0bq := X0_w5.out.a1
  have X0cq := X0_w5.out.a2
  have X0dq := X0_w5.out.a3
  have X0eq := X0_w5.out.a4
  have X0fq := X0_w5.out.a5
  have X0gq := X0_w5.out.a6
  have X0hq := X0_w5.out.a7
  have X0iq := X0_w5.out.a8
  have X0jq := X0_w5.out.a9
  have X0kq := X0_w5.out.a10
  have X0lq := X0_w5.out.a11
  have X0mq := X0_w5.out.a12
  have X1aq := X1_w5.out.a0
  have X1bq := X1_w5.out.a1
  have X1cq := X1_w5.out.a2
  have X1dq := X1_w5.out.a3
  have X1eq := X1_w5.out.a4
  have X1fq := X1_w5.out.a5
  have X1gq := X1_w5.out.a6
  have X1hq := X1_w5.out.a7
  have X1iq := X1_w5.out.a8
  have X1jq := X1_w5.out.a9
  have X1kq := X1_w5.out.a10
  have X1lq := X1_w5.out.a11
  have X1mq := X1_w5.out.a12
  have Z0aq := Z0_w5.out.a0
  have Z0bq := Z0_w5.out.a1
  have Z0cq := Z0_w5.out.a2
  have Z0dq := Z0_w5.out.a3
  have Z0eq := Z0_w5.out.a4
  have Z0fq := Z0_w5.out.a5
  have Z0gq := Z0_w5.out.a6
  have Z0hq := Z0_w5.out.a7
  have Z0iq := Z0_w5.out.a8
  have Z0jq := Z0_w5.out.a9
  have Z0kq := Z0_w5.out.a10
  have Z0lq := Z0_w5.out.a11
  have Z0mq := Z0_w5.out.a12
  go_wp2_with fail
  refine (HI.out _ _ _ _ _ _ _ _ _ _ _ _ _ _ _ _ _ _ _ _ _ _ _ _ _ _ _ _ _ (Y0_0_w5.out.cells.below (by repeat (first | exact Below.refl _ _ | exact Hid.out (by assumption) | refine below_alloc ?_ _ | refine Below.setCell ?_ (by simp <;> omega) _ | refine Below.alloc ?_ (by simp <;> omega) _ | refine Below.drew ?_ | refine below_drewN ?_ _))) (Y0_1_w5.out.cells.below (by repeat (first | exact Below.refl _ _ | exact Hid.out (by assumption) | refine below_alloc ?_ _ | refine Below.setCell ?_ (by simp <;> omega) _ | refine Below.alloc ?_ (by simp <;> omega) _ | refine Below.drew ?_ | refine below_drewN ?_ _))) (Y0_2_w5.out.cells.below (by repeat (first | exact Below.refl _ _ | exact Hid.out (by assumption) | refine below_alloc ?_ _ | refine Below.setCell ?_ (by simp <;> omega) _ | refine Below.alloc ?_ (by simp <;> omega) _ | refine Below.drew ?_ | refine below_drewN ?_ _))) (Y0_3_w5.out.cells.below (by repeat (first | exact Below.refl _ _ | exact Hid.out (by assumption) | refine below_alloc ?_ _ | refine Below.setCell ?_ (by simp <;> omega) _ | refine Below.alloc ?_ (by simp <;> omega) _ | refine Below.drew ?_ | refine below_drewN ?_ _))) (Y0_4_w5.out.cells.below (by repeat (first | exact Below.refl _ _ | exact Hid.out (by assumption) | refine below_alloc ?_ _ | refine Below.setCell ?_ (by simp <;> omega) _ | refine Below.alloc ?_ (by simp <;> omega) _ | refine Below.drew ?_ | refine below_drewN ?_ _))) (Y0_5_w5.out.cells.below (by repeat (first | exact Below.refl _ _ | exact Hid.out (by assumption) | refine below_alloc ?_ _ | refine Below.setCell ?_ (by simp <;> omega) _ | refine Below.alloc ?_ (by simp <;> omega) _ | refine Below.drew ?_ | refine below_drewN ?_ _))) (Y0_6_w5.out.cells.below (by repeat (first | exact Below.refl _ _ | exact Hid.out (by assumption) | refine below_alloc ?_ _ | refine Below.setCell ?_ (by simp <;> omega) _ | refine Below.alloc ?_ (by simp <;> omega) _ | refine Below.drew ?_ | refine below_drewN ?_ _))) (Y1_0_w5.out.cells.below (by repeat (first | exact Below.refl _ _ | exact Hid.out (by assumption) | refine below_alloc ?_ _ | refine Below.setCell ?_ (by simp <;> omega) _ | refine Below.alloc ?_ (by simp <;> omega) _ | refine Below.drew ?_ | refine below_drewN ?_ _))) (Y1_1_w5.out.cells.below (by repeat (first | exact Below.refl _ _ | exact Hid.out (by assumption) | refine below_alloc ?_ _ | refine Below.setCell ?_ (by simp <;> omega) _ | refine Below.alloc ?_ (by simp <;> omega) _ | refine Below.drew ?_ | refine below_drewN ?_ _))) (Y1_2_w5.out.cells.below (by repeat (first | exact Below.refl _ _ | exact Hid.out (by assumption) | refine below_alloc ?_ _ | refine Below.setCell ?_ (by simp <;> omega) _ | refine Below.alloc ?_ (by simp <;> omega) _ | refine Below.drew ?_ | refine below_drewN ?_ _))) (Y1_3_w5.out.cells.below (by repeat (first | exact Below.refl _ _ | exact Hid.out (by assumption) | refine below_alloc ?_ _ | refine Below.setCell ?_ (by simp <;> omega) _ | refine Below.alloc ?_ (by simp <;> omega) _ | refine Below.drew ?_ | refine below_drewN ?_ _))) (Y1_4_w5.out.cells.below (by repeat (first | exact Below.refl _ _ | exact Hid.out (by assumption) | refine below_alloc ?_ _ | refine Below.setCell ?_ (by simp <;> omega) _ | refine Below.alloc ?_ (by simp <;> omega) _ | refine Below.drew ?_ | refine below_drewN ?_ _))) (Y1_5_w5.out.cells.below (by repeat (first | exact Below.refl _ _ | exact Hid.out (by assumption) | refine below_alloc ?_ _ | refine Below.setCell ?_ (by simp <;> omega) _ | refine Below.alloc ?_ (by simp <;> omega) _ | refine Below.drew ?_ | refine below_drewN ?_ _))) (Y1_6_w5.out.cells.below (by repeat (first | exact Below.refl _ _ | exact Hid.out (by assumption) | refine below_alloc ?_ _ | refine Below.setCell ?_ (by simp <;> omega) _ | refine Below.alloc ?_ (by simp <;> omega) _ | refine Below.drew ?_ | refine below_drewN ?_ _)))).mono ?_
  rintro e w6 ⟨rfl, hb⟩
  have N_w6 := Lib.hid (show Below w5.heap.size w5 w6 from Below.trans (by repeat (first | exact Below.refl _ _ | exact Hid.out (by assumption) | refine below_alloc ?_ _ | refine Below.setCell ?_ (by simp <;> omega) _ | refine Below.alloc ?_ (by simp <;> omega) _ | refine Below.drew ?_ | refine below_drewN ?_ _)) (hb.mono (by simp <;> omega)))
  have B_w6 := Lib.hid (B_w5.out.trans (N_w6.out.mono B_w5.out.size))
  have S_w6 := Lib.hid (show w5.heap.size ≤ w6.heap.size from N_w6.out.size)
  clear X0a X0b X0c X0d X0e X0f X0g X0h X0i X0j X0k X0l X0m X0aq X0bq X0cq X0dq X0eq X0fq X0gq X0hq X0iq X0jq X0kq X0lq X0mq X1a X1b X1c X1d X1e X1f X1g X1h X1i X1j X1k X1l X1m X1aq X1bq X1cq X1dq X1eq X1fq X1gq X1hq X1iq X1jq X1kq X1lq X1mq Z0a Z0b Z0c Z0d Z0e Z0f Z0g Z0h Z0i Z0j Z0k Z0l Z0m Z0aq Z0bq Z0cq Z0dq Z0eq Z0fq Z0gq Z0hq Z0iq Z0jq Z0kq Z0lq Z0mq
  have X0_w6 := Lib.hid (X0_w5.out.below N_w6.out)
  clear X0_w5
  have X1_w6 := Lib.hid (X1_w5.out.below N_w6.out)
  clear X1_w5
  have Y0_0_w6 := Lib.hid (Y0_0_w5.out.below N_w6.out)
  clear Y0_0_w5
  have Y0_1_w6 := Lib.hid (Y0_1_w5.out.below N_w6.out)
  clear Y0_1_w5
  have Y0_2_w6 := Lib.hid (Y0_2_w5.out.below N_w6.out)
  clear Y0_2_w5
  have Y0_3_w6 := Lib.hid (Y0_3_w5.out.below N_w6.out)
  clear Y0_3_w5
  have Y0_4_w6 := Lib.hid (Y0_4_w5.out.below N_w6.out)
  clear Y0_4_w5
  have Y0_5_w6 := Lib.hid (Y0_5_w5.out.below N_w6.out)
  clear Y0_5_w5
  have Y0_6_w6 := Lib.hid (Y0_6_w5.out.below N_w6.out)
  clear Y0_6_w5
  have Z0_w6 := Lib.hid (Z0_w5.out.below N_w6.out)
  clear Z0_w5
  have Y1_0_w6 := Lib.hid (Y1_0_w5.out.below N_w6.out)
  clear Y1_0_w5
  have Y1_1_w6 := Lib.hid (Y1_1_w5.out.below N_w6.out)
  clear Y1_1_w5
  have Y1_2_w6 := Lib.hid (Y1_2_w5.out.below N_w6.out)
  clear Y1_2_w5
  have Y1_3_w6 := Lib.hid (Y1_3_w5.out.below N_w6.out)
  clear Y1_3_w5
  have Y1_4_w6 := Lib.hid (Y1_4_w5.out.below N_w6.out)
  clear Y1_4_w5
  have Y1_5_w6 := Lib.hid (Y1_5_w5.out.below N_w6.out)
  clear Y1_5_w5
  have Y1_6_w6 := Lib.hid (Y1_6_w5.out.below N_w6.out)
  clear Y1_6_w5
  have Z1_w6 := Lib.hid (Box13.below (Box13.new w5 44 (.int .i64 s11) (.int .i64 l11) (.slice (some ⟨g0_w5, 0, none⟩) n11 n11) (.slice (some ⟨g1_w5, 0, none⟩) n21 n21) (.slice (some ⟨g2_w5, 0, none⟩) n31 n31) (.int .i64 s21) (.int .i64 l21) (.slice (some ⟨g3_w5, 0, none⟩) n41 n41) (.slice (some ⟨g4_w5, 0, none⟩) n51 n51) (.int .i64 s31) (.int .i64 l31) (.slice (some ⟨g5_w5, 0, none⟩) n61 n61) (.slice (some ⟨g6_w5, 0, none⟩) n71 n71)) hb)
  obtain ⟨X0a, X0b, X0c, X0d, X0e, X0f, X0g, X0h, X0i, X0j, X0k, X0l, X0m⟩ := X0_w6.out
  obtain ⟨X1a, X1b, X1c, X1d, X1e, X1f, X1g, X1h, X1i, X1j, X1k, X1l, X1m⟩ := X1_w6.out
  obtain ⟨Z0a, Z0b, Z0c, Z0d, Z0e, Z0f, Z0g, Z0h, Z0i, Z0j, Z0k, Z0l, Z0m⟩ := Z0_w6.out
  obtain ⟨Z1a, Z1b, Z1c, Z1d, Z1e, Z1f, Z1g, Z1h, Z1i, Z1j, Z1k, Z1l, Z1m⟩ := Z1_w6.out
  clear hb
  go_upto_region 14 with fail
  go_cut [39] from 35 to 39 (fun s wx => s = .bool false ∧ Below w6.heap.size w6 wx)
  case first =>
    go_region_with (first
      | (go_at_call 8
         refine (HT0.out _ (PA0_0.out.below (by repeat (first | exact Below.refl _ _ | exact Hid.out (by assumption) | refine below_alloc ?_ _ | refine Below.setCell ?_ (by simp <;> omega) _ | refine Below.alloc ?_ (by simp <;> omega) _ | refine Below.drew ?_ | refine below_drewN ?_ _))) (PA0_1.out.below (by repeat (first | exact Below.refl _ _ | exact Hid.out (by assumption) | refine below_alloc ?_ _ | refine Below.setCell ?_ (by simp <;> omega) _ | refine Below.alloc ?_ (by simp <;> omega) _ | refine Below.drew ?_ | refine below_drewN ?_ _))) (PA0_2.out.below (by repeat (first | exact Below.refl _ _ | exact Hid.out (by assumption) | refine below_alloc ?_ _ | refine Below.setCell ?_ (by simp <;> omega) _ | refine Below.alloc ?_ (by simp <;> omega) _ | refine Below.drew ?_ | refine below_drewN ?_ _))) (PA0_3.out.below (by repeat (first | exact Below.refl _ _ | exact Hid.out (by assumption) | refine below_alloc ?_ _ | refine Below.setCell ?_ (by simp <;> omega) _ | refine Below.alloc ?_ (by simp <;> omega) _ | refine Below.drew ?_ | refine below_drewN ?_ _))) (PA0_4.out.below (by repeat (first | exact Below.refl _ _ | exact Hid.out (by assumption) | refine below_alloc ?_ _ | refine Below.setCell ?_ (by simp <;> omega) _ | refine Below.alloc ?_ (by simp <;> omega) _ | refine Below.drew ?_ | refine below_drewN ?_ _))) (PA0_5.out.below (by repeat (first | exact Below.refl _ _ | exact Hid.out (by assumption) | refine below_alloc ?_ _ | refine Below.setCell ?_ (by simp <;> omega) _ | refine Below.alloc ?_ (by simp <;> omega) _ | refine Below.drew ?_ | refine below_drewN ?_ _))) (PA0_6.out.below (by repeat (first | exact Below.refl _ _ | exact Hid.out (by assumption) | refine below_alloc ?_ _ | refine Below.setCell ?_ (by simp <;> omega) _ | refine Below.alloc ?_ (by simp <;> omega) _ | refine Below.drew ?_ | refine below_drewN ?_ _)))).mono ?_
         rintro e u1 ⟨g0_u1, g1_u1, g2_u1, g3_u1, g4_u1, g5_u1, g6_u1, rfl, hg0, hg1, hg2, hg3, hg4, hg5, hg6, hg7, ho0, ho1, ho2, ho3, ho4, ho5, ho6, hb⟩
         have N_u1 := Lib.hid (show Below w6.heap.size w6 u1 from Below.trans (by repeat (first | exact Below.refl _ _ | exact Hid.out (by assumption) | refine below_alloc ?_ _ | refine Below.setCell ?_ (by simp <;> omega) _ | refine Below.alloc ?_ (by simp <;> omega) _ | refine Below.drew ?_ | refine below_drewN ?_ _)) (hb.mono (by simp)))
         have K_0 := Lib.hid ho0.cells
         have K_1 := Lib.hid ho1.cells
         have K_2 := Lib.hid ho2.cells
         have K_3 := Lib.hid ho3.cells
         have K_4 := Lib.hid ho4.cells
         have K_5 := Lib.hid ho5.cells
         have K_6 := Lib.hid ho6.cells
         obtain ⟨zZ0a, zZ0b, zZ0c, zZ0d, zZ0e, zZ0f, zZ0g, zZ0h, zZ0i, zZ0j, zZ0k, zZ0l, zZ0m⟩ := Z0_w6.out.below N_u1.out
         clear hb ho0 ho1 ho2 ho3 ho4 ho5 ho6)
      | (go_at_call 10
         refine (HE0.out _ _ _ _ _ _ _ _ _ _ _ _ _ _ _ _ _ _ _ _ _ _ _ _ _ _ _ _ _ (Y0_0_w6.out.cells.below (by repeat (first | exact Below.refl _ _ | exact Hid.out (by assumption) | refine below_alloc ?_ _ | refine Below.setCell ?_ (by simp <;> omega) _ | refine Below.alloc ?_ (by simp <;> omega) _ | refine Below.drew ?_ | refine below_drewN ?_ _))) (Y0_1_w6.out.cells.below (by repeat (first | exact Below.refl _ _ | exact Hid.out (by assumption) | refine below_alloc ?_ _ | refine Below.setCell ?_ (by simp <;> omega) _ | refine Below.alloc ?_ (by simp <;> omega) _ | refine Below.drew ?_ | refine below_drewN ?_ _))) (Y0_2_w6.out.cells.below (by repeat (first | exact Below.refl _ _ | exact Hid.out (by assumption) | refine below_alloc ?_ _ | refine Below.setCell ?_ (by simp <;> omega) _ | refine Below.alloc ?_ (by simp <;> omega) _ | refine Below.drew ?_ | refine below_drewN ?_ _))) (Y0_3_w6.out.cells.below (by repeat (first | exact Below.refl _ _ | exact Hid.out (by assumption) | refine below_alloc ?_ _ | refine Below.setCell ?_ (by simp <;> omega) _ | refine Below.alloc ?_ (by simp <;> omega) _ | refine Below.drew ?_ | refine below_drewN ?_ _))) (Y0_4_w6.out.cells.below (by repeat (first | exact Below.refl _ _ | exact Hid.out (by assumption) | refine below_alloc ?_ _ | refine Below.setCell ?_ (by simp <;> omega) _ | refine Below.alloc ?_ (by simp <;> omega) _ | refine Below.drew ?_ | refine below_drewN ?_ _))) (Y0_5_w6.out.cells.below (by repeat (first | exact Below.refl _ _ | exact Hid.out (by assumption) | refine below_alloc ?_ _ | refine Below.setCell ?_ (by simp <;> omega) _ | refine Below.alloc ?_ (by simp <;> omega) _ | refine Below.drew ?_ | refine below_drewN ?_ _))) (Y0_6_w6.out.cells.below (by repeat (first | exact Below.refl _ _ | exact Hid.out (by assumption) | refine below_alloc ?_ _ | refine Below.setCell ?_ (by simp <;> omega) _ | refine Below.alloc ?_ (by simp <;> omega) _ | refine Below.drew ?_ | refine below_drewN ?_ _))) (K_0.out.below (by repeat (first | exact Below.refl _ _ | exact Hid.out (by assumption) | refine below_alloc ?_ _ | refine Below.setCell ?_ (by simp <;> omega) _ | refine Below.alloc ?_ (by simp <;> omega) _ | refine Below.drew ?_ | refine below_drewN ?_ _))) (K_1.out.below (by repeat (first | exact Below.refl _ _ | exact Hid.out (by assumption) | refine below_alloc ?_ _ | refine Below.setCell ?_ (by simp <;> omega) _ | refine Below.alloc ?_ (by simp <;> omega) _ | refine Below.drew ?_ | refine below_drewN ?_ _))) (K_2.out.below (by repeat (first | exact Below.refl _ _ | exact Hid.out (by assumption) | refine below_alloc ?_ _ | refine Below.setCell ?_ (by simp <;> omega) _ | refine Below.alloc ?_ (by simp <;> omega) _ | refine Below.drew ?_ | refine below_drewN ?_ _))) (K_3.out.below (by repeat (first | exact Below.refl _ _ | exact Hid.out (by assumption) | refine below_alloc ?_ _ | refine Below.setCell ?_ (by simp <;> omega) _ | refine Below.alloc ?_ (by simp <;> omega) _ | refine Below.drew ?_ | refine below_drewN ?_ _))) (K_4.out.below (by repeat (first | exact Below.refl _ _ | exact Hid.out (by assumption) | refine below_alloc ?_ _ | refine Below.setCell ?_ (by simp <;> omega) _ | refine Below.alloc ?_ (by simp <;> omega) _ | refine Below.drew ?_ | refine below_drewN ?_ _))) (K_5.out.below (by repeat (first | exact Below.refl _ _ | exact Hid.out (by assumption) | refine below_alloc ?_ _ | refine Below.setCell ?_ (by simp <;> omega) _ | refine Below.alloc ?_ (by simp <;> omega) _ | refine Below.drew ?_ | refine below_drewN ?_ _))) (K_6.out.below (by repeat (first | exact Below.refl _ _ | exact Hid.out (by assumption) | refine below_alloc ?_ _ | refine Below.setCell ?_ (by simp <;> omega) _ | refine Below.alloc ?_ (by simp <;> omega) _ | refine Below.drew ?_ | refine below_drewN ?_ _)))).mono ?_
         rintro e u2 ⟨rfl, hb⟩
         have N_u2 := Lib.hid (show Below w6.heap.size w6 u2 from Below.trans (show Below w6.heap.size w6 _ from (by repeat (first | exact Below.refl _ _ | exact Hid.out (by assumption) | refine below_alloc ?_ _ | refine Below.setCell ?_ (by simp <;> omega) _ | refine Below.alloc ?_ (by simp <;> omega) _ | refine Below.drew ?_ | refine below_drewN ?_ _))) (hb.mono (by first | exact N_u1.out.size | simp [N_u1.out.size])))
         clear hb))
    all_goals (go_wp2_with fail; go_meet; exact ⟨rfl, N_u2.out⟩)
  case rest =>
  obtain ⟨rfl, hb⟩ := hcut
  obtain ⟨w7, rfl⟩ : ∃ u, u = wc := ⟨_, rfl⟩
  have N_w7 := Lib.hid hb
  clear hb
  have B_w7 := Lib.hid (B_w6.out.trans (N_w7.out.mono B_w6.out.size))
  have S_w7 := Lib.hid (show w6.heap.size ≤ w7.heap.size from N_w7.out.size)
  clear X0a X0b X0c X0d X0e X0f X0g X0h X0i X0j X0k X0l X0m X1a X1b X1c X1d X1e X1f X1g X1h X1i X1j X1k X1l X1m Z0a Z0b Z0c Z0d Z0e Z0f Z0g Z0h Z0i Z0j Z0k Z0l Z0m Z1a Z1b Z1c Z1d Z1e Z1f Z1g Z1h Z1i Z1j Z1k Z1l Z1m
  have X0_w7 := Lib.hid (X0_w6.out.below N_w7.out)
  clear X0_w6
  have X1_w7 := Lib.hid (X1_w6.out.below N_w7.out)
  clear X1_w6
  have Y0_0_w7 := Lib.hid (Y0_0_w6.out.below N_w7.out)
  clear Y0_0_w6
  have Y0_1_w7 := Lib.hid (Y0_1_w6.out.below N_w7.out)
  clear Y0_1_w6
  have Y0_2_w7 := Lib.hid (Y0_2_w6.out.below N_w7.out)
  clear Y0_2_w6
  have Y0_3_w7 := Lib.hid (Y0_3_w6.out.below N_w7.out)
  clear Y0_3_w6
  have Y0_4_w7 := Lib.hid (Y0_4_w6.out.below N_w7.out)
  clear Y0_4_w6
  have Y0_5_w7 := Lib.hid (Y0_5_w6.out.below N_w7.out)
  clear Y0_5_w6
  have Y0_6_w7 := Lib.hid (Y0_6_w6.out.below N_w7.out)
  clear Y0_6_w6
  have Z0_w7 := Lib.hid (Z0_w6.out.below N_w7.out)
  clear Z0_w6
  have Y1_0_w7 := Lib.hid (Y1_0_w6.out.below N_w7.out)
  clear Y1_0_w6
  have Y1_1_w7 := Lib.hid (Y1_1_w6.out.below N_w7.out)
  clear Y1_1_w6
  have Y1_2_w7 := Lib.hid (Y1_2_w6.out.below N_w7.out)
  clear Y1_2_w6
  have Y1_3_w7 := Lib.hid (Y1_3_w6.out.below N_w7.out)
  clear Y1_3_w6
  have Y1_4_w7 := Lib.hid (Y1_4_w6.out.below N_w7.out)
  clear Y1_4_w6
  have Y1_5_w7 := Lib.hid (Y1_5_w6.out.below N_w7.out)
  clear Y1_5_w6
  have Y1_6_w7 := Lib.hid (Y1_6_w6.out.below N_w7.out)
  clear Y1_6_w6
  have Z1_w7 := Lib.hid (Z1_w6.out.below N_w7.out)
  clear Z1_w6
  obtain ⟨X0a, X0b, X0c, X0d, X0e, X0f, X0g, X0h, X0i, X0j, X0k, X0l, X0m⟩ := X0_w7.out
  obtain ⟨X1a, X1b, X1c, X1d, X1e, X1f, X1g, X1h, X1i, X1j, X1k, X1l, X1m⟩ := X1_w7.out
  obtain ⟨Z0a, Z0b, Z0c, Z0d, Z0e, Z0f, Z0g, Z0h, Z0i, Z0j, Z0k, Z0l, Z0m⟩ := Z0_w7.out
  obtain ⟨Z1a, Z1b, Z1c, Z1d, Z1e, Z1f, Z1g, Z1h, Z1i, Z1j, Z1k, Z1l, Z1m⟩ := Z1_w7.out
  go_upto_region 16 with fail
  go_cut [44] from 40 to 44 (fun s wx => s = .bool false ∧ Below w7.heap.size w7 wx)
  case first =>
    go_region_with (first
      | (go_at_call 8
         refine (HT1.out _ (PA1_0.out.below (by repeat (first | exact Below.refl _ _ | exact Hid.out (by assumption) | refine below_alloc ?_ _ | refine Below.setCell ?_ (by simp <;> omega) _ | refine Below.alloc ?_ (by simp <;> omega) _ | refine Below.drew ?_ | refine below_drewN ?_ _))) (PA1_1.out.below (by repeat (first | exact Below.refl _ _ | exact Hid.out (by assumption) | refine below_alloc ?_ _ | refine Below.setCell ?_ (by simp <;> omega) _ | refine Below.alloc ?_ (by simp <;> omega) _ | refine Below.drew ?_ | refine below_drewN ?_ _))) (PA1_2.out.below (by repeat (first | exact Below.refl _ _ | exact Hid.out (by assumption) | refine below_alloc ?_ _ | refine Below.setCell ?_ (by simp <;> omega) _ | refine Below.alloc ?_ (by simp <;> omega) _ | refine Below.drew ?_ | refine below_drewN ?_ _))) (PA1_3.out.below (by repeat (first | exact Below.refl _ _ | exact Hid.out (by assumption) | refine below_alloc ?_ _ | refine Below.setCell ?_ (by simp <;> omega) _ | refine Below.alloc ?_ (by simp <;> omega) _ | refine Below.drew ?_ | refine below_drewN ?_ _))) (PA1_4.out.below (by repeat (first | exact Below.refl _ _ | exact Hid.out (by assumption) | refine below_alloc ?_ _ | refine Below.setCell ?_ (by simp <;> omega) _ | refine Below.alloc ?_ (by simp <;> omega) _ | refine Below.drew ?_ | refine below_drewN ?_ _))) (PA1_5.out.below (by repeat (first | exact Below.refl _ _ | exact Hid.out (by assumption) | refine below_alloc ?_ _ | refine Below.setCell ?_ (by simp <;> omega) _ | refine Below.alloc ?_ (by simp <;> omega) _ | refine Below.drew ?_ | refine below_drewN ?_ _))) (PA1_6.out.below (by repeat (first | exact Below.refl _ _ | exact Hid.out (by assumption) | refine below_alloc ?_ _ | refine Below.setCell ?_ (by simp <;> omega) _ | refine Below.alloc ?_ (by simp <;> omega) _ | refine Below.drew ?_ | refine below_drewN ?_ _)))).mono ?_
         rintro e u1 ⟨g0_u1, g1_u1, g2_u1, g3_u1, g4_u1, g5_u1, g6_u1, rfl, hg0, hg1, hg2, hg3, hg4, hg5, hg6, hg7, ho0, ho1, ho2, ho3, ho4, ho5, ho6, hb⟩
         have N_u1 := Lib.hid (show Below w7.heap.size w7 u1 from Below.trans (by repeat (first | exact Below.refl _ _ | exact Hid.out (by assumption) | refine below_alloc ?_ _ | refine Below.setCell ?_ (by simp <;> omega) _ | refine Below.alloc ?_ (by simp <;> omega) _ | refine Below.drew ?_ | refine below_drewN ?_ _)) (hb.mono (by simp)))
         have K_0 := Lib.hid ho0.cells
         have K_1 := Lib.hid ho1.cells
         have K_2 := Lib.hid ho2.cells
         have K_3 := Lib.hid ho3.cells
         have K_4 := Lib.hid ho4.cells
         have K_5 := Lib.hid ho5.cells
         have K_6 := Lib.hid ho6.cells
         obtain ⟨zZ1a, zZ1b, zZ1c, zZ1d, zZ1e, zZ1f, zZ1g, zZ1h, zZ1i, zZ1j, zZ1k, zZ1l, zZ1m⟩ := Z1_w7.out.below N_u1.out
         clear hb ho0 ho1 ho2 ho3 ho4 ho5 ho6)
      | (go_at_call 10
         refine (HE1.out _ _ _ _ _ _ _ _ _ _ _ _ _ _ _ _ _ _ _ _ _ _ _ _ _ _ _ _ _ (Y1_0_w7.out.cells.below (by repeat (first | exact Below.refl _ _ | exact Hid.out (by assumption) | refine below_alloc ?_ _ | refine Below.setCell ?_ (by simp <;> omega) _ | refine Below.alloc ?_ (by simp <;> omega) _ | refine Below.drew ?_ | refine below_drewN ?_ _))) (Y1_1_w7.out.cells.below (by repeat (first | exact Below.refl _ _ | exact Hid.out (by assumption) | refine below_alloc ?_ _ | refine Below.setCell ?_ (by simp <;> omega) _ | refine Below.alloc ?_ (by simp <;> omega) _ | refine Below.drew ?_ | refine below_drewN ?_ _))) (Y1_2_w7.out.cells.below (by repeat (first | exact Below.refl _ _ | exact Hid.out (by assumption) | refine below_alloc ?_ _ | refine Below.setCell ?_ (by simp <;> omega) _ | refine Below.alloc ?_ (by simp <;> omega) _ | refine Below.drew ?_ | refine below_drewN ?_ _))) (Y1_3_w7.out.cells.below (by repeat (first | exact Below.refl _ _ | exact Hid.out (by assumption) | refine below_alloc ?_ _ | refine Below.setCell ?_ (by simp <;> omega) _ | refine Below.alloc ?_ (by simp <;> omega) _ | refine Below.drew ?_ | refine below_drewN ?_ _))) (Y1_4_w7.out.cells.below (by repeat (first | exact Below.refl _ _ | exact Hid.out (by assumption) | refine below_alloc ?_ _ | refine Below.setCell ?_ (by simp <;> omega) _ | refine Below.alloc ?_ (by simp <;> omega) _ | refine Below.drew ?_ | refine below_drewN ?_ _))) (Y1_5_w7.out.cells.below (by repeat (first | exact Below.refl _ _ | exact Hid.out (by assumption) | refine below_alloc ?_ _ | refine Below.setCell ?_ (by simp <;> omega) _ | refine Below.alloc ?_ (by simp <;> omega) _ | refine Below.drew ?_ | refine below_drewN ?_ _))) (Y1_6_w7.out.cells.below (by repeat (first | exact Below.refl _ _ | exact Hid.out (by assumption) | refine below_alloc ?_ _ | refine Below.setCell ?_ (by simp <;> omega) _ | refine Below.alloc ?_ (by simp <;> omega) _ | refine Below.drew ?_ | refine below_drewN ?_ _))) (K_0.out.below (by repeat (first | exact Below.refl _ _ | exact Hid.out (by assumption) | refine below_alloc ?_ _ | refine Below.setCell ?_ (by simp <;> omega) _ | refine Below.alloc ?_ (by simp <;> omega) _ | refine Below.drew ?_ | refine below_drewN ?_ _))) (K_1.out.below (by repeat (first | exact Below.refl _ _ | exact Hid.out (by assumption) | refine below_alloc ?_ _ | refine Below.setCell ?_ (by simp <;> omega) _ | refine Below.alloc ?_ (by simp <;> omega) _ | refine Below.drew ?_ | refine below_drewN ?_ _))) (K_2.out.below (by repeat (first | exact Below.refl _ _ | exact Hid.out (by assumption) | refine below_alloc ?_ _ | refine Below.setCell ?_ (by simp <;> omega) _ | refine Below.alloc ?_ (by simp <;> omega) _ | refine Below.drew ?_ | refine below_drewN ?_ _))) (K_3.out.below (by repeat (first | exact Below.refl _ _ | exact Hid.out (by assumption) | refine below_alloc ?_ _ | refine Below.setCell ?_ (by simp <;> omega) _ | refine Below.alloc ?_ (by simp <;> omega) _ | refine Below.drew ?_ | refine below_drewN ?_ _))) (K_4.out.below (by repeat (first | exact Below.refl _ _ | exact Hid.out (by assumption) | refine below_alloc ?_ _ | refine Below.setCell ?_ (by simp <;> omega) _ | refine Below.alloc ?_ (by simp <;> omega) _ | refine Below.drew ?_ | refine below_drewN ?_ _))) (K_5.out.below (by repeat (first | exact Below.refl _ _ | exact Hid.out (by assumption) | refine below_alloc ?_ _ | refine Below.setCell ?_ (by simp <;> omega) _ | refine Below.alloc ?_ (by simp <;> omega) _ | refine Below.drew ?_ | refine below_drewN ?_ _))) (K_6.out.below (by repeat (first | exact Below.refl _ _ | exact Hid.out (by assumption) | refine below_alloc ?_ _ | refine Below.setCell ?_ (by simp <;> omega) _ | refine Below.alloc ?_ (by simp <;> omega) _ | refine Below.drew ?_ | refine below_drewN ?_ _)))).mono ?_
         rintro e u2 ⟨rfl, hb⟩
         have N_u2 := Lib.hid (show Below w7.heap.size w7 u2 from Below.trans (show Below w7.heap.size w7 _ from (by repeat (first | exact Below.refl _ _ | exact Hid.out (by assumption) | refine below_alloc ?_ _ | refine Below.setCell ?_ (by simp <;> omega) _ | refine Below.alloc ?_ (by simp <;> omega) _ | refine Below.drew ?_ | refine below_drewN ?_ _))) (hb.mono (by first | exact N_u1.out.size | simp [N_u1.out.size])))
         clear hb))
    all_goals (go_wp2_with fail; go_meet; exact ⟨rfl, N_u2.out⟩)
  case rest =>
  obtain ⟨rfl, hb⟩ := hcut
  obtain ⟨w8, rfl⟩ : ∃ u, u = wc := ⟨_, rfl⟩
  have N_w8 := Lib.hid hb
  clear hb
  have B_w8 := Lib.hid (B_w7.out.trans (N_w8.out.mono B_w7.out.size))
  have S_w8 := Lib.hid (show w7.heap.size ≤ w8.heap.size from N_w8.out.size)
  clear X0a X0b X0c X0d X0e X0f X0g X0h X0i X0j X0k X0l X0m X1a X1b X1c X1d X1e X1f X1g X1h X1i X1j X1k X1l X1m Z0a Z0b Z0c Z0d Z0e Z0f Z0g Z0h Z0i Z0j Z0k Z0l Z0m Z1a Z1b Z1c Z1d Z1e Z1f Z1g Z1h Z1i Z1j Z1k Z1l Z1m
  have X0_w8 := Lib.hid (X0_w7.out.below N_w8.out)
  clear X0_w7
  have X1_w8 := Lib.hid (X1_w7.out.below N_w8.out)
  clear X1_w7
  have Y0_0_w8 := Lib.hid (Y0_0_w7.out.below N_w8.out)
  clear Y0_0_w7
  have Y0_1_w8 := Lib.hid (Y0_1_w7.out.below N_w8.out)
  clear Y0_1_w7
  have Y0_2_w8 := Lib.hid (Y0_2_w7.out.below N_w8.out)
  clear Y0_2_w7
  have Y0_3_w8 := Lib.hid (Y0_3_w7.out.below N_w8.out)
  clear Y0_3_w7
  have Y0_4_w8 := Lib.hid (Y0_4_w7.out.below N_w8.out)
  clear Y0_4_w7
  have Y0_5_w8 := Lib.hid (Y0_5_w7.out.below N_w8.out)
  clear Y0_5_w7
  have Y0_6_w8 := Lib.hid (Y0_6_w7.out.below N_w8.out)
  clear Y0_6_w7
  have Z0_w8 := Lib.hid (Z0_w7.out.below N_w8.out)
  clear Z0_w7
  have Y1_0_w8 := Lib.hid (Y1_0_w7.out.below N_w8.out)
  clear Y1_0_w7
  have Y1_1_w8 := Lib.hid (Y1_1_w7.out.below N_w8.out)
  clear Y1_1_w7
  have Y1_2_w8 := Lib.hid (Y1_2_w7.out.below N_w8.out)
  clear Y1_2_w7
  have Y1_3_w8 := Lib.hid (Y1_3_w7.out.below N_w8.out)
  clear Y1_3_w7
  have Y1_4_w8 := Lib.hid (Y1_4_w7.out.below N_w8.out)
  clear Y1_4_w7
  have Y1_5_w8 := Lib.hid (Y1_5_w7.out.below N_w8.out)
  clear Y1_5_w7
  have Y1_6_w8 := Lib.hid (Y1_6_w7.out.below N_w8.out)
  clear Y1_6_w7
  have Z1_w8 := Lib.hid (Z1_w7.out.below N_w8.out)
  clear Z1_w7
  obtain ⟨X0a, X0b, X0c, X0d, X0e, X0f, X0g, X0h, X0i, X0j, X0k, X0l, X0m⟩ := X0_w8.out
  obtain ⟨X1a, X1b, X1c, X1d, X1e, X1f, X1g, X1h, X1i, X1j, X1k, X1l, X1m⟩ := X1_w8.out
  obtain ⟨Z0a, Z0b, Z0c, Z0d, Z0e, Z0f, Z0g, Z0h, Z0i, Z0j, Z0k, Z0l, Z0m⟩ := Z0_w8.out
  obtain ⟨Z1a, Z1b, Z1c, Z1d, Z1e, Z1f, Z1g, Z1h, Z1i, Z1j, Z1k, Z1l, Z1m⟩ := Z1_w8.out
  go_wp2_with fail
  go_ret
  exact ⟨rfl, B_w8.out⟩
end Go.Proofs.Yteagfbedbbnomaa
