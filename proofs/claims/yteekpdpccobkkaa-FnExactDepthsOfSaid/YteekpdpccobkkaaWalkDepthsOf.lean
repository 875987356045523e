/- The law on DepthsOf walked. -/
import Derived.Test.YteekpdpccobkkaaDepS
import Derived.Test.YteekpdpccobkkaaRowI
import Derived.Deep.CutRange
set_option linter.unusedVariables false
namespace Go.Proofs.Yteekpdpccobkkaa
open Go.RowKit

set_option maxHeartbeats 16000000 in
theorem fnExactDepthsOf.walk (A0 : Option Addr) (n0 c0 : Nat) (z0 : List Int) (A1 : Option Addr) (n1 c1 : Nat) (z1 : List Int) (w : World) (H0 : IsRow .i64 w A0 n0 c0 z0) (H1 : IsRow .i64 w A1 n1 c1 z1) :
    Calls Try.prog 11 #[.slice A0 n0 c0, .slice A1 n1 c1] w fun e w' => e = .returned (.bool true) ∧ Below w.heap.size w w' := by
  have PA0_0 := Lib.hid (V64c.ofRow H0)
  have na0_0 : n0 ≤ 9223372036854775807 := isRow_len H0
  clear H0
  generalize (fun i => z0.getD i 0) = f0 at *
  have PA1_0 := Lib.hid (V64c.ofRow H1)
  have na1_0 : n1 ≤ 9223372036854775807 := isRow_len H1
  clear H1
  generalize (fun i => z1.getD i 0) = f1 at *
  by_cases hb0 : n0 ≤ 1048576
  rotate_left
  · have d1 : (1048576 : Int) < n0 := by omega
    go_enter Try.func11, Try.ntmps11
    go_wp2_with fail
    go_ret
    exact ⟨rfl, (by repeat (first | exact Below.refl _ _ | exact Hid.out (by assumption) | refine below_alloc ?_ _ | refine Below.setCell ?_ (by simp <;> omega) _ | refine Below.alloc ?_ (by simp <;> omega) _ | refine Below.drew ?_ | refine below_drewN ?_ _))⟩
  have d0 : ¬ (1048576 : Int) < n0 := by omega
  by_cases hb1 : n1 ≤ 1048576
  rotate_left
  · have d1 : (1048576 : Int) < n1 := by omega
    go_enter Try.func11, Try.ntmps11
    go_wp2_with fail
    go_ret
    exact ⟨rfl, (by repeat (first | exact Below.refl _ _ | exact Hid.out (by assumption) | refine below_alloc ?_ _ | refine Below.setCell ?_ (by simp <;> omega) _ | refine Below.alloc ?_ (by simp <;> omega) _ | refine Below.drew ?_ | refine below_drewN ?_ _))⟩
  have d1 : ¬ (1048576 : Int) < n1 := by omega
  have HT0 := Lib.hid (fun W h => toI_any A0 n0 c0 f0 W (by omega) h)
  have HE0 := Lib.hid (fun A B c d W y1 y2 => eqI_any A B n0 c d f0 W (by omega) y1 y2)
  have HT1 := Lib.hid (fun W h => toI_any A1 n1 c1 f1 W (by omega) h)
  have HE1 := Lib.hid (fun A B c d W y1 y2 => eqI_any A B n1 c d f1 W (by omega) y1 y2)
  have HS := Lib.hid (fun vA0 vc0 vA1 vc1 W h0_0 h1_0 => specDepthsOf_any vA0 n0 vc0 f0 vA1 n1 vc1 f1 W (by omega) h0_0 (by omega) h1_0)
  have HI := Lib.hid (fun vA0 vc0 vA1 vc1 W h0_0 h1_0 => implDepthsOf_any vA0 n0 vc0 f0 vA1 n1 vc1 f1 W (by omega) h0_0 (by omega) h1_0)
  have RB := Lib.hid (show partN n0 f0 n1 f1 ≤ n0 from ifN_le _ _)
  generalize partN n0 f0 n1 f1 = Rn0 at *
  generalize partOk n0 f0 n1 f1 = Rr1 at *
  generalize depF n0 f0 f1 = Rf0 at *
  have bR0 : Rn0 ≤ 1048576 := Nat.le_trans RB.out (by omega)
  clear RB
  have HR0 := Lib.hid (fun A B c d W y1 y2 => eqI_any A B Rn0 c d Rf0 W (by omega) y1 y2)
  go_enter Try.func11, Try.ntmps11
  go_wp2_with fail
  refine (HT0.out _ (PA0_0.out.below (by repeat (first | exact Below.refl _ _ | exact Hid.out (by assumption) | refine below_alloc ?_ _ | refine Below.setCell ?_ (by simp <;> omega) _ | refine Below.alloc ?_ (by simp <;> omega) _ | refine Below.drew ?_ | refine below_drewN ?_ _)))).mono ?_
  rintro e w1 ⟨rfl, hg, ho0, hb⟩
  try simp only [World.size_alloc] at ho0
  have N_w1 := Lib.hid (show Below w.heap.size w w1 from Below.trans (by repeat (first | exact Below.refl _ _ | exact Hid.out (by assumption) | refine below_alloc ?_ _ | refine Below.setCell ?_ (by simp <;> omega) _ | refine Below.alloc ?_ (by simp <;> omega) _ | refine Below.drew ?_ | refine below_drewN ?_ _)) (hb.mono (by simp <;> omega)))
  have B_w1 := Lib.hid (show Below w.heap.size w w1 from N_w1.out)
  have S_w1 := Lib.hid (show w.heap.size ≤ w1.heap.size from N_w1.out.size)
  have C0_0_w1 := Lib.hid ho0
  have G_w1 := Lib.hid (show w.heap.size + 0 < w1.heap.size from by first | omega | (simp at hg; omega))
  clear hb ho0 hg
  go_wp2_with fail
  refine (HT1.out _ (PA1_0.out.below (by repeat (first | exact Below.refl _ _ | exact Hid.out (by assumption) | refine below_alloc ?_ _ | refine Below.setCell ?_ (by simp <;> omega) _ | refine Below.alloc ?_ (by simp <;> omega) _ | refine Below.drew ?_ | refine below_drewN ?_ _)))).mono ?_
  rintro e w2 ⟨rfl, hg, ho0, hb⟩
  try simp only [World.size_alloc] at ho0
  have N_w2 := Lib.hid (show Below w1.heap.size w1 w2 from Below.trans (by repeat (first | exact Below.refl _ _ | exact Hid.out (by assumption) | refine below_alloc ?_ _ | refine Below.setCell ?_ (by simp <;> omega) _ | refine Below.alloc ?_ (by simp <;> omega) _ | refine Below.drew ?_ | refine below_drewN ?_ _)) (hb.mono (by simp <;> omega)))
  have B_w2 := Lib.hid (B_w1.out.trans (N_w2.out.mono B_w1.out.size))
  have S_w2 := Lib.hid (show w1.heap.size ≤ w2.heap.size from N_w2.out.size)
  have C0_0_w2 := Lib.hid (C0_0_w1.out.below N_w2.out)
  clear C0_0_w1
  have C1_0_w2 := Lib.hid ho0
  have G_w2 := Lib.hid (show w1.heap.size + 0 < w2.heap.size from by first | omega | (simp at hg; omega))
  clear hb ho0 hg
  go_wp2_with fail
  refine (HS.out _ _ _ _ _ (C0_0_w2.out.cells.below (by repeat (first | exact Below.refl _ _ | exact Hid.out (by assumption) | refine below_alloc ?_ _ | refine Below.setCell ?_ (by simp <;> omega) _ | refine Below.alloc ?_ (by simp <;> omega) _ | refine Below.drew ?_ | refine below_drewN ?_ _))) (C1_0_w2.out.cells.below (by repeat (first | exact Below.refl _ _ | exact Hid.out (by assumption) | refine below_alloc ?_ _ | refine Below.setCell ?_ (by simp <;> omega) _ | refine Below.alloc ?_ (by simp <;> omega) _ | refine Below.drew ?_ | refine below_drewN ?_ _)))).mono ?_
  rintro e w3 ⟨A0_w3, c0_w3, q00_w3, rfl, hq, hd, ho00, hb⟩
  have hq : w2.heap.size + 0 ≤ q00_w3 ∧ True := ⟨(by have := hq; first | omega | (simp at this; omega)), trivial⟩
  have N_w3 := Lib.hid (show Below w2.heap.size w2 w3 from Below.trans (by repeat (first | exact Below.refl _ _ | exact Hid.out (by assumption) | refine below_alloc ?_ _ | refine Below.setCell ?_ (by simp <;> omega) _ | refine Below.alloc ?_ (by simp <;> omega) _ | refine Below.drew ?_ | refine below_drewN ?_ _)) (hb.mono (by simp <;> omega)))
  have B_w3 := Lib.hid (B_w2.out.trans (N_w3.out.mono B_w2.out.size))
  have S_w3 := Lib.hid (show w2.heap.size ≤ w3.heap.size from N_w3.out.size)
  have C0_0_w3 := Lib.hid (C0_0_w2.out.below N_w3.out)
  clear C0_0_w2
  have C1_0_w3 := Lib.hid (C1_0_w2.out.below N_w3.out)
  clear C1_0_w2
  have SW0_0_w3 := Lib.hid ho00
  have LSW0_0_w3 := Lib.hid (fun q => SW0_0_w3.out.lt q)
  have G_w3 := Lib.hid (hq)
  have D_w3 := Lib.hid (hd)
  clear hq hd ho00
  clear hb
  clear C0_0_w3
  clear C1_0_w3
  go_wp2_with fail
  refine (HT0.out _ (PA0_0.out.below (by repeat (first | exact Below.refl _ _ | exact Hid.out (by assumption) | refine below_alloc ?_ _ | refine Below.setCell ?_ (by simp <;> omega) _ | refine Below.alloc ?_ (by simp <;> omega) _ | refine Below.drew ?_ | refine below_drewN ?_ _)))).mono ?_
  rintro e w4 ⟨rfl, hg, ho0, hb⟩
  try simp only [World.size_alloc] at ho0
  have N_w4 := Lib.hid (show Below w3.heap.size w3 w4 from Below.trans (by repeat (first | exact Below.refl _ _ | exact Hid.out (by assumption) | refine below_alloc ?_ _ | refine Below.setCell ?_ (by simp <;> omega) _ | refine Below.alloc ?_ (by simp <;> omega) _ | refine Below.drew ?_ | refine below_drewN ?_ _)) (hb.mono (by simp <;> omega)))
  have B_w4 := Lib.hid (B_w3.out.trans (N_w4.out.mono B_w3.out.size))
  have S_w4 := Lib.hid (show w3.heap.size ≤ w4.heap.size from N_w4.out.size)
  have SW0_0_w4 := Lib.hid (SW0_0_w3.out.below N_w4.out)
  clear SW0_0_w3
  have Y0_0_w4 := Lib.hid ho0
  have G_w4 := Lib.hid (show w3.heap.size + 0 < w4.heap.size from by first | omega | (simp at hg; omega))
  clear hb ho0 hg
  go_wp2_with fail
  refine (HT1.out _ (PA1_0.out.below (by repeat (first | exact Below.refl _ _ | exact Hid.out (by assumption) | refine below_alloc ?_ _ | refine Below.setCell ?_ (by simp <;> omega) _ | refine Below.alloc ?_ (by simp <;> omega) _ | refine Below.drew ?_ | refine below_drewN ?_ _)))).mono ?_
  rintro e w5 ⟨rfl, hg, ho0, hb⟩
  try simp only [World.size_alloc] at ho0
  have N_w5 := Lib.hid (show Below w4.heap.size w4 w5 from Below.trans (by repeat (first | exact Below.refl _ _ | exact Hid.out (by assumption) | refine below_alloc ?_ _ | refine Below.setCell ?_ (by simp <;> omega) _ | refine Below.alloc ?_ (by simp <;> omega) _ | refine Below.drew ?_ | refine below_drewN ?_ _)) (hb.mono (by simp <;> omega)))
  have B_w5 := Lib.hid (B_w4.out.trans (N_w5.out.mono B_w4.out.size))
  have S_w5 := Lib.hid (show w4.heap.size ≤ w5.heap.size from N_w5.out.size)
  have SW0_0_w5 := Lib.hid (SW0_0_w4.out.below N_w5.out)
  clear SW0_0_w4
  have Y0_0_w5 := Lib.hid (Y0_0_w4.out.below N_w5.out)
  clear Y0_0_w4
  have Y1_0_w5 := Lib.hid ho0
  have G_w5 := Lib.hid (show w4.heap.size + 0 < w5.heap.size from by first | omega | (simp at hg; omega))
  clear hb ho0 hg
  go_wp2_with fail
  refine (HI.out _ _ _ _ _ (Y0_0_w5.out.cells.below (by repeat (first | exact Below.refl _ _ | exact Hid.out (by assumption) | refine below_alloc ?_ _ | refine Below.setCell ?_ (by simp <;> omega) _ | refine Below.alloc ?_ (by simp <;> omega) _ | refine Below.drew ?_ | refine below_drewN ?_ _))) (Y1_0_w5.out.cells.below (by repeat (first | exact Below.refl _ _ | exact Hid.out (by assumption) | refine below_alloc ?_ _ | refine Below.setCell ?_ (by simp <;> omega) _ | refine Below.alloc ?_ (by simp <;> omega) _ | refine Below.drew ?_ | refine below_drewN ?_ _)))).mono ?_
  rintro e w6 ⟨A0_w6, c0_w6, q00_w6, rfl, hq, hd, ho00, hb⟩
  have hq : w5.heap.size + 0 ≤ q00_w6 ∧ True := ⟨(by have := hq; first | omega | (simp at this; omega)), trivial⟩
  have N_w6 := Lib.hid (show Below w5.heap.size w5 w6 from Below.trans (by repeat (first | exact Below.refl _ _ | exact Hid.out (by assumption) | refine below_alloc ?_ _ | refine Below.setCell ?_ (by simp <;> omega) _ | refine Below.alloc ?_ (by simp <;> omega) _ | refine Below.drew ?_ | refine below_drewN ?_ _)) (hb.mono (by simp <;> omega)))
  have B_w6 := Lib.hid (B_w5.out.trans (N_w6.out.mono B_w5.out.size))
  have S_w6 := Lib.hid (show w5.heap.size ≤ w6.heap.size from N_w6.out.size)
  have SW0_0_w6 := Lib.hid (SW0_0_w5.out.below N_w6.out)
  clear SW0_0_w5
  have Y0_0_w6 := Lib.hid (Y0_0_w5.out.below N_w6.out)
  clear Y0_0_w5
  have Y1_0_w6 := Lib.hid (Y1_0_w5.out.below N_w6.out)
  clear Y1_0_w5
  have GW0_0_w6 := Lib.hid ho00
  have LGW0_0_w6 := Lib.hid (fun q => GW0_0_w6.out.lt q)
  have G_w6 := Lib.hid (hq)
  have D_w6 := Lib.hid (hd)
  clear hq hd ho00
  clear hb
  go_wp2_with fail
  refine (HR0.out _ _ _ _ _ (GW0_0_w6.out.cells.below (by repeat (first | exact Below.refl _ _ | exact Hid.out (by assumption) | refine below_alloc ?_ _ | refine Below.setCell ?_ (by simp <;> omega) _ | refine Below.alloc ?_ (by simp <;> omega) _ | refine Below.drew ?_ | refine below_drewN ?_ _))) (SW0_0_w6.out.cells.below (by repeat (first | exact Below.refl _ _ | exact Hid.out (by assumption) | refine below_alloc ?_ _ | refine Below.setCell ?_ (by simp <;> omega) _ | refine Below.alloc ?_ (by simp <;> omega) _ | refine Below.drew ?_ | refine below_drewN ?_ _)))).mono ?_
  rintro e w7 ⟨rfl, mq, hwq⟩
  have hb : Below w6.heap.size w6 w7 := by rw [hwq]; exact (by repeat (first | exact Below.refl _ _ | exact Hid.out (by assumption) | refine below_alloc ?_ _ | refine Below.setCell ?_ (by simp <;> omega) _ | refine Below.alloc ?_ (by simp <;> omega) _ | refine Below.drew ?_ | refine below_drewN ?_ _))
  clear hwq
  have N_w7 := Lib.hid (show Below w6.heap.size w6 w7 from Below.trans (by repeat (first | exact Below.refl _ _ | exact Hid.out (by assumption) | refine below_alloc ?_ _ | refine Below.setCell ?_ (by simp <;> omega) _ | refine Below.alloc ?_ (by simp <;> omega) _ | refine Below.drew ?_ | refine below_drewN ?_ _)) (hb.mono (by simp <;> omega)))
  have B_w7 := Lib.hid (B_w6.out.trans (N_w7.out.mono B_w6.out.size))
  have S_w7 := Lib.hid (show w6.heap.size ≤ w7.heap.size from N_w7.out.size)
  have SW0_0_w7 := Lib.hid (SW0_0_w6.out.below N_w7.out)
  clear SW0_0_w6
  have Y0_0_w7 := Lib.hid (Y0_0_w6.out.below N_w7.out)
  clear Y0_0_w6
  have Y1_0_w7 := Lib.hid (Y1_0_w6.out.below N_w7.out)
  clear Y1_0_w6
  have GW0_0_w7 := Lib.hid (GW0_0_w6.out.below N_w7.out)
  clear GW0_0_w6
  clear hb
  go_wp2_with fail
  refine (HT0.out _ (PA0_0.out.below (by repeat (first | exact Below.refl _ _ | exact Hid.out (by assumption) | refine below_alloc ?_ _ | refine Below.setCell ?_ (by simp <;> omega) _ | refine Below.alloc ?_ (by simp <;> omega) _ | refine Below.drew ?_ | refine below_drewN ?_ _)))).mono ?_
  rintro e w8 ⟨rfl, hg, ho0, hb⟩
  try simp only [World.size_alloc] at ho0
  have N_w8 := Lib.hid (show Below w7.heap.size w7 w8 from Below.trans (by repeat (first | exact Below.refl _ _ | exact Hid.out (by assumption) | refine below_alloc ?_ _ | refine Below.setCell ?_ (by simp <;> omega) _ | refine Below.alloc ?_ (by simp <;> omega) _ | refine Below.drew ?_ | refine below_drewN ?_ _)) (hb.mono (by simp <;> omega)))
  have B_w8 := Lib.hid (B_w7.out.trans (N_w8.out.mono B_w7.out.size))
  have S_w8 := Lib.hid (show w7.heap.size ≤ w8.heap.size from N_w8.out.size)
  have SW0_0_w8 := Lib.hid (SW0_0_w7.out.below N_w8.out)
  clear SW0_0_w7
  have Y0_0_w8 := Lib.hid (Y0_0_w7.out.below N_w8.out)
  clear Y0_0_w7
  have Y1_0_w8 := Lib.hid (Y1_0_w7.out.below N_w8.out)
  clear Y1_0_w7
  have GW0_0_w8 := Lib.hid (GW0_0_w7.out.below N_w8.out)
  clear GW0_0_w7
  have C0_0_w8 := Lib.hid ho0
  have G_w8 := Lib.hid (show w7.heap.size + 0 < w8.heap.size from by first | omega | (simp at hg; omega))
  clear hb ho0 hg
  go_wp2_with fail
  refine (HE0.out _ _ _ _ _ (Y0_0_w8.out.cells.below (by repeat (first | exact Below.refl _ _ | exact Hid.out (by assumption) | refine below_alloc ?_ _ | refine Below.setCell ?_ (by simp <;> omega) _ | refine Below.alloc ?_ (by simp <;> omega) _ | refine Below.drew ?_ | refine below_drewN ?_ _))) (C0_0_w8.out.cells.below (by repeat (first | exact Below.refl _ _ | exact Hid.out (by assumption) | refine below_alloc ?_ _ | refine Below.setCell ?_ (by simp <;> omega) _ | refine Below.alloc ?_ (by simp <;> omega) _ | refine Below.drew ?_ | refine below_drewN ?_ _)))).mono ?_
  rintro e w9 ⟨rfl, mq, hwq⟩
  have hb : Below w8.heap.size w8 w9 := by rw [hwq]; exact (by repeat (first | exact Below.refl _ _ | exact Hid.out (by assumption) | refine below_alloc ?_ _ | refine Below.setCell ?_ (by simp <;> omega) _ | refine Below.alloc ?_ (by simp <;> omega) _ | refine Below.drew ?_ | refine below_drewN ?_ _))
  clear hwq
  have N_w9 := Lib.hid (show Below w8.heap.size w8 w9 from Below.trans (by repeat (first | exact Below.refl _ _ | exact Hid.out (by assumption) | refine below_alloc ?_ _ | refine Below.setCell ?_ (by simp <;> omega) _ | refine Below.alloc ?_ (by simp <;> omega) _ | refine Below.drew ?_ | refine below_drewN ?_ _)) (hb.mono (by simp <;> omega)))
  have B_w9 := Lib.hid (B_w8.out.trans (N_w9.out.mono B_w8.out.size))
  have S_w9 := Lib.hid (show w8.heap.size ≤ w9.heap.size from N_w9.out.size)
  have SW0_0_w9 := Lib.hid (SW0_0_w8.out.below N_w9.out)
  clear SW0_0_w8
  have Y0_0_w9 := Lib.hid (Y0_0_w8.out.below N_w9.out)
  clear Y0_0_w8
  have Y1_0_w9 := Lib.hid (Y1_0_w8.out.below N_w9.out)
  clear Y1_0_w8
  have GW0_0_w9 := Lib.hid (GW0_0_w8.out.below N_w9.out)
  clear GW0_0_w8
  have C0_0_w9 := Lib.hid (C0_0_w8.out.below N_w9.out)
  clear C0_0_w8
  clear hb
  clear C0_0_w9
  go_wp2_with fail
  refine (HT1.out _ (PA1_0.out.below (by repeat (first | exact Below.refl _ _ | exact Hid.out (by assumption) | refine below_alloc ?_ _ | refine Below.setCell ?_ (by simp <;> omega) _ | refine Below.alloc ?_ (by simp <;> omega) _ | refine Below.drew ?_ | refine below_drewN ?_ _)))).mono ?_
  rintro e w10 ⟨rfl, hg, ho0, hb⟩
  try simp only [World.size_alloc] at ho0
  have N_w10 := Lib.hid (show Below w9.heap.size w9 w10 from Below.trans (by repeat (first | exact Below.refl _ _ | exact Hid.out (by assumption) | refine below_alloc ?_ _ | refine Below.setCell ?_ (by simp <;> omega) _ | refine Below.alloc ?_ (by simp <;> omega) _ | refine Below.drew ?_ | refine below_drewN ?_ _)) (hb.mono (by simp <;> omega)))
  have B_w10 := Lib.hid (B_w9.out.trans (N_w10.out.mono B_w9.out.size))
  have S_w10 := Lib.hid (show w9.heap.size ≤ w10.heap.size from N_w10.out.size)
  have SW0_0_w10 := Lib.hid (SW0_0_w9.out.below N_w10.out)
  clear SW0_0_w9
  have Y0_0_w10 := Lib.hid (Y0_0_w9.out.below N_w10.out)
  clear Y0_0_w9
  have Y1_0_w10 := Lib.hid (Y1_0_w9.out.below N_w10.out)
  clear Y1_0_w9
  have GW0_0_w10 := Lib.hid (GW0_0_w9.out.below N_w10.out)
  clear GW0_0_w9
  have C1_0_w10 := Lib.hid ho0
  have G_w10 := Lib.hid (show w9.heap.size + 0 < w10.heap.size from by first | omega | (simp at hg; omega))
  clear hb ho0 hg
  go_wp2_with fail
  refine (HE1.out _ _ _ _ _ (Y1_0_w10.out.cells.below (by repeat (first | exact Below.refl _ _ | exact Hid.out (by assumption) | refine below_alloc ?_ _ | refine Below.setCell ?_ (by simp <;> omega) _ | refine Below.alloc ?_ (by simp <;> omega) _ | refine Below.drew ?_ | refine below_drewN ?_ _))) (C1_0_w10.out.cells.below (by repeat (first | exact Below.refl _ _ | exact Hid.out (by assumption) | refine below_alloc ?_ _ | refine Below.setCell ?_ (by simp <;> omega) _ | refine Below.alloc ?_ (by simp <;> omega) _ | refine Below.drew ?_ | refine below_drewN ?_ _)))).mono ?_
  rintro e w11 ⟨rfl, mq, hwq⟩
  have hb : Below w10.heap.size w10 w11 := by rw [hwq]; exact (by repeat (first | exact Below.refl _ _ | exact Hid.out (by assumption) | refine below_alloc ?_ _ | refine Below.setCell ?_ (by simp <;> omega) _ | refine Below.alloc ?_ (by simp <;> omega) _ | refine Below.drew ?_ | refine below_drewN ?_ _))
  clear hwq
  have N_w11 := Lib.hid (show Below w10.heap.size w10 w11 from Below.trans (by repeat (first | exact Below.refl _ _ | exact Hid.out (by assumption) | refine below_alloc ?_ _ | refine Below.setCell ?_ (by simp <;> omega) _ | refine Below.alloc ?_ (by simp <;> omega) _ | refine Below.drew ?_ | refine below_drewN ?_ _)) (hb.mono (by simp <;> omega)))
  have B_w11 := Lib.hid (B_w10.out.trans (N_w11.out.mono B_w10.out.size))
  have S_w11 := Lib.hid (show w10.heap.size ≤ w11.heap.size from N_w11.out.size)
  have SW0_0_w11 := Lib.hid (SW0_0_w10.out.below N_w11.out)
  clear SW0_0_w10
  have Y0_0_w11 := Lib.hid (Y0_0_w10.out.below N_w11.out)
  clear Y0_0_w10
  have Y1_0_w11 := Lib.hid (Y1_0_w10.out.below N_w11.out)
  clear Y1_0_w10
  have GW0_0_w11 := Lib.hid (GW0_0_w10.out.below N_w11.out)
  clear GW0_0_w10
  have C1_0_w11 := Lib.hid (C1_0_w10.out.below N_w11.out)
  clear C1_0_w10
  clear hb
  clear C1_0_w11
  go_wp2_with fail
  refine (markI_any (some ⟨w3.heap.size, 0, none⟩) n0 n0 _ _ 1 _ (by omega) (by omega) (Y0_0_w11.out.below (by repeat (first | exact Below.refl _ _ | exact Hid.out (by assumption) | refine below_alloc ?_ _ | refine Below.setCell ?_ (by simp <;> omega) _ | refine Below.alloc ?_ (by simp <;> omega) _ | refine Below.drew ?_ | refine below_drewN ?_ _))) ).mono ?_
  rintro e w12 ⟨rfl, hm0, hw⟩
  have N_w12 := Lib.hid (show Within (w3.heap.size + 0) (w4.heap.size) w11 w12 from hw _ _ (by have o0 := S_w1.out; have o1 := S_w2.out; have o2 := S_w3.out; have o3 := S_w4.out; have o4 := S_w5.out; have o5 := S_w6.out; have o6 := S_w7.out; have o7 := S_w8.out; have o8 := S_w9.out; have o9 := S_w10.out; have o10 := S_w11.out; have o11 := G_w1.out; have o12 := G_w2.out; have o13 := LSW0_0_w3.out; have o14 := G_w3.out; have o15 := D_w3.out; have o16 := G_w4.out; have o17 := G_w5.out; have o18 := LGW0_0_w6.out; have o19 := G_w6.out; have o20 := D_w6.out; have o21 := G_w8.out; have o22 := G_w10.out; omega) (fun q => by have o0 := S_w1.out; have o1 := S_w2.out; have o2 := S_w3.out; have o3 := S_w4.out; have o4 := S_w5.out; have o5 := S_w6.out; have o6 := S_w7.out; have o7 := S_w8.out; have o8 := S_w9.out; have o9 := S_w10.out; have o10 := S_w11.out; have o11 := G_w1.out; have o12 := G_w2.out; have o13 := LSW0_0_w3.out; have o14 := G_w3.out; have o15 := D_w3.out; have o16 := G_w4.out; have o17 := G_w5.out; have o18 := LGW0_0_w6.out; have o19 := G_w6.out; have o20 := D_w6.out; have o21 := G_w8.out; have o22 := G_w10.out; omega))
  clear hw
  have B_w12 := Lib.hid (B_w11.out.trans (Within.below N_w12.out (by have o0 := S_w1.out; have o1 := S_w2.out; have o2 := S_w3.out; have o3 := S_w4.out; have o4 := S_w5.out; have o5 := S_w6.out; have o6 := S_w7.out; have o7 := S_w8.out; have o8 := S_w9.out; have o9 := S_w10.out; have o10 := S_w11.out; have o11 := G_w1.out; have o12 := G_w2.out; have o13 := LSW0_0_w3.out; have o14 := G_w3.out; have o15 := D_w3.out; have o16 := G_w4.out; have o17 := G_w5.out; have o18 := LGW0_0_w6.out; have o19 := G_w6.out; have o20 := D_w6.out; have o21 := G_w8.out; have o22 := G_w10.out; omega) (by have o0 := S_w1.out; have o1 := S_w2.out; have o2 := S_w3.out; have o3 := S_w4.out; have o4 := S_w5.out; have o5 := S_w6.out; have o6 := S_w7.out; have o7 := S_w8.out; have o8 := S_w9.out; have o9 := S_w10.out; have o10 := S_w11.out; have o11 := G_w1.out; have o12 := G_w2.out; have o13 := LSW0_0_w3.out; have o14 := G_w3.out; have o15 := D_w3.out; have o16 := G_w4.out; have o17 := G_w5.out; have o18 := LGW0_0_w6.out; have o19 := G_w6.out; have o20 := D_w6.out; have o21 := G_w8.out; have o22 := G_w10.out; omega)))
  have S_w12 := Lib.hid (show w11.heap.size ≤ w12.heap.size from N_w12.out.size)
  have SW0_0_w12 := Lib.hid (OwnC.within SW0_0_w11.out N_w12.out (fun q => by have o0 := S_w1.out; have o1 := S_w2.out; have o2 := S_w3.out; have o3 := S_w4.out; have o4 := S_w5.out; have o5 := S_w6.out; have o6 := S_w7.out; have o7 := S_w8.out; have o8 := S_w9.out; have o9 := S_w10.out; have o10 := S_w11.out; have o11 := S_w12.out; have o12 := G_w1.out; have o13 := G_w2.out; have o14 := LSW0_0_w3.out; have o15 := G_w3.out; have o16 := D_w3.out; have o17 := G_w4.out; have o18 := G_w5.out; have o19 := LGW0_0_w6.out; have o20 := G_w6.out; have o21 := D_w6.out; have o22 := G_w8.out; have o23 := G_w10.out; omega))
  clear SW0_0_w11
  clear Y0_0_w11
  have Y1_0_w12 := Lib.hid (OwnC.within Y1_0_w11.out N_w12.out (fun q => by have o0 := S_w1.out; have o1 := S_w2.out; have o2 := S_w3.out; have o3 := S_w4.out; have o4 := S_w5.out; have o5 := S_w6.out; have o6 := S_w7.out; have o7 := S_w8.out; have o8 := S_w9.out; have o9 := S_w10.out; have o10 := S_w11.out; have o11 := S_w12.out; have o12 := G_w1.out; have o13 := G_w2.out; have o14 := LSW0_0_w3.out; have o15 := G_w3.out; have o16 := D_w3.out; have o17 := G_w4.out; have o18 := G_w5.out; have o19 := LGW0_0_w6.out; have o20 := G_w6.out; have o21 := D_w6.out; have o22 := G_w8.out; have o23 := G_w10.out; omega))
  clear Y1_0_w11
  have GW0_0_w12 := Lib.hid (OwnC.within GW0_0_w11.out N_w12.out (fun q => by have o0 := S_w1.out; have o1 := S_w2.out; have o2 := S_w3.out; have o3 := S_w4.out; have o4 := S_w5.out; have o5 := S_w6.out; have o6 := S_w7.out; have o7 := S_w8.out; have o8 := S_w9.out; have o9 := S_w10.out; have o10 := S_w11.out; have o11 := S_w12.out; have o12 := G_w1.out; have o13 := G_w2.out; have o14 := LSW0_0_w3.out; have o15 := G_w3.out; have o16 := D_w3.out; have o17 := G_w4.out; have o18 := G_w5.out; have o19 := LGW0_0_w6.out; have o20 := G_w6.out; have o21 := D_w6.out; have o22 := G_w8.out; have o23 := G_w10.out; omega))
  clear GW0_0_w11
  clear hm0
  go_wp2_with fail
  refine (markI_any (some ⟨w4.heap.size, 0, none⟩) n1 n1 _ _ (1 + (n0 : Int)) _ (by omega) (by omega) (Y1_0_w12.out.below (by repeat (first | exact Below.refl _ _ | exact Hid.out (by assumption) | refine below_alloc ?_ _ | refine Below.setCell ?_ (by simp <;> omega) _ | refine Below.alloc ?_ (by simp <;> omega) _ | refine Below.drew ?_ | refine below_drewN ?_ _))) ).mono ?_
  rintro e w13 ⟨rfl, hm0, hw⟩
  have N_w13 := Lib.hid (show Within (w4.heap.size + 0) (w5.heap.size) w12 w13 from hw _ _ (by have o0 := S_w1.out; have o1 := S_w2.out; have o2 := S_w3.out; have o3 := S_w4.out; have o4 := S_w5.out; have o5 := S_w6.out; have o6 := S_w7.out; have o7 := S_w8.out; have o8 := S_w9.out; have o9 := S_w10.out; have o10 := S_w11.out; have o11 := S_w12.out; have o12 := G_w1.out; have o13 := G_w2.out; have o14 := LSW0_0_w3.out; have o15 := G_w3.out; have o16 := D_w3.out; have o17 := G_w4.out; have o18 := G_w5.out; have o19 := LGW0_0_w6.out; have o20 := G_w6.out; have o21 := D_w6.out; have o22 := G_w8.out; have o23 := G_w10.out; omega) (fun q => by have o0 := S_w1.out; have o1 := S_w2.out; have o2 := S_w3.out; have o3 := S_w4.out; have o4 := S_w5.out; have o5 := S_w6.out; have o6 := S_w7.out; have o7 := S_w8.out; have o8 := S_w9.out; have o9 := S_w10.out; have o10 := S_w11.out; have o11 := S_w12.out; have o12 := G_w1.out; have o13 := G_w2.out; have o14 := LSW0_0_w3.out; have o15 := G_w3.out; have o16 := D_w3.out; have o17 := G_w4.out; have o18 := G_w5.out; have o19 := LGW0_0_w6.out; have o20 := G_w6.out; have o21 := D_w6.out; have o22 := G_w8.out; have o23 := G_w10.out; omega))
  clear hw
  have B_w13 := Lib.hid (B_w12.out.trans (Within.below N_w13.out (by have o0 := S_w1.out; have o1 := S_w2.out; have o2 := S_w3.out; have o3 := S_w4.out; have o4 := S_w5.out; have o5 := S_w6.out; have o6 := S_w7.out; have o7 := S_w8.out; have o8 := S_w9.out; have o9 := S_w10.out; have o10 := S_w11.out; have o11 := S_w12.out; have o12 := G_w1.out; have o13 := G_w2.out; have o14 := LSW0_0_w3.out; have o15 := G_w3.out; have o16 := D_w3.out; have o17 := G_w4.out; have o18 := G_w5.out; have o19 := LGW0_0_w6.out; have o20 := G_w6.out; have o21 := D_w6.out; have o22 := G_w8.out; have o23 := G_w10.out; omega) (by have o0 := S_w1.out; have o1 := S_w2.out; have o2 := S_w3.out; have o3 := S_w4.out; have o4 := S_w5.out; have o5 := S_w6.out; have o6 := S_w7.out; have o7 := S_w8.out; have o8 := S_w9.out; have o9 := S_w10.out; have o10 := S_w11.out; have o11 := S_w12.out; have o12 := G_w1.out; have o13 := G_w2.out; have o14 := LSW0_0_w3.out; have o15 := G_w3.out; have o16 := D_w3.out; have o17 := G_w4.out; have o18 := G_w5.out; have o19 := LGW0_0_w6.out; have o20 := G_w6.out; have o21 := D_w6.out; have o22 := G_w8.out; have o23 := G_w10.out; omega)))
  have S_w13 := Lib.hid (show w12.heap.size ≤ w13.heap.size from N_w13.out.size)
  have SW0_0_w13 := Lib.hid (OwnC.within SW0_0_w12.out N_w13.out (fun q => by have o0 := S_w1.out; have o1 := S_w2.out; have o2 := S_w3.out; have o3 := S_w4.out; have o4 := S_w5.out; have o5 := S_w6.out; have o6 := S_w7.out; have o7 := S_w8.out; have o8 := S_w9.out; have o9 := S_w10.out; have o10 := S_w11.out; have o11 := S_w12.out; have o12 := S_w13.out; have o13 := G_w1.out; have o14 := G_w2.out; have o15 := LSW0_0_w3.out; have o16 := G_w3.out; have o17 := D_w3.out; have o18 := G_w4.out; have o19 := G_w5.out; have o20 := LGW0_0_w6.out; have o21 := G_w6.out; have o22 := D_w6.out; have o23 := G_w8.out; have o24 := G_w10.out; omega))
  clear SW0_0_w12
  clear Y1_0_w12
  have GW0_0_w13 := Lib.hid (OwnC.within GW0_0_w12.out N_w13.out (fun q => by have o0 := S_w1.out; have o1 := S_w2.out; have o2 := S_w3.out; have o3 := S_w4.out; have o4 := S_w5.out; have o5 := S_w6.out; have o6 := S_w7.out; have o7 := S_w8.out; have o8 := S_w9.out; have o9 := S_w10.out; have o10 := S_w11.out; have o11 := S_w12.out; have o12 := S_w13.out; have o13 := G_w1.out; have o14 := G_w2.out; have o15 := LSW0_0_w3.out; have o16 := G_w3.out; have o17 := D_w3.out; have o18 := G_w4.out; have o19 := G_w5.out; have o20 := LGW0_0_w6.out; have o21 := G_w6.out; have o22 := D_w6.out; have o23 := G_w8.out; have o24 := G_w10.out; omega))
  clear GW0_0_w12
  clear hm0
  have hk0 : ¬ ((1 + (n0 : Int)) + (n1 : Int)) < 0 := by omega
  go_wp2_with fail
  refine (HR0.out _ _ _ _ _ (GW0_0_w13.out.cells.below (by repeat (first | exact Below.refl _ _ | exact Hid.out (by assumption) | refine below_alloc ?_ _ | refine Below.setCell ?_ (by simp <;> omega) _ | refine Below.alloc ?_ (by simp <;> omega) _ | refine Below.drew ?_ | refine below_drewN ?_ _))) (SW0_0_w13.out.cells.below (by repeat (first | exact Below.refl _ _ | exact Hid.out (by assumption) | refine below_alloc ?_ _ | refine Below.setCell ?_ (by simp <;> omega) _ | refine Below.alloc ?_ (by simp <;> omega) _ | refine Below.drew ?_ | refine below_drewN ?_ _)))).mono ?_
  rintro e w14 ⟨rfl, mq, hwq⟩
  have hb : Below w13.heap.size w13 w14 := by rw [hwq]; exact (by repeat (first | exact Below.refl _ _ | exact Hid.out (by assumption) | refine below_alloc ?_ _ | refine Below.setCell ?_ (by simp <;> omega) _ | refine Below.alloc ?_ (by simp <;> omega) _ | refine Below.drew ?_ | refine below_drewN ?_ _))
  clear hwq
  have N_w14 := Lib.hid (show Below w13.heap.size w13 w14 from Below.trans (by repeat (first | exact Below.refl _ _ | exact Hid.out (by assumption) | refine below_alloc ?_ _ | refine Below.setCell ?_ (by simp <;> omega) _ | refine Below.alloc ?_ (by simp <;> omega) _ | refine Below.drew ?_ | refine below_drewN ?_ _)) (hb.mono (by simp <;> omega)))
  have B_w14 := Lib.hid (B_w13.out.trans (N_w14.out.mono B_w13.out.size))
  have S_w14 := Lib.hid (show w13.heap.size ≤ w14.heap.size from N_w14.out.size)
  have SW0_0_w14 := Lib.hid (SW0_0_w13.out.below N_w14.out)
  clear SW0_0_w13
  have GW0_0_w14 := Lib.hid (GW0_0_w13.out.below N_w14.out)
  clear GW0_0_w13
  clear hb
  go_wp2_with fail
  refine (markI_any (A0_w6) Rn0 c0_w6 q00_w6 _ 1 _ (by omega) (by omega) (GW0_0_w14.out.below (by repeat (first | exact Below.refl _ _ | exact Hid.out (by assumption) | refine below_alloc ?_ _ | refine Below.setCell ?_ (by simp <;> omega) _ | refine Below.alloc ?_ (by simp <;> omega) _ | refine Below.drew ?_ | refine below_drewN ?_ _))) ).mono ?_
  rintro e w15 ⟨rfl, hm0, hw⟩
  have N_w15 := Lib.hid (show Within (w5.heap.size + 0) (w6.heap.size) w14 w15 from hw _ _ (by have o0 := S_w1.out; have o1 := S_w2.out; have o2 := S_w3.out; have o3 := S_w4.out; have o4 := S_w5.out; have o5 := S_w6.out; have o6 := S_w7.out; have o7 := S_w8.out; have o8 := S_w9.out; have o9 := S_w10.out; have o10 := S_w11.out; have o11 := S_w12.out; have o12 := S_w13.out; have o13 := S_w14.out; have o14 := G_w1.out; have o15 := G_w2.out; have o16 := LSW0_0_w3.out; have o17 := G_w3.out; have o18 := D_w3.out; have o19 := G_w4.out; have o20 := G_w5.out; have o21 := LGW0_0_w6.out; have o22 := G_w6.out; have o23 := D_w6.out; have o24 := G_w8.out; have o25 := G_w10.out; omega) (fun q => by have o0 := S_w1.out; have o1 := S_w2.out; have o2 := S_w3.out; have o3 := S_w4.out; have o4 := S_w5.out; have o5 := S_w6.out; have o6 := S_w7.out; have o7 := S_w8.out; have o8 := S_w9.out; have o9 := S_w10.out; have o10 := S_w11.out; have o11 := S_w12.out; have o12 := S_w13.out; have o13 := S_w14.out; have o14 := G_w1.out; have o15 := G_w2.out; have o16 := LSW0_0_w3.out; have o17 := G_w3.out; have o18 := D_w3.out; have o19 := G_w4.out; have o20 := G_w5.out; have o21 := LGW0_0_w6.out; have o22 := G_w6.out; have o23 := D_w6.out; have o24 := G_w8.out; have o25 := G_w10.out; omega))
  clear hw
  have B_w15 := Lib.hid (B_w14.out.trans (Within.below N_w15.out (by have o0 := S_w1.out; have o1 := S_w2.out; have o2 := S_w3.out; have o3 := S_w4.out; have o4 := S_w5.out; have o5 := S_w6.out; have o6 := S_w7.out; have o7 := S_w8.out; have o8 := S_w9.out; have o9 := S_w10.out; have o10 := S_w11.out; have o11 := S_w12.out; have o12 := S_w13.out; have o13 := S_w14.out; have o14 := G_w1.out; have o15 := G_w2.out; have o16 := LSW0_0_w3.out; have o17 := G_w3.out; have o18 := D_w3.out; have o19 := G_w4.out; have o20 := G_w5.out; have o21 := LGW0_0_w6.out; have o22 := G_w6.out; have o23 := D_w6.out; have o24 := G_w8.out; have o25 := G_w10.out; omega) (by have o0 := S_w1.out; have o1 := S_w2.out; have o2 := S_w3.out; have o3 := S_w4.out; have o4 := S_w5.out; have o5 := S_w6.out; have o6 := S_w7.out; have o7 := S_w8.out; have o8 := S_w9.out; have o9 := S_w10.out; have o10 := S_w11.out; have o11 := S_w12.out; have o12 := S_w13.out; have o13 := S_w14.out; have o14 := G_w1.out; have o15 := G_w2.out; have o16 := LSW0_0_w3.out; have o17 := G_w3.out; have o18 := D_w3.out; have o19 := G_w4.out; have o20 := G_w5.out; have o21 := LGW0_0_w6.out; have o22 := G_w6.out; have o23 := D_w6.out; have o24 := G_w8.out; have o25 := G_w10.out; omega)))
  have S_w15 := Lib.hid (show w14.heap.size ≤ w15.heap.size from N_w15.out.size)
  have SW0_0_w15 := Lib.hid (OwnC.within SW0_0_w14.out N_w15.out (fun q => by have o0 := S_w1.out; have o1 := S_w2.out; have o2 := S_w3.out; have o3 := S_w4.out; have o4 := S_w5.out; have o5 := S_w6.out; have o6 := S_w7.out; have o7 := S_w8.out; have o8 := S_w9.out; have o9 := S_w10.out; have o10 := S_w11.out; have o11 := S_w12.out; have o12 := S_w13.out; have o13 := S_w14.out; have o14 := S_w15.out; have o15 := G_w1.out; have o16 := G_w2.out; have o17 := LSW0_0_w3.out; have o18 := G_w3.out; have o19 := D_w3.out; have o20 := G_w4.out; have o21 := G_w5.out; have o22 := LGW0_0_w6.out; have o23 := G_w6.out; have o24 := D_w6.out; have o25 := G_w8.out; have o26 := G_w10.out; omega))
  clear SW0_0_w14
  clear GW0_0_w14
  have GW0_0_w15 := Lib.hid hm0
  clear hm0
  have hk1_0 : ¬ (1 + (Rn0 : Int)) < 0 := by omega
  go_wp2_with fail
  refine (heldI_any (A0_w6) Rn0 c0_w6 1 _ (by omega) (by omega) (GW0_0_w15.out.cells.below (by repeat (first | exact Below.refl _ _ | exact Hid.out (by assumption) | refine below_alloc ?_ _ | refine Below.setCell ?_ (by simp <;> omega) _ | refine Below.alloc ?_ (by simp <;> omega) _ | refine Below.drew ?_ | refine below_drewN ?_ _)))).mono ?_
  rintro e w16 ⟨rfl, mq, hwq⟩
  have hb : Below w15.heap.size w15 w16 := by rw [hwq]; exact (by repeat (first | exact Below.refl _ _ | exact Hid.out (by assumption) | refine below_alloc ?_ _ | refine Below.setCell ?_ (by simp <;> omega) _ | refine Below.alloc ?_ (by simp <;> omega) _ | refine Below.drew ?_ | refine below_drewN ?_ _))
  clear hwq
  have N_w16 := Lib.hid (show Below w15.heap.size w15 w16 from Below.trans (by repeat (first | exact Below.refl _ _ | exact Hid.out (by assumption) | refine below_alloc ?_ _ | refine Below.setCell ?_ (by simp <;> omega) _ | refine Below.alloc ?_ (by simp <;> omega) _ | refine Below.drew ?_ | refine below_drewN ?_ _)) (hb.mono (by simp <;> omega)))
  have B_w16 := Lib.hid (B_w15.out.trans (N_w16.out.mono B_w15.out.size))
  have S_w16 := Lib.hid (show w15.heap.size ≤ w16.heap.size from N_w16.out.size)
  have SW0_0_w16 := Lib.hid (SW0_0_w15.out.below N_w16.out)
  clear SW0_0_w15
  have GW0_0_w16 := Lib.hid (GW0_0_w15.out.below N_w16.out)
  clear GW0_0_w15
  clear hb
  go_wp2_with fail
  refine (HT0.out _ (PA0_0.out.below (by repeat (first | exact Below.refl _ _ | exact Hid.out (by assumption) | refine below_alloc ?_ _ | refine Below.setCell ?_ (by simp <;> omega) _ | refine Below.alloc ?_ (by simp <;> omega) _ | refine Below.drew ?_ | refine below_drewN ?_ _)))).mono ?_
  rintro e w17 ⟨rfl, hg, ho0, hb⟩
  try simp only [World.size_alloc] at ho0
  have N_w17 := Lib.hid (show Below w16.heap.size w16 w17 from Below.trans (by repeat (first | exact Below.refl _ _ | exact Hid.out (by assumption) | refine below_alloc ?_ _ | refine Below.setCell ?_ (by simp <;> omega) _ | refine Below.alloc ?_ (by simp <;> omega) _ | refine Below.drew ?_ | refine below_drewN ?_ _)) (hb.mono (by simp <;> omega)))
  have B_w17 := Lib.hid (B_w16.out.trans (N_w17.out.mono B_w16.out.size))
  have S_w17 := Lib.hid (show w16.heap.size ≤ w17.heap.size from N_w17.out.size)
  have SW0_0_w17 := Lib.hid (SW0_0_w16.out.below N_w17.out)
  clear SW0_0_w16
  have GW0_0_w17 := Lib.hid (GW0_0_w16.out.below N_w17.out)
  clear GW0_0_w16
  have C0_0_w17 := Lib.hid ho0
  have G_w17 := Lib.hid (show w16.heap.size + 0 < w17.heap.size from by first | omega | (simp at hg; omega))
  clear hb ho0 hg
  go_wp2_with fail
  refine (HT1.out _ (PA1_0.out.below (by repeat (first | exact Below.refl _ _ | exact Hid.out (by assumption) | refine below_alloc ?_ _ | refine Below.setCell ?_ (by simp <;> omega) _ | refine Below.alloc ?_ (by simp <;> omega) _ | refine Below.drew ?_ | refine below_drewN ?_ _)))).mono ?_
  rintro e w18 ⟨rfl, hg, ho0, hb⟩
  try simp only [World.size_alloc] at ho0
  have N_w18 := Lib.hid (show Below w17.heap.size w17 w18 from Below.trans (by repeat (first | exact Below.refl _ _ | exact Hid.out (by assumption) | refine below_alloc ?_ _ | refine Below.setCell ?_ (by simp <;> omega) _ | refine Below.alloc ?_ (by simp <;> omega) _ | refine Below.drew ?_ | refine below_drewN ?_ _)) (hb.mono (by simp <;> omega)))
  have B_w18 := Lib.hid (B_w17.out.trans (N_w18.out.mono B_w17.out.size))
  have S_w18 := Lib.hid (show w17.heap.size ≤ w18.heap.size from N_w18.out.size)
  have SW0_0_w18 := Lib.hid (SW0_0_w17.out.below N_w18.out)
  clear SW0_0_w17
  have GW0_0_w18 := Lib.hid (GW0_0_w17.out.below N_w18.out)
  clear GW0_0_w17
  have C0_0_w18 := Lib.hid (C0_0_w17.out.below N_w18.out)
  clear C0_0_w17
  have C1_0_w18 := Lib.hid ho0
  have G_w18 := Lib.hid (show w17.heap.size + 0 < w18.heap.size from by first | omega | (simp at hg; omega))
  clear hb ho0 hg
  go_wp2_with fail
  refine (HI.out _ _ _ _ _ (C0_0_w18.out.cells.below (by repeat (first | exact Below.refl _ _ | exact Hid.out (by assumption) | refine below_alloc ?_ _ | refine Below.setCell ?_ (by simp <;> omega) _ | refine Below.alloc ?_ (by simp <;> omega) _ | refine Below.drew ?_ | refine below_drewN ?_ _))) (C1_0_w18.out.cells.below (by repeat (first | exact Below.refl _ _ | exact Hid.out (by assumption) | refine below_alloc ?_ _ | refine Below.setCell ?_ (by simp <;> omega) _ | refine Below.alloc ?_ (by simp <;> omega) _ | refine Below.drew ?_ | refine below_drewN ?_ _)))).mono ?_
  rintro e w19 ⟨A0_w19, c0_w19, q00_w19, rfl, hq, hd, ho00, hb⟩
  have hq : w18.heap.size + 0 ≤ q00_w19 ∧ True := ⟨(by have := hq; first | omega | (simp at this; omega)), trivial⟩
  have N_w19 := Lib.hid (show Below w18.heap.size w18 w19 from Below.trans (by repeat (first | exact Below.refl _ _ | exact Hid.out (by assumption) | refine below_alloc ?_ _ | refine Below.setCell ?_ (by simp <;> omega) _ | refine Below.alloc ?_ (by simp <;> omega) _ | refine Below.drew ?_ | refine below_drewN ?_ _)) (hb.mono (by simp <;> omega)))
  have B_w19 := Lib.hid (B_w18.out.trans (N_w19.out.mono B_w18.out.size))
  have S_w19 := Lib.hid (show w18.heap.size ≤ w19.heap.size from N_w19.out.size)
  have SW0_0_w19 := Lib.hid (SW0_0_w18.out.below N_w19.out)
  clear SW0_0_w18
  have GW0_0_w19 := Lib.hid (GW0_0_w18.out.below N_w19.out)
  clear GW0_0_w18
  have C0_0_w19 := Lib.hid (C0_0_w18.out.below N_w19.out)
  clear C0_0_w18
  have C1_0_w19 := Lib.hid (C1_0_w18.out.below N_w19.out)
  clear C1_0_w18
  have HW0_0_w19 := Lib.hid ho00
  have LHW0_0_w19 := Lib.hid (fun q => HW0_0_w19.out.lt q)
  have G_w19 := Lib.hid (hq)
  have D_w19 := Lib.hid (hd)
  clear hq hd ho00
  clear hb
  clear C0_0_w19
  clear C1_0_w19
  go_wp2_with fail
  refine (HR0.out _ _ _ _ _ (HW0_0_w19.out.cells.below (by repeat (first | exact Below.refl _ _ | exact Hid.out (by assumption) | refine below_alloc ?_ _ | refine Below.setCell ?_ (by simp <;> omega) _ | refine Below.alloc ?_ (by simp <;> omega) _ | refine Below.drew ?_ | refine below_drewN ?_ _))) (SW0_0_w19.out.cells.below (by repeat (first | exact Below.refl _ _ | exact Hid.out (by assumption) | refine below_alloc ?_ _ | refine Below.setCell ?_ (by simp <;> omega) _ | refine Below.alloc ?_ (by simp <;> omega) _ | refine Below.drew ?_ | refine below_drewN ?_ _)))).mono ?_
  rintro e w20 ⟨rfl, mq, hwq⟩
  have hb : Below w19.heap.size w19 w20 := by rw [hwq]; exact (by repeat (first | exact Below.refl _ _ | exact Hid.out (by assumption) | refine below_alloc ?_ _ | refine Below.setCell ?_ (by simp <;> omega) _ | refine Below.alloc ?_ (by simp <;> omega) _ | refine Below.drew ?_ | refine below_drewN ?_ _))
  clear hwq
  have N_w20 := Lib.hid (show Below w19.heap.size w19 w20 from Below.trans (by repeat (first | exact Below.refl _ _ | exact Hid.out (by assumption) | refine below_alloc ?_ _ | refine Below.setCell ?_ (by simp <;> omega) _ | refine Below.alloc ?_ (by simp <;> omega) _ | refine Below.drew ?_ | refine below_drewN ?_ _)) (hb.mono (by simp <;> omega)))
  have B_w20 := Lib.hid (B_w19.out.trans (N_w20.out.mono B_w19.out.size))
  have S_w20 := Lib.hid (show w19.heap.size ≤ w20.heap.size from N_w20.out.size)
  have SW0_0_w20 := Lib.hid (SW0_0_w19.out.below N_w20.out)
  clear SW0_0_w19
  have GW0_0_w20 := Lib.hid (GW0_0_w19.out.below N_w20.out)
  clear GW0_0_w19
  have HW0_0_w20 := Lib.hid (HW0_0_w19.out.below N_w20.out)
  clear HW0_0_w19
  clear hb
  go_wp2_with fail
  refine (heldI_any (A0_w6) Rn0 c0_w6 1 _ (by omega) (by omega) (GW0_0_w20.out.cells.below (by repeat (first | exact Below.refl _ _ | exact Hid.out (by assumption) | refine below_alloc ?_ _ | refine Below.setCell ?_ (by simp <;> omega) _ | refine Below.alloc ?_ (by simp <;> omega) _ | refine Below.drew ?_ | refine below_drewN ?_ _)))).mono ?_
  rintro e w21 ⟨rfl, mq, hwq⟩
  have hb : Below w20.heap.size w20 w21 := by rw [hwq]; exact (by repeat (first | exact Below.refl _ _ | exact Hid.out (by assumption) | refine below_alloc ?_ _ | refine Below.setCell ?_ (by simp <;> omega) _ | refine Below.alloc ?_ (by simp <;> omega) _ | refine Below.drew ?_ | refine below_drewN ?_ _))
  clear hwq
  have N_w21 := Lib.hid (show Below w20.heap.size w20 w21 from Below.trans (by repeat (first | exact Below.refl _ _ | exact Hid.out (by assumption) | refine below_alloc ?_ _ | refine Below.setCell ?_ (by simp <;> omega) _ | refine Below.alloc ?_ (by simp <;> omega) _ | refine Below.drew ?_ | refine below_drewN ?_ _)) (hb.mono (by simp <;> omega)))
  have B_w21 := Lib.hid (B_w20.out.trans (N_w21.out.mono B_w20.out.size))
  have S_w21 := Lib.hid (show w20.heap.size ≤ w21.heap.size from N_w21.out.size)
  have SW0_0_w21 := Lib.hid (SW0_0_w20.out.below N_w21.out)
  clear SW0_0_w20
  have GW0_0_w21 := Lib.hid (GW0_0_w20.out.below N_w21.out)
  clear GW0_0_w20
  have HW0_0_w21 := Lib.hid (HW0_0_w20.out.below N_w21.out)
  clear HW0_0_w20
  clear hb
  go_wp2_with fail
  go_ret
  exact ⟨rfl, B_w21.out⟩
end Go.Proofs.Yteekpdpccobkkaa
