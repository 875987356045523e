/- The law on WholeZone walked. -/
import Derived.Test.YtpelmfanchkpeaaZonH
import Derived.Test.YtpelmfanchkpeaaOpenZone
import Derived.Deep.CutRange
set_option linter.unusedVariables false
namespace Go.Proofs.Ytpelmfanchkpeaa
open Go.RowKit

set_option maxHeartbeats 16000000 in
theorem fnExactWholeZone.walk (x0 : Int) (w : World) (H0 : (Lit.int .i64 x0).wf = true) :
    Calls Try.prog 8 #[.int .i64 x0] w fun e w' => e = .returned (.bool true) ∧ Below w.heap.size w w' := by
  clear H0
  have HS := Lib.hid (fun  W  => specWholeZone_any x0 W )
  have HI := Lib.hid (fun  W  => implWholeZone_any x0 W )
  have RB := Lib.hid (wholeN_le (inB x0 1 4) x0 rfl)
  generalize ifI (inB x0 1 4) x0 = Rs0 at *
  generalize ifN (inB x0 1 4) (wholeN x0) = Rn0 at *
  generalize inB x0 1 4 = Rr1 at *
  generalize wholeF (x0 + 1).toNat = Rf0 at *
  have bR0 : Rn0 ≤ 1048576 := Nat.le_trans RB.out (by omega)
  clear RB
  have HR0 := Lib.hid (fun v0 v1 c0 e0 W y1 y2 => eqZone_any Rs0 v0 v1 Rn0 c0 e0 Rf0 W (by omega) y1 y2)
  go_enter Try.func8, Try.ntmps8
  go_wp2_with fail
  refine (HS.out  _ ).mono ?_
  rintro e w1 ⟨A0_w1, c0_w1, q00_w1, rfl, hq, hd, ho00, hb⟩
  have hq : w.heap.size + 0 ≤ q00_w1 ∧ True := ⟨(by have := hq; first | omega | (simp at this; omega)), trivial⟩
  have N_w1 := Lib.hid (show Below w.heap.size w w1 from Below.trans (by repeat (first | exact Below.refl _ _ | exact Hid.out (by assumption) | refine below_alloc ?_ _ | refine Below.setCell ?_ (by simp <;> omega) _ | refine Below.alloc ?_ (by simp <;> omega) _ | refine Below.drew ?_ | refine below_drewN ?_ _)) (hb.mono (by simp <;> omega)))
  have B_w1 := Lib.hid (show Below w.heap.size w w1 from N_w1.out)
  have S_w1 := Lib.hid (show w.heap.size ≤ w1.heap.size from N_w1.out.size)
  have SW0_0_w1 := Lib.hid ho00
  have LSW0_0_w1 := Lib.hid (fun q => SW0_0_w1.out.lt q)
  have G_w1 := Lib.hid (hq)
  have D_w1 := Lib.hid (hd)
  clear hq hd ho00
  clear hb
  go_wp2_with fail
  refine (HI.out  _ ).mono ?_
  rintro e w2 ⟨A0_w2, c0_w2, q00_w2, rfl, hq, hd, ho00, hb⟩
  have hq : w1.heap.size + 1 ≤ q00_w2 ∧ True := ⟨(by have := hq; first | omega | (simp at this; omega)), trivial⟩
  have N_w2 := Lib.hid (show Below w1.heap.size w1 w2 from Below.trans (by repeat (first | exact Below.refl _ _ | exact Hid.out (by assumption) | refine below_alloc ?_ _ | refine Below.setCell ?_ (by simp <;> omega) _ | refine Below.alloc ?_ (by simp <;> omega) _ | refine Below.drew ?_ | refine below_drewN ?_ _)) (hb.mono (by simp <;> omega)))
  have B_w2 := Lib.hid (B_w1.out.trans (N_w2.out.mono B_w1.out.size))
  have S_w2 := Lib.hid (show w1.heap.size ≤ w2.heap.size from N_w2.out.size)
  have SW0_0_w2 := Lib.hid (SW0_0_w1.out.below N_w2.out)
  clear SW0_0_w1
  have U0_w2 := Lib.hid (Box2.below (Box2.new w1 41 (.int .i64 Rs0) (.slice A0_w1 Rn0 c0_w1)) hb)
  have LU0_w2 := Lib.hid (U0_w2.out.lt)
  obtain ⟨U0a, U0b⟩ := U0_w2.out
  have GW0_0_w2 := Lib.hid ho00
  have LGW0_0_w2 := Lib.hid (fun q => GW0_0_w2.out.lt q)
  have G_w2 := Lib.hid (hq)
  have D_w2 := Lib.hid (hd)
  clear hq hd ho00
  clear hb
  have U0aq := U0_w2.out.a0
  have U0bq := U0_w2.out.a1
  go_wp2_with fail
  refine (HR0.out _ _ _ _ _ (GW0_0_w2.out.cells.below (by repeat (first | exact Below.refl _ _ | exact Hid.out (by assumption) | refine below_alloc ?_ _ | refine Below.setCell ?_ (by simp <;> omega) _ | refine Below.alloc ?_ (by simp <;> omega) _ | refine Below.drew ?_ | refine below_drewN ?_ _))) (SW0_0_w2.out.cells.below (by repeat (first | exact Below.refl _ _ | exact Hid.out (by assumption) | refine below_alloc ?_ _ | refine Below.setCell ?_ (by simp <;> omega) _ | refine Below.alloc ?_ (by simp <;> omega) _ | refine Below.drew ?_ | refine below_drewN ?_ _)))).mono ?_
  rintro e w3 ⟨rfl, hb⟩
  have N_w3 := Lib.hid (show Below w2.heap.size w2 w3 from Below.trans (by repeat (first | exact Below.refl _ _ | exact Hid.out (by assumption) | refine below_alloc ?_ _ | refine Below.setCell ?_ (by simp <;> omega) _ | refine Below.alloc ?_ (by simp <;> omega) _ | refine Below.drew ?_ | refine below_drewN ?_ _)) (hb.mono (by simp <;> omega)))
  have B_w3 := Lib.hid (B_w2.out.trans (N_w3.out.mono B_w2.out.size))
  have S_w3 := Lib.hid (show w2.heap.size ≤ w3.heap.size from N_w3.out.size)
  clear U0a U0b U0aq U0bq
  have SW0_0_w3 := Lib.hid (SW0_0_w2.out.below N_w3.out)
  clear SW0_0_w2
  have U0_w3 := Lib.hid (U0_w2.out.below N_w3.out)
  clear U0_w2
  have GW0_0_w3 := Lib.hid (GW0_0_w2.out.below N_w3.out)
  clear GW0_0_w2
  have V0_w3 := Lib.hid (Box2.below (Box2.new w2 41 (.int .i64 Rs0) (.slice A0_w2 Rn0 c0_w2)) hb)
  have LV0_w3 := Lib.hid (V0_w3.out.lt)
  obtain ⟨U0a, U0b⟩ := U0_w3.out
  obtain ⟨V0a, V0b⟩ := V0_w3.out
  clear hb
  go_wp2_with fail
  refine (markZone_any Rs0 (A0_w2) Rn0 c0_w2 q00_w2 _ 1 _ (by omega) (by omega) (GW0_0_w3.out.below (by repeat (first | exact Below.refl _ _ | exact Hid.out (by assumption) | refine below_alloc ?_ _ | refine Below.setCell ?_ (by simp <;> omega) _ | refine Below.alloc ?_ (by simp <;> omega) _ | refine Below.drew ?_ | refine below_drewN ?_ _))) ).mono ?_
  rintro e w4 ⟨rfl, hm0, hw⟩
  have N_w4 := Lib.hid (show Within (w1.heap.size + 1) (w2.heap.size) w3 w4 from hw _ _ (by have o0 := S_w1.out; have o1 := S_w2.out; have o2 := S_w3.out; have o3 := LSW0_0_w1.out; have o4 := G_w1.out; have o5 := D_w1.out; have o6 := LU0_w2.out; have o7 := LGW0_0_w2.out; have o8 := G_w2.out; have o9 := D_w2.out; have o10 := LV0_w3.out; omega) (fun q => by have o0 := S_w1.out; have o1 := S_w2.out; have o2 := S_w3.out; have o3 := LSW0_0_w1.out; have o4 := G_w1.out; have o5 := D_w1.out; have o6 := LU0_w2.out; have o7 := LGW0_0_w2.out; have o8 := G_w2.out; have o9 := D_w2.out; have o10 := LV0_w3.out; omega))
  clear hw
  have B_w4 := Lib.hid (B_w3.out.trans (Within.below N_w4.out (by have o0 := S_w1.out; have o1 := S_w2.out; have o2 := S_w3.out; have o3 := LSW0_0_w1.out; have o4 := G_w1.out; have o5 := D_w1.out; have o6 := LU0_w2.out; have o7 := LGW0_0_w2.out; have o8 := G_w2.out; have o9 := D_w2.out; have o10 := LV0_w3.out; omega) (by have o0 := S_w1.out; have o1 := S_w2.out; have o2 := S_w3.out; have o3 := LSW0_0_w1.out; have o4 := G_w1.out; have o5 := D_w1.out; have o6 := LU0_w2.out; have o7 := LGW0_0_w2.out; have o8 := G_w2.out; have o9 := D_w2.out; have o10 := LV0_w3.out; omega)))
  have S_w4 := Lib.hid (show w3.heap.size ≤ w4.heap.size from N_w4.out.size)
  clear U0a U0b V0a V0b
  have SW0_0_w4 := Lib.hid (OwnC.within SW0_0_w3.out N_w4.out (fun q => by have o0 := S_w1.out; have o1 := S_w2.out; have o2 := S_w3.out; have o3 := S_w4.out; have o4 := LSW0_0_w1.out; have o5 := G_w1.out; have o6 := D_w1.out; have o7 := LU0_w2.out; have o8 := LGW0_0_w2.out; have o9 := G_w2.out; have o10 := D_w2.out; have o11 := LV0_w3.out; omega))
  clear SW0_0_w3
  have U0_w4 := Lib.hid (U0_w3.out.within N_w4.out (by have o0 := S_w1.out; have o1 := S_w2.out; have o2 := S_w3.out; have o3 := S_w4.out; have o4 := LSW0_0_w1.out; have o5 := G_w1.out; have o6 := D_w1.out; have o7 := LU0_w2.out; have o8 := LGW0_0_w2.out; have o9 := G_w2.out; have o10 := D_w2.out; have o11 := LV0_w3.out; omega))
  clear U0_w3
  clear GW0_0_w3
  have V0_w4 := Lib.hid (V0_w3.out.within N_w4.out (by have o0 := S_w1.out; have o1 := S_w2.out; have o2 := S_w3.out; have o3 := S_w4.out; have o4 := LSW0_0_w1.out; have o5 := G_w1.out; have o6 := D_w1.out; have o7 := LU0_w2.out; have o8 := LGW0_0_w2.out; have o9 := G_w2.out; have o10 := D_w2.out; have o11 := LV0_w3.out; omega))
  clear V0_w3
  have GW0_0_w4 := Lib.hid hm0
  clear hm0
  obtain ⟨U0a, U0b⟩ := U0_w4.out
  obtain ⟨V0a, V0b⟩ := V0_w4.out
  have hk1_0 : ¬ (1 + (Rn0 : Int)) < 0 := by omega
  go_wp2_with fail
  refine (heldZone_any Rs0 (A0_w2) Rn0 c0_w2 1 _ (by omega) (by omega) (GW0_0_w4.out.cells.below (by repeat (first | exact Below.refl _ _ | exact Hid.out (by assumption) | refine below_alloc ?_ _ | refine Below.setCell ?_ (by simp <;> omega) _ | refine Below.alloc ?_ (by simp <;> omega) _ | refine Below.drew ?_ | refine below_drewN ?_ _)))).mono ?_
  rintro e w5 ⟨rfl, hb⟩
  have N_w5 := Lib.hid (show Below w4.heap.size w4 w5 from Below.trans (by repeat (first | exact Below.refl _ _ | exact Hid.out (by assumption) | refine below_alloc ?_ _ | refine Below.setCell ?_ (by simp <;> omega) _ | refine Below.alloc ?_ (by simp <;> omega) _ | refine Below.drew ?_ | refine below_drewN ?_ _)) (hb.mono (by simp <;> omega)))
  have B_w5 := Lib.hid (B_w4.out.trans (N_w5.out.mono B_w4.out.size))
  have S_w5 := Lib.hid (show w4.heap.size ≤ w5.heap.size from N_w5.out.size)
  clear U0a U0b V0a V0b
  have SW0_0_w5 := Lib.hid (SW0_0_w4.out.below N_w5.out)
  clear SW0_0_w4
  have U0_w5 := Lib.hid (U0_w4.out.below N_w5.out)
  clear U0_w4
  have V0_w5 := Lib.hid (V0_w4.out.below N_w5.out)
  clear V0_w4
  have GW0_0_w5 := Lib.hid (GW0_0_w4.out.below N_w5.out)
  clear GW0_0_w4
  obtain ⟨U0a, U0b⟩ := U0_w5.out
  obtain ⟨V0a, V0b⟩ := V0_w5.out
  clear hb
  go_wp2_with fail
  refine (HI.out  _ ).mono ?_
  rintro e w6 ⟨A0_w6, c0_w6, q00_w6, rfl, hq, hd, ho00, hb⟩
  have hq : w5.heap.size + 0 ≤ q00_w6 ∧ True := ⟨(by have := hq; first | omega | (simp at this; omega)), trivial⟩
  have N_w6 := Lib.hid (show Below w5.heap.size w5 w6 from Below.trans (by repeat (first | exact Below.refl _ _ | exact Hid.out (by assumption) | refine below_alloc ?_ _ | refine Below.setCell ?_ (by simp <;> omega) _ | refine Below.alloc ?_ (by simp <;> omega) _ | refine Below.drew ?_ | refine below_drewN ?_ _)) (hb.mono (by simp <;> omega)))
  have B_w6 := Lib.hid (B_w5.out.trans (N_w6.out.mono B_w5.out.size))
  have S_w6 := Lib.hid (show w5.heap.size ≤ w6.heap.size from N_w6.out.size)
  clear U0a U0b V0a V0b
  have SW0_0_w6 := Lib.hid (SW0_0_w5.out.below N_w6.out)
  clear SW0_0_w5
  have U0_w6 := Lib.hid (U0_w5.out.below N_w6.out)
  clear U0_w5
  have V0_w6 := Lib.hid (V0_w5.out.below N_w6.out)
  clear V0_w5
  have GW0_0_w6 := Lib.hid (GW0_0_w5.out.below N_w6.out)
  clear GW0_0_w5
  obtain ⟨U0a, U0b⟩ := U0_w6.out
  obtain ⟨V0a, V0b⟩ := V0_w6.out
  have HW0_0_w6 := Lib.hid ho00
  have LHW0_0_w6 := Lib.hid (fun q => HW0_0_w6.out.lt q)
  have G_w6 := Lib.hid (hq)
  have D_w6 := Lib.hid (hd)
  clear hq hd ho00
  clear hb
  have U0aq := U0_w6.out.a0
  have U0bq := U0_w6.out.a1
  have V0aq := V0_w6.out.a0
  have V0bq := V0_w6.out.a1
  go_wp2_with fail
  refine (HR0.out _ _ _ _ _ (HW0_0_w6.out.cells.below (by repeat (first | exact Below.refl _ _ | exact Hid.out (by assumption) | refine below_alloc ?_ _ | refine Below.setCell ?_ (by simp <;> omega) _ | refine Below.alloc ?_ (by simp <;> omega) _ | refine Below.drew ?_ | refine below_drewN ?_ _))) (SW0_0_w6.out.cells.below (by repeat (first | exact Below.refl _ _ | exact Hid.out (by assumption) | refine below_alloc ?_ _ | refine Below.setCell ?_ (by simp <;> omega) _ | refine Below.alloc ?_ (by simp <;> omega) _ | refine Below.drew ?_ | refine below_drewN ?_ _)))).mono ?_
  rintro e w7 ⟨rfl, hb⟩
  have N_w7 := Lib.hid (show Below w6.heap.size w6 w7 from Below.trans (by repeat (first | exact Below.refl _ _ | exact Hid.out (by assumption) | refine below_alloc ?_ _ | refine Below.setCell ?_ (by simp <;> omega) _ | refine Below.alloc ?_ (by simp <;> omega) _ | refine Below.drew ?_ | refine below_drewN ?_ _)) (hb.mono (by simp <;> omega)))
  have B_w7 := Lib.hid (B_w6.out.trans (N_w7.out.mono B_w6.out.size))
  have S_w7 := Lib.hid (show w6.heap.size ≤ w7.heap.size from N_w7.out.size)
  clear U0a U0b U0aq U0bq V0a V0b V0aq V0bq
  have SW0_0_w7 := Lib.hid (SW0_0_w6.out.below N_w7.out)
  clear SW0_0_w6
  have U0_w7 := Lib.hid (U0_w6.out.below N_w7.out)
  clear U0_w6
  have V0_w7 := Lib.hid (V0_w6.out.below N_w7.out)
  clear V0_w6
  have GW0_0_w7 := Lib.hid (GW0_0_w6.out.below N_w7.out)
  clear GW0_0_w6
  have HW0_0_w7 := Lib.hid (HW0_0_w6.out.below N_w7.out)
  clear HW0_0_w6
  have T0_w7 := Lib.hid (Box2.below (Box2.new w6 41 (.int .i64 Rs0) (.slice A0_w6 Rn0 c0_w6)) hb)
  have LT0_w7 := Lib.hid (T0_w7.out.lt)
  obtain ⟨U0a, U0b⟩ := U0_w7.out
  obtain ⟨V0a, V0b⟩ := V0_w7.out
  obtain ⟨T0a, T0b⟩ := T0_w7.out
  clear hb
  go_wp2_with fail
  refine (heldZone_any Rs0 (A0_w2) Rn0 c0_w2 1 _ (by omega) (by omega) (GW0_0_w7.out.cells.below (by repeat (first | exact Below.refl _ _ | exact Hid.out (by assumption) | refine below_alloc ?_ _ | refine Below.setCell ?_ (by simp <;> omega) _ | refine Below.alloc ?_ (by simp <;> omega) _ | refine Below.drew ?_ | refine below_drewN ?_ _)))).mono ?_
  rintro e w8 ⟨rfl, hb⟩
  have N_w8 := Lib.hid (show Below w7.heap.size w7 w8 from Below.trans (by repeat (first | exact Below.refl _ _ | exact Hid.out (by assumption) | refine below_alloc ?_ _ | refine Below.setCell ?_ (by simp <;> omega) _ | refine Below.alloc ?_ (by simp <;> omega) _ | refine Below.drew ?_ | refine below_drewN ?_ _)) (hb.mono (by simp <;> omega)))
  have B_w8 := Lib.hid (B_w7.out.trans (N_w8.out.mono B_w7.out.size))
  have S_w8 := Lib.hid (show w7.heap.size ≤ w8.heap.size from N_w8.out.size)
  clear U0a U0b V0a V0b T0a T0b
  have SW0_0_w8 := Lib.hid (SW0_0_w7.out.below N_w8.out)
  clear SW0_0_w7
  have U0_w8 := Lib.hid (U0_w7.out.below N_w8.out)
  clear U0_w7
  have V0_w8 := Lib.hid (V0_w7.out.below N_w8.out)
  clear V0_w7
  have GW0_0_w8 := Lib.hid (GW0_0_w7.out.below N_w8.out)
  clear GW0_0_w7
  have HW0_0_w8 := Lib.hid (HW0_0_w7.out.below N_w8.out)
  clear HW0_0_w7
  have T0_w8 := Lib.hid (T0_w7.out.below N_w8.out)
  clear T0_w7
  obtain ⟨U0a, U0b⟩ := U0_w8.out
  obtain ⟨V0a, V0b⟩ := V0_w8.out
  obtain ⟨T0a, T0b⟩ := T0_w8.out
  clear hb
  go_wp2_with fail
  go_ret
  exact ⟨rfl, B_w8.out⟩
end Go.Proofs.Ytpelmfanchkpeaa
