/- Change marked: what a function that returns no Change wants. -/
import Derived.Test.YtehemjcpdblonaaChangeM
import Derived.Test.YtehemjcpdblonaaOwn
import Derived.Test.YtehemjcpdblonaaBoxP
import Derived.Test.YtehemjcpdblonaaBoxN
import Derived.Test.YtehemjcpdblonaaBCell
set_option linter.unusedVariables false
namespace Go.Proofs.Ytehemjcpdblonaa
open Go.RowKit
set_option maxHeartbeats 1000000 in
theorem markChange_any (A B C D : Option Addr) (n c m d o q p t g1 g2 g3 g4 : Nat) (U1 U2 U3 U4 : Nat → Value) (k0 : Int) (w : World) (h0 : 0 ≤ k0) (h1 : k0 + n + m + o + p ≤ 4611686018427387904) (hA : OwnC w g1 A n U1) (hB : OwnC w g2 B m U2) (hC : OwnC w g3 C o U3) (hD : OwnC w g4 D p U4) (hd : g1 ≠ g2 ∧ g1 ≠ g3 ∧ g1 ≠ g4 ∧ g2 ≠ g3 ∧ g2 ≠ g4 ∧ g3 ≠ g4) :
    Calls Try.prog 28 #[.agg #[.slice A n c, .slice B m d, .slice C o q, .slice D p t], .int .i64 k0] w fun e w' => e = .returned (.int .i64 (k0 + n + m + o + p)) ∧ OwnC w' g1 A n (fun i => .int .i64 (k0 + i)) ∧ OwnC w' g2 B m (fun i => .int .i64 (k0 + n + i)) ∧ OwnC w' g3 C o (fun i => .int .i64 (k0 + n + m + i)) ∧ OwnC w' g4 D p (fun i => .int .i64 (k0 + n + m + o + i)) ∧
      ∀ lo hi, lo ≤ g1 → lo ≤ g2 → lo ≤ g3 → lo ≤ g4 → (0 < n → g1 < hi) → (0 < m → g2 < hi) → (0 < o → g3 < hi) → (0 < p → g4 < hi) → lo ≤ w.heap.size → Within lo hi w w' := by
  obtain ⟨hd0, hd1, hd2, hd3, hd4, hd5⟩ := hd
  have HA1_0 := Lib.hid hA
  have HA2_0 := Lib.hid hB
  have HA3_0 := Lib.hid hC
  have HA4_0 := Lib.hid hD
  have HI1 := Lib.hid (fun W h => markI_any A n c g1 U1 (k0) W (by omega) (by omega) h)
  have HI2 := Lib.hid (fun W h => markI_any B m d g2 U2 (k0 + n) W (by omega) (by omega) h)
  have HI3 := Lib.hid (fun W h => markI_any C o q g3 U3 (k0 + n + m) W (by omega) (by omega) h)
  have HI4 := Lib.hid (fun W h => markI_any D p t g4 U4 (k0 + n + m + o) W (by omega) (by omega) h)
  clear hA hB hC hD
  go_enter Try.func28, Try.ntmps28
  go_wp2_with fail
  refine (HI1.out _ (HA1_0.out.below (by repeat (first | exact Below.refl _ _ | exact Hid.out (by assumption) | refine below_alloc ?_ _ | refine Below.setCell ?_ (by simp <;> omega) _ | refine Below.alloc ?_ (by simp <;> omega) _ | refine Below.drew ?_ | refine below_drewN ?_ _)))).mono ?_
  rintro e w1 ⟨rfl, ho, hw⟩
  have HO1_1 := Lib.hid ho
  have HA2_1 := Lib.hid (OwnC.within (HA2_0.out.below (w' := w.alloc _) (by repeat (first | exact Below.refl _ _ | exact Hid.out (by assumption) | refine below_alloc ?_ _ | refine Below.setCell ?_ (by simp <;> omega) _ | refine Below.alloc ?_ (by simp <;> omega) _ | refine Below.drew ?_ | refine below_drewN ?_ _))) (hw g1 (g1 + 1) (Nat.le_refl _) (fun _ => Nat.lt_succ_self _)) (fun _ => by omega))
  have HA3_1 := Lib.hid (OwnC.within (HA3_0.out.below (w' := w.alloc _) (by repeat (first | exact Below.refl _ _ | exact Hid.out (by assumption) | refine below_alloc ?_ _ | refine Below.setCell ?_ (by simp <;> omega) _ | refine Below.alloc ?_ (by simp <;> omega) _ | refine Below.drew ?_ | refine below_drewN ?_ _))) (hw g1 (g1 + 1) (Nat.le_refl _) (fun _ => Nat.lt_succ_self _)) (fun _ => by omega))
  have HA4_1 := Lib.hid (OwnC.within (HA4_0.out.below (w' := w.alloc _) (by repeat (first | exact Below.refl _ _ | exact Hid.out (by assumption) | refine below_alloc ?_ _ | refine Below.setCell ?_ (by simp <;> omega) _ | refine Below.alloc ?_ (by simp <;> omega) _ | refine Below.drew ?_ | refine below_drewN ?_ _))) (hw g1 (g1 + 1) (Nat.le_refl _) (fun _ => Nat.lt_succ_self _)) (fun _ => by omega))
  have HW1 := Lib.hid hw
  have hsz := (hw 0 (g1 + 1) (Nat.zero_le _) (fun _ => Nat.lt_succ_self _)).size
  have hs1 : w.heap.size < w1.heap.size := by simp at hsz; omega
  clear hsz
  have hc1 := fun o => mark_far hw (B := w.heap.size) (fun q => by have := HA1_0.out.lt (by omega); omega) w.heap.size o (by first | omega | simp) (Nat.le_refl _)
  clear ho hw
  go_wp2_with fail
  refine (HI2.out _ HA2_1.out).mono ?_
  rintro e w2 ⟨rfl, ho, hw⟩
  have HO2_2 := Lib.hid ho
  have HA3_2 := Lib.hid (OwnC.within (HA3_1.out) (hw g2 (g2 + 1) (Nat.le_refl _) (fun _ => Nat.lt_succ_self _)) (fun _ => by omega))
  have HA4_2 := Lib.hid (OwnC.within (HA4_1.out) (hw g2 (g2 + 1) (Nat.le_refl _) (fun _ => Nat.lt_succ_self _)) (fun _ => by omega))
  have HO1_2 := Lib.hid (OwnC.within HO1_1.out (hw g2 (g2 + 1) (Nat.le_refl _) (fun _ => Nat.lt_succ_self _)) (fun _ => by omega))
  have HW2 := Lib.hid hw
  have hc2 := fun o => mark_far hw (B := w.heap.size) (fun q => by have := HA2_0.out.lt (by omega); omega) w.heap.size o (by first | omega | simp) (Nat.le_refl _)
  have hs2 : w.heap.size < w2.heap.size := Nat.lt_of_lt_of_le hs1 (hw 0 (g2 + 1) (Nat.zero_le _) (fun _ => Nat.lt_succ_self _)).size
  clear ho hw HO1_1
  go_wp2_with fail
  refine (HI3.out _ HA3_2.out).mono ?_
  rintro e w3 ⟨rfl, ho, hw⟩
  have HO3_3 := Lib.hid ho
  have HA4_3 := Lib.hid (OwnC.within (HA4_2.out) (hw g3 (g3 + 1) (Nat.le_refl _) (fun _ => Nat.lt_succ_self _)) (fun _ => by omega))
  have HO1_3 := Lib.hid (OwnC.within HO1_2.out (hw g3 (g3 + 1) (Nat.le_refl _) (fun _ => Nat.lt_succ_self _)) (fun _ => by omega))
  have HO2_3 := Lib.hid (OwnC.within HO2_2.out (hw g3 (g3 + 1) (Nat.le_refl _) (fun _ => Nat.lt_succ_self _)) (fun _ => by omega))
  have HW3 := Lib.hid hw
  have hc3 := fun o => mark_far hw (B := w.heap.size) (fun q => by have := HA3_0.out.lt (by omega); omega) w.heap.size o (by first | omega | simp) (Nat.le_refl _)
  have hs3 : w.heap.size < w3.heap.size := Nat.lt_of_lt_of_le hs2 (hw 0 (g3 + 1) (Nat.zero_le _) (fun _ => Nat.lt_succ_self _)).size
  clear ho hw HO1_2 HO2_2
  go_wp2_with fail
  refine (HI4.out _ HA4_3.out).mono ?_
  rintro e w4 ⟨rfl, ho, hw⟩
  have HO4_4 := Lib.hid ho
  have HO1_4 := Lib.hid (OwnC.within HO1_3.out (hw g4 (g4 + 1) (Nat.le_refl _) (fun _ => Nat.lt_succ_self _)) (fun _ => by omega))
  have HO2_4 := Lib.hid (OwnC.within HO2_3.out (hw g4 (g4 + 1) (Nat.le_refl _) (fun _ => Nat.lt_succ_self _)) (fun _ => by omega))
  have HO3_4 := Lib.hid (OwnC.within HO3_3.out (hw g4 (g4 + 1) (Nat.le_refl _) (fun _ => Nat.lt_succ_self _)) (fun _ => by omega))
  have HW4 := Lib.hid hw
  clear ho hw HO1_3 HO2_3 HO3_3
  go_wp2_with fail
  go_ret
  refine ⟨rfl, HO1_4.out, HO2_4.out, HO3_4.out, HO4_4.out, fun lo hi q0 q1 q2 q3 q4 q5 q6 q7 q8 => ?_⟩
  exact (Within.of_below (Below.alloc (Below.refl _ _) (Nat.le_refl _) _)).trans ((HW1.out lo hi q0 q4).trans ((HW2.out lo hi q1 q5).trans ((HW3.out lo hi q2 q6).trans (HW4.out lo hi q3 q7))))

end Go.Proofs.Ytehemjcpdblonaa
