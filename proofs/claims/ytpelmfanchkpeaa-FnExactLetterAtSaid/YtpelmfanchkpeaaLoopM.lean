/- Loop in memory: measured, copied, compared, marked, held. -/
import Derived.Test.YtpelmfanchkpeaaOwn
import Derived.Test.YtpelmfanchkpeaaBoxP
import Derived.Test.YtpelmfanchkpeaaBoxN
import Derived.Test.YtpelmfanchkpeaaBCell
set_option linter.unusedVariables false
namespace Go.Proofs.Ytpelmfanchkpeaa
open Go.RowKit

theorem szLoop_yes (A B : Option Addr) (n c m d : Nat) (L : Int) (w : World) (hL : L ≤ 1048576) (h : (n : Int) + m ≤ L) :
    Calls Try.prog 15 #[.agg #[.slice A n c, .slice B m d], .int .i64 L] w fun e w' => e = .returned (.int .i64 (L - n - m)) ∧ Below w.heap.size w w' := by
  have d1 : ¬ L - (n : Int) < 0 := by omega
  have d2 : ¬ L - (n : Int) - m < 0 := by omega
  go_enter Try.func15, Try.ntmps15
  go_wp2
  go_ret
  exact ⟨rfl, (Below.refl _ _).alloc (Nat.le_refl _) _⟩
theorem szLoop_no (A B : Option Addr) (n c m d : Nat) (L : Int) (w : World) (hL0 : 0 ≤ L) (hL : L ≤ 1048576) (hn : n ≤ 9223372036854775807) (hm : m ≤ 9223372036854775807) (h : ¬ (n : Int) + m ≤ L) :
    Calls Try.prog 15 #[.agg #[.slice A n c, .slice B m d], .int .i64 L] w fun e w' => e = .returned (.int .i64 (-1)) ∧ Below w.heap.size w w' := by
  by_cases b1 : (n : Int) ≤ L
  rotate_left
  · have d1 : L - (n : Int) < 0 := by omega
    go_enter Try.func15, Try.ntmps15
    go_wp2
    go_ret
    exact ⟨rfl, (Below.refl _ _).alloc (Nat.le_refl _) _⟩
  have d1 : ¬ L - (n : Int) < 0 := by omega
  have d2 : L - (n : Int) - m < 0 := by omega
  go_enter Try.func15, Try.ntmps15
  go_wp2
  go_ret
  exact ⟨rfl, (Below.refl _ _).alloc (Nat.le_refl _) _⟩

set_option maxHeartbeats 8000000 in
theorem toLoop_any (A B : Option Addr) (n c m d : Nat) (f : Nat → Int) (g : Nat → Int) (w : World) (hn : n ≤ 1048576) (hm : m ≤ 1048576) (hA : Cells w A n (fun i => .int .i64 (f i))) (hB : Cells w B m (fun i => .int .i64 (g i))) :
    Calls Try.prog 17 #[.agg #[.slice A n c, .slice B m d]] w fun e w' => ∃ g1 g2, e = .returned (.agg #[.slice (some ⟨g1, 0, none⟩) n n, .slice (some ⟨g2, 0, none⟩) m m]) ∧
      w.heap.size ≤ g1 ∧ g1 < g2 ∧ g2 < w'.heap.size ∧ OwnC w' g1 (some ⟨g1, 0, none⟩) n (fun i => .int .i64 (f i)) ∧ OwnC w' g2 (some ⟨g2, 0, none⟩) m (fun i => .int .i64 (g i)) ∧ Below w.heap.size w w' := by
  have hA := Lib.hid hA
  have hB := Lib.hid hB
  have HI1 := Lib.hid (fun W k => toI_any A n c f W hn k)
  have HI2 := Lib.hid (fun W k => toI_any B m d g W hm k)
  go_enter Try.func17, Try.ntmps17
  go_wp2_with fail
  refine (HI1.out _ (hA.out.below (by repeat (first | with_reducible exact Below.refl _ _ | exact Hid.out (by with_reducible assumption) | refine Below.setCell ?_ (by simp <;> omega) _ | refine below_alloc ?_ _ | refine Below.alloc ?_ (by simp <;> omega) _ | refine Below.drew ?_ | refine below_drewN ?_ _)))).mono ?_
  rintro e w1 ⟨rfl, hs1, ho1, hb1⟩
  have HB1 := Lib.hid (show Below w.heap.size w w1 from Below.trans (by repeat (first | with_reducible exact Below.refl _ _ | exact Hid.out (by with_reducible assumption) | refine Below.setCell ?_ (by simp <;> omega) _ | refine below_alloc ?_ _ | refine Below.alloc ?_ (by simp <;> omega) _ | refine Below.drew ?_ | refine below_drewN ?_ _)) (hb1.mono (by simp <;> omega)))
  obtain ⟨hc1, hf1⟩ := bcell hb1
  simp only [World.size_alloc] at ho1
  have hz1 : w.heap.size + 3 < w1.heap.size := by simp at hs1; omega
  have HO1_1 := Lib.hid ho1
  clear ho1 hb1 hs1
  go_wp2_with fail
  refine (HI2.out _ (hB.out.below (by repeat (first | with_reducible exact Below.refl _ _ | exact Hid.out (by with_reducible assumption) | refine Below.setCell ?_ (by simp <;> omega) _ | refine below_alloc ?_ _ | refine Below.alloc ?_ (by simp <;> omega) _ | refine Below.drew ?_ | refine below_drewN ?_ _)))).mono ?_
  rintro e w2 ⟨rfl, hs2, ho2, hb2⟩
  have HB2 := Lib.hid (show Below w.heap.size w w2 from Below.trans (by repeat (first | with_reducible exact Below.refl _ _ | exact Hid.out (by with_reducible assumption) | refine Below.setCell ?_ (by simp <;> omega) _ | refine below_alloc ?_ _ | refine Below.alloc ?_ (by simp <;> omega) _ | refine Below.drew ?_ | refine below_drewN ?_ _)) (hb2.mono (by simp <;> omega)))
  obtain ⟨hc2, hf2⟩ := bcellK hb2 (w.heap.size + 2) (by simp <;> omega)
  simp only [World.size_setCell] at ho2
  have hz2 : w1.heap.size < w2.heap.size := by simp at hs2; omega
  have hy2 : w.heap.size + 3 < w2.heap.size := by omega
  have HO2_2 := Lib.hid ho2
  have HO1_2 := Lib.hid (OwnC.below (OwnC.within HO1_1.out (Within.setCell w1 (lo := w.heap.size + 2) (hi := w.heap.size + 3) (by simp <;> omega) (by simp <;> omega) _) (fun _ => .inr (by first | omega | simp))) hb2)
  clear ho2 hb2 hs2 HO1_1
  go_wp2_with fail
  have hk : ∀ j, j < 2 → ∃ v, w2.cell? ⟨w.heap.size + 1, j, none⟩ = some v := fun j hj => by
    rw [hc2 _ _ (by omega), World.cell?_setCell_other _ _ _ _ (by simp), hc1 _ _ (by simp <;> omega)]
    have : j = 0 ∨ j = 1 := by omega
    rcases this with rfl | rfl <;> simp [go_sem]
  obtain ⟨u0, k0⟩ := hk 0 (by omega)
  obtain ⟨u1, k1⟩ := hk 1 (by omega)
  clear hk hc1 hf1 hc2 hf2
  refine bodyPost_ret (v := .agg #[.slice (some ⟨w.heap.size + 1 + 1 + 1, 0, none⟩) n n, .slice (some ⟨w1.heap.size, 0, none⟩) m m]) ?r1 rfl ?r2
  case r1 => simp [results, Try.results17, go_sem, k0, k1]
  case r2 =>
    refine ⟨w.heap.size + 1 + 1 + 1, w1.heap.size, rfl, by omega, by omega, by simp <;> omega, ?_, ?_, ?_⟩
    · refine OwnC.within (lo := w.heap.size) (hi := w.heap.size + 3) HO1_2.out ?_ (fun _ => .inr (by omega))
      exact (by repeat (first | with_reducible exact Within.refl _ _ _ | refine Within.trans ?_ (Within.setCell _ (by first | (dsimp only; omega) | omega) (by first | (dsimp only; omega) | omega) _)))
    · refine OwnC.within (lo := w.heap.size) (hi := w.heap.size + 3) HO2_2.out ?_ (fun _ => .inr (by omega))
      exact (by repeat (first | with_reducible exact Within.refl _ _ _ | refine Within.trans ?_ (Within.setCell _ (by first | (dsimp only; omega) | omega) (by first | (dsimp only; omega) | omega) _)))
    · exact (by repeat (first | with_reducible exact Below.refl _ _ | exact Hid.out (by with_reducible assumption) | refine Below.setCell ?_ (by simp <;> omega) _ | refine below_alloc ?_ _ | refine Below.alloc ?_ (by simp <;> omega) _ | refine Below.drew ?_ | refine below_drewN ?_ _))

set_option maxHeartbeats 1000000 in
theorem eqLoop_any (A B A2 B2 : Option Addr) (n c m d c2 d2 : Nat) (f : Nat → Int) (g : Nat → Int) (w : World) (hn : n ≤ 4611686018427387904) (hm : m ≤ 4611686018427387904)
    (hA : Cells w A n (fun i => .int .i64 (f i))) (hB : Cells w B m (fun i => .int .i64 (g i))) (hA2 : Cells w A2 n (fun i => .int .i64 (f i))) (hB2 : Cells w B2 m (fun i => .int .i64 (g i))) :
    Calls Try.prog 19 #[.agg #[.slice A n c, .slice B m d], .agg #[.slice A2 n c2, .slice B2 m d2]] w fun e w' => e = .returned (.bool true) ∧ Below w.heap.size w w' := by
  have hA := Lib.hid hA
  have hA2 := Lib.hid hA2
  have hB := Lib.hid hB
  have hB2 := Lib.hid hB2
  have HI1 := Lib.hid (fun W h1 h2 => eqI_any A A2 n c c2 f W hn h1 h2)
  have HI2 := Lib.hid (fun W h1 h2 => eqI_any B B2 m d d2 g W hm h1 h2)
  go_enter Try.func19, Try.ntmps19
  go_wp2_with fail
  refine (HI1.out _ (hA.out.below (by repeat (first | with_reducible exact Below.refl _ _ | exact Hid.out (by with_reducible assumption) | refine Below.setCell ?_ (by simp <;> omega) _ | refine below_alloc ?_ _ | refine Below.alloc ?_ (by simp <;> omega) _ | refine Below.drew ?_ | refine below_drewN ?_ _))) (hA2.out.below (by repeat (first | with_reducible exact Below.refl _ _ | exact Hid.out (by with_reducible assumption) | refine Below.setCell ?_ (by simp <;> omega) _ | refine below_alloc ?_ _ | refine Below.alloc ?_ (by simp <;> omega) _ | refine Below.drew ?_ | refine below_drewN ?_ _)))).mono ?_
  rintro e w1 ⟨rfl, m1, rfl⟩
  go_wp2_with fail
  refine (HI2.out _ (hB.out.below (by repeat (first | with_reducible exact Below.refl _ _ | exact Hid.out (by with_reducible assumption) | refine Below.setCell ?_ (by simp <;> omega) _ | refine below_alloc ?_ _ | refine Below.alloc ?_ (by simp <;> omega) _ | refine Below.drew ?_ | refine below_drewN ?_ _))) (hB2.out.below (by repeat (first | with_reducible exact Below.refl _ _ | exact Hid.out (by with_reducible assumption) | refine Below.setCell ?_ (by simp <;> omega) _ | refine below_alloc ?_ _ | refine Below.alloc ?_ (by simp <;> omega) _ | refine Below.drew ?_ | refine below_drewN ?_ _)))).mono ?_
  rintro e w2 ⟨rfl, m2, rfl⟩
  go_wp2_with fail
  go_ret
  exact ⟨rfl, (by repeat (first | with_reducible exact Below.refl _ _ | exact Hid.out (by with_reducible assumption) | refine Below.setCell ?_ (by simp <;> omega) _ | refine below_alloc ?_ _ | refine Below.alloc ?_ (by simp <;> omega) _ | refine Below.drew ?_ | refine below_drewN ?_ _))⟩

set_option maxHeartbeats 1000000 in
theorem markLoop_any (A B : Option Addr) (n c m d g1 g2 : Nat) (U1 U2 : Nat → Value) (k0 : Int) (w : World) (h0 : 0 ≤ k0) (h1 : k0 + n + m ≤ 4611686018427387904) (hA : OwnC w g1 A n U1) (hB : OwnC w g2 B m U2) (hd : g1 ≠ g2) :
    Calls Try.prog 22 #[.agg #[.slice A n c, .slice B m d], .int .i64 k0] w fun e w' => e = .returned (.int .i64 (k0 + n + m)) ∧ OwnC w' g1 A n (fun i => .int .i64 (k0 + i)) ∧ OwnC w' g2 B m (fun i => .int .i64 (k0 + n + i)) ∧
      ∀ lo hi, lo ≤ g1 → lo ≤ g2 → (0 < n → g1 < hi) → (0 < m → g2 < hi) → lo ≤ w.heap.size → Within lo hi w w' := by
  have HA1_0 := Lib.hid hA
  have HA2_0 := Lib.hid hB
  have HI1 := Lib.hid (fun W h => markI_any A n c g1 U1 (k0) W (by omega) (by omega) h)
  have HI2 := Lib.hid (fun W h => markI_any B m d g2 U2 (k0 + n) W (by omega) (by omega) h)
  clear hA hB
  go_enter Try.func22, Try.ntmps22
  go_wp2_with fail
  refine (HI1.out _ (HA1_0.out.below (by repeat (first | with_reducible exact Below.refl _ _ | exact Hid.out (by with_reducible assumption) | refine Below.setCell ?_ (by simp <;> omega) _ | refine below_alloc ?_ _ | refine Below.alloc ?_ (by simp <;> omega) _ | refine Below.drew ?_ | refine below_drewN ?_ _)))).mono ?_
  rintro e w1 ⟨rfl, ho, hw⟩
  have HO1_1 := Lib.hid ho
  have HA2_1 := Lib.hid (OwnC.within (HA2_0.out.below (w' := w.alloc _) (by repeat (first | with_reducible exact Below.refl _ _ | exact Hid.out (by with_reducible assumption) | refine Below.setCell ?_ (by simp <;> omega) _ | refine below_alloc ?_ _ | refine Below.alloc ?_ (by simp <;> omega) _ | refine Below.drew ?_ | refine below_drewN ?_ _))) (hw g1 (g1 + 1) (Nat.le_refl _) (fun _ => Nat.lt_succ_self _)) (fun _ => by omega))
  have HW1 := Lib.hid hw
  have hsz := (hw 0 (g1 + 1) (Nat.zero_le _) (fun _ => Nat.lt_succ_self _)).size
  have hs1 : w.heap.size < w1.heap.size := by simp at hsz; omega
  clear hsz
  have hc1 := fun o => mark_far hw (B := w.heap.size) (fun q => by have := HA1_0.out.lt (by omega); omega) w.heap.size o (by first | omega | simp) (Nat.le_refl _)
  clear ho hw
  go_wp2_with fail
  refine (HI2.out _ HA2_1.out).mono ?_
  rintro e w2 ⟨rfl, ho, hw⟩
  have HO2_2 := Lib.hid ho
  have HO1_2 := Lib.hid (OwnC.within HO1_1.out (hw g2 (g2 + 1) (Nat.le_refl _) (fun _ => Nat.lt_succ_self _)) (fun _ => by omega))
  have HW2 := Lib.hid hw
  clear ho hw HO1_1
  go_wp2_with fail
  go_ret
  refine ⟨rfl, HO1_2.out, HO2_2.out, fun lo hi q0 q1 q2 q3 q4 => ?_⟩
  exact (Within.of_below (Below.alloc (Below.refl _ _) (Nat.le_refl _) _)).trans ((HW1.out lo hi q0 q2).trans (HW2.out lo hi q1 q3))

set_option maxHeartbeats 1000000 in
theorem heldLoop_any (A B : Option Addr) (n c m d : Nat) (k0 : Int) (w : World) (h0 : 0 ≤ k0) (h1 : k0 + n + m ≤ 4611686018427387904) (hA : Cells w A n (fun i => .int .i64 (k0 + i))) (hB : Cells w B m (fun i => .int .i64 (k0 + n + i))) :
    Calls Try.prog 23 #[.agg #[.slice A n c, .slice B m d], .int .i64 k0] w fun e w' => e = .returned (.int .i64 (k0 + n + m)) ∧ Below w.heap.size w w' := by
  have HA1 := Lib.hid hA
  have HA2 := Lib.hid hB
  have HI1 := Lib.hid (fun W h => heldI_any A n c (k0) W (by omega) (by omega) h)
  have HI2 := Lib.hid (fun W h => heldI_any B m d (k0 + n) W (by omega) (by omega) h)
  have d1 : ¬ k0 + (n : Int) < 0 := by omega
  have d2 : ¬ k0 + (n : Int) + (m : Int) < 0 := by omega
  clear hA hB
  go_enter Try.func23, Try.ntmps23
  go_wp2_with fail
  refine (HI1.out _ (HA1.out.below (by repeat (first | with_reducible exact Below.refl _ _ | exact Hid.out (by with_reducible assumption) | refine Below.setCell ?_ (by simp <;> omega) _ | refine below_alloc ?_ _ | refine Below.alloc ?_ (by simp <;> omega) _ | refine Below.drew ?_ | refine below_drewN ?_ _)))).mono ?_
  rintro e w1 ⟨rfl, m1, rfl⟩
  go_wp2_with fail
  refine (HI2.out _ (HA2.out.below (by repeat (first | with_reducible exact Below.refl _ _ | exact Hid.out (by with_reducible assumption) | refine Below.setCell ?_ (by simp <;> omega) _ | refine below_alloc ?_ _ | refine Below.alloc ?_ (by simp <;> omega) _ | refine Below.drew ?_ | refine below_drewN ?_ _)))).mono ?_
  rintro e w2 ⟨rfl, m2, rfl⟩
  go_wp2_with fail
  go_ret
  exact ⟨rfl, (by repeat (first | with_reducible exact Below.refl _ _ | exact Hid.out (by with_reducible assumption) | refine Below.setCell ?_ (by simp <;> omega) _ | refine below_alloc ?_ _ | refine Below.alloc ?_ (by simp <;> omega) _ | refine Below.drew ?_ | refine below_drewN ?_ _))⟩
end Go.Proofs.Ytpelmfanchkpeaa
