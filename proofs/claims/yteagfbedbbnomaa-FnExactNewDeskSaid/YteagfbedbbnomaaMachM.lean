/- Machines in memory: measured, copied, compared, marked, held; machines that come in. -/
import Derived.Test.YteagfbedbbnomaaBCell
import Derived.Test.YteagfbedbbnomaaArcM
import Derived.Test.YteagfbedbbnomaaRowk
import Derived.Lib.SmallJoins
import Derived.ChangeArms
import Derived.ChangeSlices
import Derived.Deep.Slices
import Derived.Deep.Fields
import Derived.ChangeSame
set_option linter.unusedVariables false
namespace Go.Proofs.Yteagfbedbbnomaa
open Go.RowKit

theorem szMachine_yes (s l : Int) (A B C : Option Addr) (n c m d o q : Nat) (L : Int) (w : World) (hL : L ≤ 1048576) (h : (n : Int) + m + o ≤ L) :
    Calls Try.prog 17 #[.agg #[.int .i64 s, .int .i64 l, .slice A n c, .slice B m d, .slice C o q], .int .i64 L] w fun e w' => e = .returned (.int .i64 (L - n - m - o)) ∧ Below w.heap.size w w' := by
  have d1 : ¬ L - (n : Int) < 0 := by omega
  have d2 : ¬ L - (n : Int) - m < 0 := by omega
  have d3 : ¬ L - (n : Int) - m - o < 0 := by omega
  go_enter Try.func17, Try.ntmps17
  go_wp2
  go_ret
  exact ⟨rfl, (Below.refl _ _).alloc (Nat.le_refl _) _⟩
theorem szMachine_no (s l : Int) (A B C : Option Addr) (n c m d o q : Nat) (L : Int) (w : World) (hL0 : 0 ≤ L) (hL : L ≤ 1048576) (hn : n ≤ 9223372036854775807) (hm : m ≤ 9223372036854775807) (ho : o ≤ 9223372036854775807) (h : ¬ (n : Int) + m + o ≤ L) :
    Calls Try.prog 17 #[.agg #[.int .i64 s, .int .i64 l, .slice A n c, .slice B m d, .slice C o q], .int .i64 L] w fun e w' => e = .returned (.int .i64 (-1)) ∧ Below w.heap.size w w' := by
  by_cases hb : (n : Int) ≤ L
  · have d1 : ¬ L - (n : Int) < 0 := by omega
    by_cases hc : (n : Int) + m ≤ L
    · have d2 : ¬ L - (n : Int) - m < 0 := by omega
      have d3 : L - (n : Int) - m - o < 0 := by omega
      go_enter Try.func17, Try.ntmps17
      go_wp2
      go_ret
      exact ⟨rfl, (Below.refl _ _).alloc (Nat.le_refl _) _⟩
    · have d2 : L - (n : Int) - m < 0 := by omega
      go_enter Try.func17, Try.ntmps17
      go_wp2
      go_ret
      exact ⟨rfl, (Below.refl _ _).alloc (Nat.le_refl _) _⟩
  · have d1 : L - (n : Int) < 0 := by omega
    go_enter Try.func17, Try.ntmps17
    go_wp2
    go_ret
    exact ⟨rfl, (Below.refl _ _).alloc (Nat.le_refl _) _⟩

theorem rows3_end {w w3 W : World} {hi g1 g2 g3 n m o : Nat} {A B C : Option Addr} {U V T : Nat → Value} (h : Within w.heap.size hi w3 W) (h3 : g3 < w3.heap.size) (q1 : hi ≤ g1) (q2 : hi ≤ g2) (q3 : hi ≤ g3)
    (a1 : OwnC w3 g1 A n U) (a2 : OwnC w3 g2 B m V) (a3 : OwnC w3 g3 C o T) (hb : Below w.heap.size w w3) : g3 < W.heap.size ∧ OwnC W g1 A n U ∧ OwnC W g2 B m V ∧ OwnC W g3 C o T ∧ Below w.heap.size w W :=
  ⟨Nat.lt_of_lt_of_le h3 h.size, a1.within h fun _ => .inr q1, a2.within h fun _ => .inr q2, a3.within h fun _ => .inr q3, hb.trans (h.below (Nat.le_refl _) hb.size)⟩

set_option maxHeartbeats 2000000 in
theorem toMachine_any (s l : Int) (A B C : Option Addr) (n c m d o q : Nat) (f g h : Nat → Int) (w : World) (hn : n ≤ 1048576) (hm : m ≤ 1048576) (ho : o ≤ 1048576) (hA : Cells w A (n * 4) (fun i => .int .i64 (f i))) (hB : Cells w B m (fun i => .int .i64 (g i))) (hC : Cells w C o (fun i => .int .i64 (h i))) :
    Calls Try.prog 22 #[.agg #[.int .i64 s, .int .i64 l, .slice A n c, .slice B m d, .slice C o q]] w fun e w' => ∃ g1 g2 g3, e = .returned (.agg #[.int .i64 s, .int .i64 l, .slice (some ⟨g1, 0, none⟩) n n, .slice (some ⟨g2, 0, none⟩) m m, .slice (some ⟨g3, 0, none⟩) o o]) ∧
      w.heap.size ≤ g1 ∧ g1 < g2 ∧ g2 < g3 ∧ g3 < w'.heap.size ∧ OwnC w' g1 (some ⟨g1, 0, none⟩) (n * 4) (fun i => .int .i64 (f i)) ∧ OwnC w' g2 (some ⟨g2, 0, none⟩) m (fun i => .int .i64 (g i)) ∧ OwnC w' g3 (some ⟨g3, 0, none⟩) o (fun i => .int .i64 (h i)) ∧ Below w.heap.size w w' := by
  have hA := Lib.hid hA
  have hB := Lib.hid hB
  have hC := Lib.hid hC
  have HI := Lib.hid (fun W k => toArcS_any A n c f W hn k)
  have HJ := Lib.hid (fun W k => toI_any B m d g W hm k)
  have HK := Lib.hid (fun W k => toI_any C o q h W ho k)
  go_enter Try.func22, Try.ntmps22
  go_wp2_with fail
  refine (HI.out _ (hA.out.below (by repeat (first | exact Below.refl _ _ | exact Hid.out (by assumption) | refine below_alloc ?_ _ | refine Below.setCell ?_ (by simp <;> omega) _ | refine Below.alloc ?_ (by simp <;> omega) _ | refine Below.drew ?_ | refine below_drewN ?_ _)))).mono ?_
  rintro e w1 ⟨rfl, hs1, ho1, hb1⟩
  have HB1 := Lib.hid (show Below w.heap.size w w1 from Below.trans (by repeat (first | exact Below.refl _ _ | exact Hid.out (by assumption) | refine below_alloc ?_ _ | refine Below.setCell ?_ (by simp <;> omega) _ | refine Below.alloc ?_ (by simp <;> omega) _ | refine Below.drew ?_ | refine below_drewN ?_ _)) (hb1.mono (by simp <;> omega)))
  obtain ⟨hc, hf⟩ := bcell hb1
  simp only [World.size_alloc] at ho1
  have HO1 := Lib.hid ho1
  have hz1 : w.heap.size + 3 < w1.heap.size := by simp at hs1; omega
  clear ho1 hb1 hs1
  go_wp2_with fail
  refine (HJ.out _ (hB.out.below (by repeat (first | exact Below.refl _ _ | exact Hid.out (by assumption) | refine below_alloc ?_ _ | refine Below.setCell ?_ (by simp <;> omega) _ | refine Below.alloc ?_ (by simp <;> omega) _ | refine Below.drew ?_ | refine below_drewN ?_ _)))).mono ?_
  rintro e w2 ⟨rfl, hs2, ho2, hb2⟩
  have HB2 := Lib.hid (show Below w.heap.size w w2 from Below.trans (by repeat (first | exact Below.refl _ _ | exact Hid.out (by assumption) | refine below_alloc ?_ _ | refine Below.setCell ?_ (by simp <;> omega) _ | refine Below.alloc ?_ (by simp <;> omega) _ | refine Below.drew ?_ | refine below_drewN ?_ _)) (hb2.mono (by simp <;> omega)))
  obtain ⟨hc2, hf2⟩ := bcellK hb2 (w.heap.size + 2) (by simp <;> omega)
  simp only [World.size_setCell] at ho2
  have HO2 := Lib.hid ho2
  have HO1b := Lib.hid (OwnC.below (OwnC.within HO1.out (Within.setCell w1 (lo := w.heap.size + 2) (hi := w.heap.size + 3) (by simp <;> omega) (by simp <;> omega) _) (fun _ => .inr (by simp))) hb2)
  have hz2 : w1.heap.size < w2.heap.size := by simp at hs2; omega
  have hz2b : w.heap.size + 3 < w2.heap.size := by omega
  clear ho2 hb2 hs2 HO1
  go_wp2_with fail
  refine (HK.out _ (hC.out.below (by repeat (first | exact Below.refl _ _ | exact Hid.out (by assumption) | refine below_alloc ?_ _ | refine Below.setCell ?_ (by simp <;> omega) _ | refine Below.alloc ?_ (by simp <;> omega) _ | refine Below.drew ?_ | refine below_drewN ?_ _)))).mono ?_
  rintro e w3 ⟨rfl, hs3, ho3, hb3⟩
  have HB3 := Lib.hid (show Below w.heap.size w w3 from Below.trans (by repeat (first | exact Below.refl _ _ | exact Hid.out (by assumption) | refine below_alloc ?_ _ | refine Below.setCell ?_ (by simp <;> omega) _ | refine Below.alloc ?_ (by simp <;> omega) _ | refine Below.drew ?_ | refine below_drewN ?_ _)) (hb3.mono (by simp <;> omega)))
  obtain ⟨hc3, hf3⟩ := bcellK hb3 (w.heap.size + 2) (by simp <;> omega)
  simp only [World.size_setCell] at ho3
  have HO3 := Lib.hid ho3
  have HO1c := Lib.hid (OwnC.below (OwnC.within HO1b.out (Within.setCell w2 (lo := w.heap.size + 2) (hi := w.heap.size + 3) (by simp <;> omega) (by simp <;> omega) _) (fun _ => .inr (by simp))) hb3)
  have HO2c := Lib.hid (OwnC.below (OwnC.within HO2.out (Within.setCell w2 (lo := w.heap.size + 2) (hi := w.heap.size + 3) (by simp <;> omega) (by simp <;> omega) _) (fun _ => .inr (by omega))) hb3)
  have hz3 : w2.heap.size < w3.heap.size := by simp at hs3; omega
  have hz3b : w.heap.size + 3 < w3.heap.size := by omega
  clear ho3 hb3 hs3 HO1b HO2
  go_wp2_with fail
  have hk : ∀ j, j < 5 → ∃ v, w3.cell? ⟨w.heap.size + 1, j, none⟩ = some v := fun j hj => by
    rw [hc3 _ _ (by omega), World.cell?_setCell_other _ _ _ _ (by simp), hc2 _ _ (by omega), World.cell?_setCell_other _ _ _ _ (by simp), hc _ _ (by simp <;> omega)]
    have : j = 0 ∨ j = 1 ∨ j = 2 ∨ j = 3 ∨ j = 4 := by omega
    rcases this with rfl | rfl | rfl | rfl | rfl <;> simp [go_sem]
  obtain ⟨u0, k0⟩ := hk 0 (by omega)
  obtain ⟨u1, k1⟩ := hk 1 (by omega)
  obtain ⟨u2, k2⟩ := hk 2 (by omega)
  obtain ⟨u3, k3⟩ := hk 3 (by omega)
  obtain ⟨u4, k4⟩ := hk 4 (by omega)
  clear hc hf hc2 hf2 hc3 hf3 hk
  refine bodyPost_ret (v := .agg #[.int .i64 s, .int .i64 l, .slice (some ⟨w.heap.size + 1 + 1 + 1, 0, none⟩) n n, .slice (some ⟨w1.heap.size, 0, none⟩) m m, .slice (some ⟨w2.heap.size, 0, none⟩) o o]) ?r1 rfl ?r2
  case r1 => simp [results, Try.results22, go_sem, k0, k1, k2, k3, k4]
  case r2 =>
    have e1 : w.heap.size ≤ w.heap.size + 1 + 1 + 1 := by omega
    have e2 : w.heap.size + 1 + 1 + 1 < w1.heap.size := by omega
    exact ⟨w.heap.size + 1 + 1 + 1, w1.heap.size, w2.heap.size, rfl, e1, e2, hz2, rows3_end (hi := w.heap.size + 3) (by repeat (first | exact Within.refl _ _ _ | refine Within.trans ?_ (Within.setCell _ (by first | (dsimp only; omega) | omega) (by first | (dsimp only; omega) | omega) _))) hz3 (by omega) (by omega) (by omega) HO1c.out HO2c.out HO3.out HB3.out⟩

set_option maxHeartbeats 1000000 in
theorem eqMachine_any (s l : Int) (A B C A2 B2 C2 : Option Addr) (n c m d o q c2 d2 q2 : Nat) (f g h : Nat → Int) (w : World) (hn : n ≤ 4611686018427387904) (hm : m ≤ 4611686018427387904) (ho : o ≤ 4611686018427387904)
    (hA : Cells w A (n * 4) (fun i => .int .i64 (f i))) (hB : Cells w B m (fun i => .int .i64 (g i))) (hC : Cells w C o (fun i => .int .i64 (h i))) (hA2 : Cells w A2 (n * 4) (fun i => .int .i64 (f i))) (hB2 : Cells w B2 m (fun i => .int .i64 (g i))) (hC2 : Cells w C2 o (fun i => .int .i64 (h i))) :
    Calls Try.prog 30 #[.agg #[.int .i64 s, .int .i64 l, .slice A n c, .slice B m d, .slice C o q], .agg #[.int .i64 s, .int .i64 l, .slice A2 n c2, .slice B2 m d2, .slice C2 o q2]] w fun e w' => e = .returned (.bool true) ∧ Below w.heap.size w w' := by
  have hA := Lib.hid hA
  have hB := Lib.hid hB
  have hC := Lib.hid hC
  have hA2 := Lib.hid hA2
  have hB2 := Lib.hid hB2
  have hC2 := Lib.hid hC2
  have HI := Lib.hid (fun W h1 h2 => eqArcS_any A A2 n c c2 f W hn h1 h2)
  have HJ := Lib.hid (fun W h1 h2 => eqI_any B B2 m d d2 g W hm h1 h2)
  have HK := Lib.hid (fun W h1 h2 => eqI_any C C2 o q q2 h W ho h1 h2)
  go_enter Try.func30, Try.ntmps30
  go_wp2_with fail
  refine (HI.out _ (hA.out.below (by repeat (first | exact Below.refl _ _ | exact Hid.out (by assumption) | refine below_alloc ?_ _ | refine Below.setCell ?_ (by simp <;> omega) _ | refine Below.alloc ?_ (by simp <;> omega) _ | refine Below.drew ?_ | refine below_drewN ?_ _))) (hA2.out.below (by repeat (first | exact Below.refl _ _ | exact Hid.out (by assumption) | refine below_alloc ?_ _ | refine Below.setCell ?_ (by simp <;> omega) _ | refine Below.alloc ?_ (by simp <;> omega) _ | refine Below.drew ?_ | refine below_drewN ?_ _)))).mono ?_
  rintro e w1 ⟨rfl, hb⟩
  have N1 := Lib.hid (show Below w.heap.size w w1 from Below.trans (by repeat (first | exact Below.refl _ _ | exact Hid.out (by assumption) | refine below_alloc ?_ _ | refine Below.setCell ?_ (by simp <;> omega) _ | refine Below.alloc ?_ (by simp <;> omega) _ | refine Below.drew ?_ | refine below_drewN ?_ _)) (hb.mono (by simp <;> omega)))
  have X1 := Lib.hid (Box5.below (Box5.alloc (Box5.new w 38 (.int .i64 s) (.int .i64 l) (.slice A n c) (.slice B m d) (.slice C o q)) _) hb)
  have Y1 := Lib.hid (Box5.below (show Box5 _ (w.heap.size + 1) _ _ _ _ _ from by simpa using (Box5.new (w.alloc (.cells #[.int .i64 s, .int .i64 l, .slice A n c, .slice B m d, .slice C o q] 38)) 38 (.int .i64 s) (.int .i64 l) (.slice A2 n c2) (.slice B2 m d2) (.slice C2 o q2))) hb)
  obtain ⟨x0, x1, x2, x3, x4⟩ := X1.out
  obtain ⟨y0, y1, y2, y3, y4⟩ := Y1.out
  clear hb
  go_wp2_with fail
  refine (HJ.out _ (hB.out.below (by repeat (first | exact Below.refl _ _ | exact Hid.out (by assumption) | refine below_alloc ?_ _ | refine Below.setCell ?_ (by simp <;> omega) _ | refine Below.alloc ?_ (by simp <;> omega) _ | refine Below.drew ?_ | refine below_drewN ?_ _))) (hB2.out.below (by repeat (first | exact Below.refl _ _ | exact Hid.out (by assumption) | refine below_alloc ?_ _ | refine Below.setCell ?_ (by simp <;> omega) _ | refine Below.alloc ?_ (by simp <;> omega) _ | refine Below.drew ?_ | refine below_drewN ?_ _)))).mono ?_
  rintro e w2 ⟨rfl, m2, rfl⟩
  go_wp2_with fail
  refine (HK.out _ (hC.out.below (by repeat (first | exact Below.refl _ _ | exact Hid.out (by assumption) | refine below_alloc ?_ _ | refine Below.setCell ?_ (by simp <;> omega) _ | refine Below.alloc ?_ (by simp <;> omega) _ | refine Below.drew ?_ | refine below_drewN ?_ _))) (hC2.out.below (by repeat (first | exact Below.refl _ _ | exact Hid.out (by assumption) | refine below_alloc ?_ _ | refine Below.setCell ?_ (by simp <;> omega) _ | refine Below.alloc ?_ (by simp <;> omega) _ | refine Below.drew ?_ | refine below_drewN ?_ _)))).mono ?_
  rintro e w3 ⟨rfl, m3, rfl⟩
  go_wp2_with fail
  go_ret
  exact ⟨rfl, (by repeat (first | exact Below.refl _ _ | exact Hid.out (by assumption) | refine below_alloc ?_ _ | refine Below.setCell ?_ (by simp <;> omega) _ | refine Below.alloc ?_ (by simp <;> omega) _ | refine Below.drew ?_ | refine below_drewN ?_ _))⟩

set_option maxHeartbeats 1000000 in
theorem markMachine_any (s l : Int) (A B C : Option Addr) (n c m d o q g1 g2 g3 : Nat) (U V T : Nat → Value) (k0 : Int) (w : World) (h0 : 0 ≤ k0) (h1 : k0 + 4 * n + m + o ≤ 4611686018427387904) (hA : OwnC w g1 A (n * 4) U) (hB : OwnC w g2 B m V) (hC : OwnC w g3 C o T) (hd : g1 ≠ g2 ∧ g1 ≠ g3 ∧ g2 ≠ g3) :
    Calls Try.prog 42 #[.agg #[.int .i64 s, .int .i64 l, .slice A n c, .slice B m d, .slice C o q], .int .i64 k0] w fun e w' => e = .returned (.int .i64 (k0 + 4 * n + m + o)) ∧ OwnC w' g1 A (n * 4) (fun i => .int .i64 (k0 + i)) ∧ OwnC w' g2 B m (fun i => .int .i64 (k0 + 4 * n + i)) ∧ OwnC w' g3 C o (fun i => .int .i64 (k0 + 4 * n + m + i)) ∧
      ∀ lo hi, lo ≤ g1 → lo ≤ g2 → lo ≤ g3 → (0 < n → g1 < hi) → (0 < m → g2 < hi) → (0 < o → g3 < hi) → lo ≤ w.heap.size → Within lo hi w w' := by
  obtain ⟨hd1, hd2, hd3⟩ := hd
  have HA := Lib.hid hA
  have HB := Lib.hid hB
  have HC := Lib.hid hC
  have HI := Lib.hid (fun W h => markArcS_any A n c g1 U k0 W h0 (by omega) h)
  have HJ := Lib.hid (fun W h => markI_any B m d g2 V (k0 + 4 * n) W (by omega) (by omega) h)
  have HK := Lib.hid (fun W h => markI_any C o q g3 T (k0 + 4 * n + m) W (by omega) (by omega) h)
  clear hA hB hC
  go_enter Try.func42, Try.ntmps42
  go_wp2_with fail
  refine (HI.out _ (HA.out.below (by repeat (first | exact Below.refl _ _ | exact Hid.out (by assumption) | refine below_alloc ?_ _ | refine Below.setCell ?_ (by simp <;> omega) _ | refine Below.alloc ?_ (by simp <;> omega) _ | refine Below.drew ?_ | refine below_drewN ?_ _)))).mono ?_
  rintro e w1 ⟨rfl, ho1, hw1⟩
  have HO1 := Lib.hid ho1
  have HB1 := Lib.hid (OwnC.within (HB.out.below (w' := w.alloc _) (by repeat (first | exact Below.refl _ _ | exact Hid.out (by assumption) | refine below_alloc ?_ _ | refine Below.setCell ?_ (by simp <;> omega) _ | refine Below.alloc ?_ (by simp <;> omega) _ | refine Below.drew ?_ | refine below_drewN ?_ _))) (hw1 g1 (g1 + 1) (Nat.le_refl _) (fun _ => Nat.lt_succ_self _)) (fun _ => by omega))
  have HC1 := Lib.hid (OwnC.within (HC.out.below (w' := w.alloc _) (by repeat (first | exact Below.refl _ _ | exact Hid.out (by assumption) | refine below_alloc ?_ _ | refine Below.setCell ?_ (by simp <;> omega) _ | refine Below.alloc ?_ (by simp <;> omega) _ | refine Below.drew ?_ | refine below_drewN ?_ _))) (hw1 g1 (g1 + 1) (Nat.le_refl _) (fun _ => Nat.lt_succ_self _)) (fun _ => by omega))
  have HW1 := Lib.hid hw1
  have hsz := (hw1 0 (g1 + 1) (Nat.zero_le _) (fun _ => Nat.lt_succ_self _)).size
  have hc := fun o => mark_far hw1 (B := w.heap.size) (fun q => by have := HA.out.lt (by omega); omega) w.heap.size o (by simp) (Nat.le_refl _)
  have hs1 : w.heap.size < w1.heap.size := by simp at hsz; omega
  clear ho1 hw1 HA hsz
  go_wp2_with fail
  refine (HJ.out _ HB1.out).mono ?_
  rintro e w2 ⟨rfl, ho2, hw2⟩
  have HO1b := Lib.hid (OwnC.within HO1.out (hw2 g2 (g2 + 1) (Nat.le_refl _) (fun _ => Nat.lt_succ_self _)) (fun _ => by omega))
  have HC2 := Lib.hid (OwnC.within HC1.out (hw2 g2 (g2 + 1) (Nat.le_refl _) (fun _ => Nat.lt_succ_self _)) (fun _ => by omega))
  have HO2 := Lib.hid ho2
  have HW2 := Lib.hid hw2
  have hc2 := fun o => mark_far hw2 (B := w.heap.size) (fun q => by have := HB.out.lt q; omega) w.heap.size o (by omega) (Nat.le_refl _)
  clear ho2 hw2 HO1 HC1 HB1
  go_wp2_with fail
  refine (HK.out _ HC2.out).mono ?_
  rintro e w3 ⟨rfl, ho3, hw3⟩
  have HO1c := Lib.hid (OwnC.within HO1b.out (hw3 g3 (g3 + 1) (Nat.le_refl _) (fun _ => Nat.lt_succ_self _)) (fun _ => by omega))
  have HO2c := Lib.hid (OwnC.within HO2.out (hw3 g3 (g3 + 1) (Nat.le_refl _) (fun _ => Nat.lt_succ_self _)) (fun _ => by omega))
  go_wp2_with fail
  go_ret
  refine ⟨rfl, HO1c.out, HO2c.out, ho3, fun lo hi q1 q2 q3 q4 q5 q6 q7 => ?_⟩
  exact (Within.of_below (Below.alloc (Below.refl _ _) (Nat.le_refl _) _)).trans ((HW1.out lo hi q1 q4).trans ((HW2.out lo hi q2 q5).trans (hw3 lo hi q3 q6)))

set_option maxHeartbeats 1000000 in
theorem heldMachine_any (s l : Int) (A B C : Option Addr) (n c m d o q : Nat) (k0 : Int) (w : World) (h0 : 0 ≤ k0) (h1 : k0 + 4 * n + m + o ≤ 4611686018427387904) (hA : Cells w A (n * 4) (fun i => .int .i64 (k0 + i))) (hB : Cells w B m (fun i => .int .i64 (k0 + 4 * n + i))) (hC : Cells w C o (fun i => .int .i64 (k0 + 4 * n + m + i))) :
    Calls Try.prog 46 #[.agg #[.int .i64 s, .int .i64 l, .slice A n c, .slice B m d, .slice C o q], .int .i64 k0] w fun e w' => e = .returned (.int .i64 (k0 + 4 * n + m + o)) ∧ Below w.heap.size w w' := by
  have HA := Lib.hid hA
  have HB := Lib.hid hB
  have HC := Lib.hid hC
  have HI := Lib.hid (fun W h => heldArcS_any A n c k0 W h0 (by omega) h)
  have HJ := Lib.hid (fun W h => heldI_any B m d (k0 + 4 * n) W (by omega) (by omega) h)
  have HK := Lib.hid (fun W h => heldI_any C o q (k0 + 4 * n + m) W (by omega) (by omega) h)
  have d1 : ¬ k0 + 4 * (n : Int) < 0 := by omega
  have d2 : ¬ k0 + 4 * (n : Int) + m < 0 := by omega
  have d3 : ¬ k0 + 4 * (n : Int) + m + o < 0 := by omega
  clear hA hB hC
  go_enter Try.func46, Try.ntmps46
  go_wp2_with fail
  refine (HI.out _ (HA.out.below (by repeat (first | exact Below.refl _ _ | exact Hid.out (by assumption) | refine below_alloc ?_ _ | refine Below.setCell ?_ (by simp <;> omega) _ | refine Below.alloc ?_ (by simp <;> omega) _ | refine Below.drew ?_ | refine below_drewN ?_ _)))).mono ?_
  rintro e w1 ⟨rfl, m1, rfl⟩
  go_wp2_with fail
  refine (HJ.out _ (HB.out.below (by repeat (first | exact Below.refl _ _ | exact Hid.out (by assumption) | refine below_alloc ?_ _ | refine Below.setCell ?_ (by simp <;> omega) _ | refine Below.alloc ?_ (by simp <;> omega) _ | refine Below.drew ?_ | refine below_drewN ?_ _)))).mono ?_
  rintro e w2 ⟨rfl, m2, rfl⟩
  go_wp2_with fail
  refine (HK.out _ (HC.out.below (by repeat (first | exact Below.refl _ _ | exact Hid.out (by assumption) | refine below_alloc ?_ _ | refine Below.setCell ?_ (by simp <;> omega) _ | refine Below.alloc ?_ (by simp <;> omega) _ | refine Below.drew ?_ | refine below_drewN ?_ _)))).mono ?_
  rintro e w3 ⟨rfl, m3, rfl⟩
  go_wp2_with fail
  go_ret
  exact ⟨rfl, (by repeat (first | exact Below.refl _ _ | exact Hid.out (by assumption) | refine below_alloc ?_ _ | refine Below.setCell ?_ (by simp <;> omega) _ | refine Below.alloc ?_ (by simp <;> omega) _ | refine Below.drew ?_ | refine below_drewN ?_ _))⟩
end Go.Proofs.Yteagfbedbbnomaa
