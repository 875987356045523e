/- Change in memory: measured, copied, compared, marked, held. -/
import Derived.Test.YtehemjcpdblonaaOwn
import Derived.Test.YtehemjcpdblonaaBoxP
import Derived.Test.YtehemjcpdblonaaBoxN
import Derived.Test.YtehemjcpdblonaaBCell
set_option linter.unusedVariables false
namespace Go.Proofs.Ytehemjcpdblonaa
open Go.RowKit

theorem szChange_yes (A B C D : Option Addr) (n c m d o q p t : Nat) (L : Int) (w : World) (hL : L ≤ 1048576) (h : (n : Int) + m + o + p ≤ L) :
    Calls Try.prog 19 #[.agg #[.slice A n c, .slice B m d, .slice C o q, .slice D p t], .int .i64 L] w fun e w' => e = .returned (.int .i64 (L - n - m - o - p)) ∧ Below w.heap.size w w' := by
  have d1 : ¬ L - (n : Int) < 0 := by omega
  have d2 : ¬ L - (n : Int) - m < 0 := by omega
  have d3 : ¬ L - (n : Int) - m - o < 0 := by omega
  have d4 : ¬ L - (n : Int) - m - o - p < 0 := by omega
  go_enter Try.func19, Try.ntmps19
  go_wp2
  go_ret
  exact ⟨rfl, (Below.refl _ _).alloc (Nat.le_refl _) _⟩
theorem szChange_no (A B C D : Option Addr) (n c m d o q p t : Nat) (L : Int) (w : World) (hL0 : 0 ≤ L) (hL : L ≤ 1048576) (hn : n ≤ 9223372036854775807) (hm : m ≤ 9223372036854775807) (ho : o ≤ 9223372036854775807) (hp : p ≤ 9223372036854775807) (h : ¬ (n : Int) + m + o + p ≤ L) :
    Calls Try.prog 19 #[.agg #[.slice A n c, .slice B m d, .slice C o q, .slice D p t], .int .i64 L] w fun e w' => e = .returned (.int .i64 (-1)) ∧ Below w.heap.size w w' := by
  by_cases b1 : (n : Int) ≤ L
  rotate_left
  · have d1 : L - (n : Int) < 0 := by omega
    go_enter Try.func19, Try.ntmps19
    go_wp2
    go_ret
    exact ⟨rfl, (Below.refl _ _).alloc (Nat.le_refl _) _⟩
  have d1 : ¬ L - (n : Int) < 0 := by omega
  by_cases b2 : (n : Int) + m ≤ L
  rotate_left
  · have d2 : L - (n : Int) - m < 0 := by omega
    go_enter Try.func19, Try.ntmps19
    go_wp2
    go_ret
    exact ⟨rfl, (Below.refl _ _).alloc (Nat.le_refl _) _⟩
  have d2 : ¬ L - (n : Int) - m < 0 := by omega
  by_cases b3 : (n : Int) + m + o ≤ L
  rotate_left
  · have d3 : L - (n : Int) - m - o < 0 := by omega
    go_enter Try.func19, Try.ntmps19
    go_wp2
    go_ret
    exact ⟨rfl, (Below.refl _ _).alloc (Nat.le_refl _) _⟩
  have d3 : ¬ L - (n : Int) - m - o < 0 := by omega
  have d4 : L - (n : Int) - m - o - p < 0 := by omega
  go_enter Try.func19, Try.ntmps19
  go_wp2
  go_ret
  exact ⟨rfl, (Below.refl _ _).alloc (Nat.le_refl _) _⟩

set_option maxHeartbeats 2000000 in
theorem toChange_any (A B C D : Option Addr) (n c m d o q p t : Nat) (f : Nat → Int) (g : Nat → Int) (h : Nat → Int) (u : Nat → Int) (w : World) (hn : n ≤ 1048576) (hm : m ≤ 1048576) (ho : o ≤ 1048576) (hp : p ≤ 1048576) (hA : Cells w A n (fun i => .int .i64 (f i))) (hB : Cells w B m (fun i => .int .i64 (g i))) (hC : Cells w C o (fun i => .int .i64 (h i))) (hD : Cells w D p (fun i => .int .i64 (u i))) :
    Calls Try.prog 21 #[.agg #[.slice A n c, .slice B m d, .slice C o q, .slice D p t]] w fun e w' => ∃ g1 g2 g3 g4, e = .returned (.agg #[.slice (some ⟨g1, 0, none⟩) n n, .slice (some ⟨g2, 0, none⟩) m m, .slice (some ⟨g3, 0, none⟩) o o, .slice (some ⟨g4, 0, none⟩) p p]) ∧
      w.heap.size ≤ g1 ∧ g1 < g2 ∧ g2 < g3 ∧ g3 < g4 ∧ g4 < w'.heap.size ∧ OwnC w' g1 (some ⟨g1, 0, none⟩) n (fun i => .int .i64 (f i)) ∧ OwnC w' g2 (some ⟨g2, 0, none⟩) m (fun i => .int .i64 (g i)) ∧ OwnC w' g3 (some ⟨g3, 0, none⟩) o (fun i => .int .i64 (h i)) ∧ OwnC w' g4 (some ⟨g4, 0, none⟩) p (fun i => .int .i64 (u i)) ∧ Below w.heap.size w w' := by
  have hA := Lib.hid hA
  have hB := Lib.hid hB
  have hC := Lib.hid hC
  have hD := Lib.hid hD
  have HI1 := Lib.hid (fun W k => toI_any A n c f W hn k)
  have HI2 := Lib.hid (fun W k => toI_any B m d g W hm k)
  have HI3 := Lib.hid (fun W k => toI_any C o q h W ho k)
  have HI4 := Lib.hid (fun W k => toI_any D p t u W hp k)
  go_enter Try.func21, Try.ntmps21
  go_wp2_with fail
  refine (HI1.out _ (hA.out.below (by repeat (first | exact Below.refl _ _ | exact Hid.out (by assumption) | refine below_alloc ?_ _ | refine Below.setCell ?_ (by simp <;> omega) _ | refine Below.alloc ?_ (by simp <;> omega) _ | refine Below.drew ?_ | refine below_drewN ?_ _)))).mono ?_
  rintro e w1 ⟨rfl, hs1, ho1, hb1⟩
  have HB1 := Lib.hid (show Below w.heap.size w w1 from Below.trans (by repeat (first | exact Below.refl _ _ | exact Hid.out (by assumption) | refine below_alloc ?_ _ | refine Below.setCell ?_ (by simp <;> omega) _ | refine Below.alloc ?_ (by simp <;> omega) _ | refine Below.drew ?_ | refine below_drewN ?_ _)) (hb1.mono (by simp <;> omega)))
  obtain ⟨hc1, hf1⟩ := bcell hb1
  simp only [World.size_alloc] at ho1
  have hz1 : w.heap.size + 3 < w1.heap.size := by simp at hs1; omega
  have HO1_1 := Lib.hid ho1
  clear ho1 hb1 hs1
  go_wp2_with fail
  refine (HI2.out _ (hB.out.below (by repeat (first | exact Below.refl _ _ | exact Hid.out (by assumption) | refine below_alloc ?_ _ | refine Below.setCell ?_ (by simp <;> omega) _ | refine Below.alloc ?_ (by simp <;> omega) _ | refine Below.drew ?_ | refine below_drewN ?_ _)))).mono ?_
  rintro e w2 ⟨rfl, hs2, ho2, hb2⟩
  have HB2 := Lib.hid (show Below w.heap.size w w2 from Below.trans (by repeat (first | exact Below.refl _ _ | exact Hid.out (by assumption) | refine below_alloc ?_ _ | refine Below.setCell ?_ (by simp <;> omega) _ | refine Below.alloc ?_ (by simp <;> omega) _ | refine Below.drew ?_ | refine below_drewN ?_ _)) (hb2.mono (by simp <;> omega)))
  obtain ⟨hc2, hf2⟩ := bcellK hb2 (w.heap.size + 2) (by simp <;> omega)
  simp only [World.size_setCell] at ho2
  have hz2 : w1.heap.size < w2.heap.size := by simp at hs2; omega
  have hy2 : w.heap.size + 3 < w2.heap.size := by omega
  have HO2_2 := Lib.hid ho2
  have HO1_2 := Lib.hid (OwnC.below (OwnC.within HO1_1.out (Within.setCell w1 (lo := w.heap.size + 2) (hi := w.heap.size + 3) (by simp <;> omega) (by simp <;> omega) _) (fun _ => .inr (by first | omega | simp))) hb2)
  clear ho2 hb2 hs2 HO1_1
  go_wp2_with fail
  refine (HI3.out _ (hC.out.below (by repeat (first | exact Below.refl _ _ | exact Hid.out (by assumption) | refine below_alloc ?_ _ | refine Below.setCell ?_ (by simp <;> omega) _ | refine Below.alloc ?_ (by simp <;> omega) _ | refine Below.drew ?_ | refine below_drewN ?_ _)))).mono ?_
  rintro e w3 ⟨rfl, hs3, ho3, hb3⟩
  have HB3 := Lib.hid (show Below w.heap.size w w3 from Below.trans (by repeat (first | exact Below.refl _ _ | exact Hid.out (by assumption) | refine below_alloc ?_ _ | refine Below.setCell ?_ (by simp <;> omega) _ | refine Below.alloc ?_ (by simp <;> omega) _ | refine Below.drew ?_ | refine below_drewN ?_ _)) (hb3.mono (by simp <;> omega)))
  obtain ⟨hc3, hf3⟩ := bcellK hb3 (w.heap.size + 2) (by simp <;> omega)
  simp only [World.size_setCell] at ho3
  have hz3 : w2.heap.size < w3.heap.size := by simp at hs3; omega
  have hy3 : w.heap.size + 3 < w3.heap.size := by omega
  have HO3_3 := Lib.hid ho3
  have HO1_3 := Lib.hid (OwnC.below (OwnC.within HO1_2.out (Within.setCell w2 (lo := w.heap.size + 2) (hi := w.heap.size + 3) (by simp <;> omega) (by simp <;> omega) _) (fun _ => .inr (by first | omega | simp))) hb3)
  have HO2_3 := Lib.hid (OwnC.below (OwnC.within HO2_2.out (Within.setCell w2 (lo := w.heap.size + 2) (hi := w.heap.size + 3) (by simp <;> omega) (by simp <;> omega) _) (fun _ => .inr (by first | omega | simp))) hb3)
  clear ho3 hb3 hs3 HO1_2 HO2_2
  go_wp2_with fail
  refine (HI4.out _ (hD.out.below (by repeat (first | exact Below.refl _ _ | exact Hid.out (by assumption) | refine below_alloc ?_ _ | refine Below.setCell ?_ (by simp <;> omega) _ | refine Below.alloc ?_ (by simp <;> omega) _ | refine Below.drew ?_ | refine below_drewN ?_ _)))).mono ?_
  rintro e w4 ⟨rfl, hs4, ho4, hb4⟩
  have HB4 := Lib.hid (show Below w.heap.size w w4 from Below.trans (by repeat (first | exact Below.refl _ _ | exact Hid.out (by assumption) | refine below_alloc ?_ _ | refine Below.setCell ?_ (by simp <;> omega) _ | refine Below.alloc ?_ (by simp <;> omega) _ | refine Below.drew ?_ | refine below_drewN ?_ _)) (hb4.mono (by simp <;> omega)))
  obtain ⟨hc4, hf4⟩ := bcellK hb4 (w.heap.size + 2) (by simp <;> omega)
  simp only [World.size_setCell] at ho4
  have hz4 : w3.heap.size < w4.heap.size := by simp at hs4; omega
  have hy4 : w.heap.size + 3 < w4.heap.size := by omega
  have HO4_4 := Lib.hid ho4
  have HO1_4 := Lib.hid (OwnC.below (OwnC.within HO1_3.out (Within.setCell w3 (lo := w.heap.size + 2) (hi := w.heap.size + 3) (by simp <;> omega) (by simp <;> omega) _) (fun _ => .inr (by first | omega | simp))) hb4)
  have HO2_4 := Lib.hid (OwnC.below (OwnC.within HO2_3.out (Within.setCell w3 (lo := w.heap.size + 2) (hi := w.heap.size + 3) (by simp <;> omega) (by simp <;> omega) _) (fun _ => .inr (by first | omega | simp))) hb4)
  have HO3_4 := Lib.hid (OwnC.below (OwnC.within HO3_3.out (Within.setCell w3 (lo := w.heap.size + 2) (hi := w.heap.size + 3) (by simp <;> omega) (by simp <;> omega) _) (fun _ => .inr (by first | omega | simp))) hb4)
  clear ho4 hb4 hs4 HO1_3 HO2_3 HO3_3
  go_wp2_with fail
  have hk : ∀ j, j < 4 → ∃ v, w4.cell? ⟨w.heap.size + 1, j, none⟩ = some v := fun j hj => by
    rw [hc4 _ _ (by omega), World.cell?_setCell_other _ _ _ _ (by simp), hc3 _ _ (by omega), World.cell?_setCell_other _ _ _ _ (by simp), hc2 _ _ (by omega), World.cell?_setCell_other _ _ _ _ (by simp), hc1 _ _ (by simp <;> omega)]
    have : j = 0 ∨ j = 1 ∨ j = 2 ∨ j = 3 := by omega
    rcases this with rfl | rfl | rfl | rfl <;> simp [go_sem]
  obtain ⟨u0, k0⟩ := hk 0 (by omega)
  obtain ⟨u1, k1⟩ := hk 1 (by omega)
  obtain ⟨u2, k2⟩ := hk 2 (by omega)
  obtain ⟨u3, k3⟩ := hk 3 (by omega)
  clear hk hc1 hf1 hc2 hf2 hc3 hf3 hc4 hf4
  refine bodyPost_ret (v := .agg #[.slice (some ⟨w.heap.size + 1 + 1 + 1, 0, none⟩) n n, .slice (some ⟨w1.heap.size, 0, none⟩) m m, .slice (some ⟨w2.heap.size, 0, none⟩) o o, .slice (some ⟨w3.heap.size, 0, none⟩) p p]) ?r1 rfl ?r2
  case r1 => simp [results, Try.results21, go_sem, k0, k1, k2, k3]
  case r2 =>
    refine ⟨w.heap.size + 1 + 1 + 1, w1.heap.size, w2.heap.size, w3.heap.size, rfl, by omega, by omega, by omega, by omega, by simp <;> omega, ?_, ?_, ?_, ?_, ?_⟩
    · exact HO1_4.out.within (lo := w.heap.size) (hi := w.heap.size + 3) (by repeat (first | exact Within.refl _ _ _ | refine Within.trans ?_ (Within.setCell _ (by first | (dsimp only; omega) | omega) (by first | (dsimp only; omega) | omega) _))) (fun _ => .inr (by omega))
    · exact HO2_4.out.within (lo := w.heap.size) (hi := w.heap.size + 3) (by repeat (first | exact Within.refl _ _ _ | refine Within.trans ?_ (Within.setCell _ (by first | (dsimp only; omega) | omega) (by first | (dsimp only; omega) | omega) _))) (fun _ => .inr (by omega))
    · exact HO3_4.out.within (lo := w.heap.size) (hi := w.heap.size + 3) (by repeat (first | exact Within.refl _ _ _ | refine Within.trans ?_ (Within.setCell _ (by first | (dsimp only; omega) | omega) (by first | (dsimp only; omega) | omega) _))) (fun _ => .inr (by omega))
    · exact HO4_4.out.within (lo := w.heap.size) (hi := w.heap.size + 3) (by repeat (first | exact Within.refl _ _ _ | refine Within.trans ?_ (Within.setCell _ (by first | (dsimp only; omega) | omega) (by first | (dsimp only; omega) | omega) _))) (fun _ => .inr (by omega))
    · exact (by repeat (first | exact Below.refl _ _ | exact Hid.out (by assumption) | refine below_alloc ?_ _ | refine Below.setCell ?_ (by simp <;> omega) _ | refine Below.alloc ?_ (by simp <;> omega) _ | refine Below.drew ?_ | refine below_drewN ?_ _))

set_option maxHeartbeats 1000000 in
theorem eqChange_any (A B C D A2 B2 C2 D2 : Option Addr) (n c m d o q p t c2 d2 q2 t2 : Nat) (f : Nat → Int) (g : Nat → Int) (h : Nat → Int) (u : Nat → Int) (w : World) (hn : n ≤ 4611686018427387904) (hm : m ≤ 4611686018427387904) (ho : o ≤ 4611686018427387904) (hp : p ≤ 4611686018427387904)
    (hA : Cells w A n (fun i => .int .i64 (f i))) (hB : Cells w B m (fun i => .int .i64 (g i))) (hC : Cells w C o (fun i => .int .i64 (h i))) (hD : Cells w D p (fun i => .int .i64 (u i))) (hA2 : Cells w A2 n (fun i => .int .i64 (f i))) (hB2 : Cells w B2 m (fun i => .int .i64 (g i))) (hC2 : Cells w C2 o (fun i => .int .i64 (h i))) (hD2 : Cells w D2 p (fun i => .int .i64 (u i))) :
    Calls Try.prog 23 #[.agg #[.slice A n c, .slice B m d, .slice C o q, .slice D p t], .agg #[.slice A2 n c2, .slice B2 m d2, .slice C2 o q2, .slice D2 p t2]] w fun e w' => e = .returned (.bool true) ∧ Below w.heap.size w w' := by
  have hA := Lib.hid hA
  have hA2 := Lib.hid hA2
  have hB := Lib.hid hB
  have hB2 := Lib.hid hB2
  have hC := Lib.hid hC
  have hC2 := Lib.hid hC2
  have hD := Lib.hid hD
  have hD2 := Lib.hid hD2
  have HI1 := Lib.hid (fun W h1 h2 => eqI_any A A2 n c c2 f W hn h1 h2)
  have HI2 := Lib.hid (fun W h1 h2 => eqI_any B B2 m d d2 g W hm h1 h2)
  have HI3 := Lib.hid (fun W h1 h2 => eqI_any C C2 o q q2 h W ho h1 h2)
  have HI4 := Lib.hid (fun W h1 h2 => eqI_any D D2 p t t2 u W hp h1 h2)
  go_enter Try.func23, Try.ntmps23
  go_wp2_with fail
  refine (HI1.out _ (hA.out.below (by repeat (first | exact Below.refl _ _ | exact Hid.out (by assumption) | refine below_alloc ?_ _ | refine Below.setCell ?_ (by simp <;> omega) _ | refine Below.alloc ?_ (by simp <;> omega) _ | refine Below.drew ?_ | refine below_drewN ?_ _))) (hA2.out.below (by repeat (first | exact Below.refl _ _ | exact Hid.out (by assumption) | refine below_alloc ?_ _ | refine Below.setCell ?_ (by simp <;> omega) _ | refine Below.alloc ?_ (by simp <;> omega) _ | refine Below.drew ?_ | refine below_drewN ?_ _)))).mono ?_
  rintro e w1 ⟨rfl, m1, rfl⟩
  go_wp2_with fail
  refine (HI2.out _ (hB.out.below (by repeat (first | exact Below.refl _ _ | exact Hid.out (by assumption) | refine below_alloc ?_ _ | refine Below.setCell ?_ (by simp <;> omega) _ | refine Below.alloc ?_ (by simp <;> omega) _ | refine Below.drew ?_ | refine below_drewN ?_ _))) (hB2.out.below (by repeat (first | exact Below.refl _ _ | exact Hid.out (by assumption) | refine below_alloc ?_ _ | refine Below.setCell ?_ (by simp <;> omega) _ | refine Below.alloc ?_ (by simp <;> omega) _ | refine Below.drew ?_ | refine below_drewN ?_ _)))).mono ?_
  rintro e w2 ⟨rfl, m2, rfl⟩
  go_wp2_with fail
  refine (HI3.out _ (hC.out.below (by repeat (first | exact Below.refl _ _ | exact Hid.out (by assumption) | refine below_alloc ?_ _ | refine Below.setCell ?_ (by simp <;> omega) _ | refine Below.alloc ?_ (by simp <;> omega) _ | refine Below.drew ?_ | refine below_drewN ?_ _))) (hC2.out.below (by repeat (first | exact Below.refl _ _ | exact Hid.out (by assumption) | refine below_alloc ?_ _ | refine Below.setCell ?_ (by simp <;> omega) _ | refine Below.alloc ?_ (by simp <;> omega) _ | refine Below.drew ?_ | refine below_drewN ?_ _)))).mono ?_
  rintro e w3 ⟨rfl, m3, rfl⟩
  go_wp2_with fail
  refine (HI4.out _ (hD.out.below (by repeat (first | exact Below.refl _ _ | exact Hid.out (by assumption) | refine below_alloc ?_ _ | refine Below.setCell ?_ (by simp <;> omega) _ | refine Below.alloc ?_ (by simp <;> omega) _ | refine Below.drew ?_ | refine below_drewN ?_ _))) (hD2.out.below (by repeat (first | exact Below.refl _ _ | exact Hid.out (by assumption) | refine below_alloc ?_ _ | refine Below.setCell ?_ (by simp <;> omega) _ | refine Below.alloc ?_ (by simp <;> omega) _ | refine Below.drew ?_ | refine below_drewN ?_ _)))).mono ?_
  rintro e w4 ⟨rfl, m4, rfl⟩
  go_wp2_with fail
  go_ret
  exact ⟨rfl, (by repeat (first | exact Below.refl _ _ | exact Hid.out (by assumption) | refine below_alloc ?_ _ | refine Below.setCell ?_ (by simp <;> omega) _ | refine Below.alloc ?_ (by simp <;> omega) _ | refine Below.drew ?_ | refine below_drewN ?_ _))⟩

end Go.Proofs.Ytehemjcpdblonaa
