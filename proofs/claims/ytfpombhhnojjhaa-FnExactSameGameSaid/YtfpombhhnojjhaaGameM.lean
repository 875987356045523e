/- Games in memory: measured, copied, compared. -/
import Derived.Test.YtfpombhhnojjhaaRR
import Derived.Test.YtfpombhhnojjhaaBoxP
import Derived.Test.YtfpombhhnojjhaaBoxN
import Derived.Test.YtfpombhhnojjhaaBCell
set_option linter.unusedVariables false
namespace Go.Proofs.Ytfpombhhnojjhaa
open Go.RowKit
theorem ORows.within {w w' : World} {g : Nat} {A : Option Addr} {o : Nat} {G L : Nat → Nat} {F : Nat → Nat → Int} {lo hi : Nat} (h : ORows w g A o G L F) (b : Within lo hi w w') (hg : hi ≤ g) : ORows w' g A o G L F :=
  ⟨h.top.within b (fun _ => .inr hg), fun i hi' => (h.row i hi').within b (fun _ => .inr (by have := h.gt i hi'; omega)), h.gt, fun i hi' => Nat.lt_of_lt_of_le (h.lt i hi') b.size, h.mono⟩
set_option maxHeartbeats 2000000 in
theorem szGame_yes (A B C : Option Addr) (n c m d o q : Nat) (P : Nat → Option Addr) (L K : Nat → Nat) (f g : Nat → Int) (F : Nat → Nat → Int) (T : Int) (w : World) (hT : T ≤ 1048576) (h : (n : Int) + m + o + sumN L o ≤ T) (hC : RRows w C o P L K F) :
    Calls Try.prog 29 #[.agg #[.slice A n c, .slice B m d, .slice C o q], .int .i64 T] w fun e w' => e = .returned (.int .i64 (T - n - m - o - sumN L o)) ∧ Below w.heap.size w w' := by
  have HZ := Lib.hid (fun W h => szII_yes C o q P L K F (T - n - m) W (by omega) (by omega) h)
  have HCC := Lib.hid hC
  have d1 : ¬ T - (n : Int) < 0 := by omega
  have d2 : ¬ T - (n : Int) - m < 0 := by omega
  have d3 : ¬ T - (n : Int) - m - o - sumN L o < 0 := by omega
  clear hC
  go_enter Try.func29, Try.ntmps29
  go_wp2_with (first | (go_at_call 91; refine (HZ.out _ (HCC.out.below (by repeat (first | with_reducible exact Below.refl _ _ | exact Hid.out (by with_reducible assumption) | refine Below.setCell ?_ (by simp <;> omega) _ | refine below_alloc ?_ _ | refine Below.alloc ?_ (by simp <;> omega) _ | refine Below.drew ?_ | refine below_drewN ?_ _)))).mono ?_; rintro e w1 ⟨rfl, rfl⟩) | go_in)
  go_ret
  exact ⟨rfl, (by repeat (first | with_reducible exact Below.refl _ _ | exact Hid.out (by with_reducible assumption) | refine Below.setCell ?_ (by simp <;> omega) _ | refine below_alloc ?_ _ | refine Below.alloc ?_ (by simp <;> omega) _ | refine Below.drew ?_ | refine below_drewN ?_ _))⟩
set_option maxHeartbeats 2000000 in
theorem szGame_no (A B C : Option Addr) (n c m d o q : Nat) (P : Nat → Option Addr) (L K : Nat → Nat) (f g : Nat → Int) (F : Nat → Nat → Int) (T : Int) (w : World) (hT0 : 0 ≤ T) (hT : T ≤ 1048576) (hn : n ≤ 9223372036854775807) (hm : m ≤ 9223372036854775807) (ho : o ≤ 9223372036854775807) (hL : ∀ i, i < o → L i ≤ 9223372036854775807) (h : ¬ (n : Int) + m + o + sumN L o ≤ T) (hC : RRows w C o P L K F) :
    Calls Try.prog 29 #[.agg #[.slice A n c, .slice B m d, .slice C o q], .int .i64 T] w fun e w' => e = .returned (.int .i64 (-1)) ∧ Below w.heap.size w w' := by
  have HCC := Lib.hid hC
  have HLL := Lib.hid hL
  clear hL
  by_cases b1 : (n : Int) ≤ T
  rotate_left
  · have d1 : T - (n : Int) < 0 := by omega
    go_enter Try.func29, Try.ntmps29
    go_wp2
    go_ret
    exact ⟨rfl, (by repeat (first | with_reducible exact Below.refl _ _ | exact Hid.out (by with_reducible assumption) | refine Below.setCell ?_ (by simp <;> omega) _ | refine below_alloc ?_ _ | refine Below.alloc ?_ (by simp <;> omega) _ | refine Below.drew ?_ | refine below_drewN ?_ _))⟩
  have d1 : ¬ T - (n : Int) < 0 := by omega
  by_cases b2 : (n : Int) + m ≤ T
  rotate_left
  · have d2 : T - (n : Int) - m < 0 := by omega
    go_enter Try.func29, Try.ntmps29
    go_wp2
    go_ret
    exact ⟨rfl, (by repeat (first | with_reducible exact Below.refl _ _ | exact Hid.out (by with_reducible assumption) | refine Below.setCell ?_ (by simp <;> omega) _ | refine below_alloc ?_ _ | refine Below.alloc ?_ (by simp <;> omega) _ | refine Below.drew ?_ | refine below_drewN ?_ _))⟩
  have d2 : ¬ T - (n : Int) - m < 0 := by omega
  have HZ := Lib.hid (fun W h => szII_no C o q P L K F (T - n - m) W (by omega) (by omega) ho HLL.out (by omega) h)
  clear hC
  go_enter Try.func29, Try.ntmps29
  go_wp2_with (first | (go_at_call 91; refine (HZ.out _ (HCC.out.below (by repeat (first | with_reducible exact Below.refl _ _ | exact Hid.out (by with_reducible assumption) | refine Below.setCell ?_ (by simp <;> omega) _ | refine below_alloc ?_ _ | refine Below.alloc ?_ (by simp <;> omega) _ | refine Below.drew ?_ | refine below_drewN ?_ _)))).mono ?_; rintro e w1 ⟨rfl, rfl⟩) | go_in)
  go_ret
  exact ⟨rfl, (by repeat (first | with_reducible exact Below.refl _ _ | exact Hid.out (by with_reducible assumption) | refine Below.setCell ?_ (by simp <;> omega) _ | refine below_alloc ?_ _ | refine Below.alloc ?_ (by simp <;> omega) _ | refine Below.drew ?_ | refine below_drewN ?_ _))⟩
set_option maxHeartbeats 8000000 in
theorem toGame_any (A B C : Option Addr) (n c m d o q : Nat) (P : Nat → Option Addr) (L K : Nat → Nat) (f g : Nat → Int) (F : Nat → Nat → Int) (w : World) (hn : n ≤ 1048576) (hm : m ≤ 1048576) (ho : o ≤ 1048576) (hL : ∀ i, i < o → L i ≤ 1048576) (hA : Cells w A n (fun i => .int .i64 (f i))) (hB : Cells w B m (fun i => .int .i64 (g i))) (hC : RRows w C o P L K F) :
    Calls Try.prog 31 #[.agg #[.slice A n c, .slice B m d, .slice C o q]] w fun e w' => ∃ (g1 g2 g3 : Nat) (G : Nat → Nat), e = .returned (.agg #[.slice (some ⟨g1, 0, none⟩) n n, .slice (some ⟨g2, 0, none⟩) m m, .slice (some ⟨g3, 0, none⟩) o o]) ∧
      w.heap.size ≤ g1 ∧ g1 < g2 ∧ g2 < g3 ∧ g3 < w'.heap.size ∧ OwnC w' g1 (some ⟨g1, 0, none⟩) n (fun i => .int .i64 (f i)) ∧ OwnC w' g2 (some ⟨g2, 0, none⟩) m (fun i => .int .i64 (g i)) ∧ ORows w' g3 (some ⟨g3, 0, none⟩) o G L F ∧ Below w.heap.size w w' := by
  have hA := Lib.hid hA
  have hB := Lib.hid hB
  have hC := Lib.hid hC
  have HI := Lib.hid (fun W k => toI_any A n c f W hn k)
  have HJ := Lib.hid (fun W k => toI_any B m d g W hm k)
  have HK := Lib.hid (fun W k => toII_any C o q P L K F W ho hL k)
  clear hL
  go_enter Try.func31, Try.ntmps31
  go_wp2_with fail
  refine (HI.out _ (hA.out.below (by repeat (first | with_reducible exact Below.refl _ _ | exact Hid.out (by with_reducible assumption) | refine Below.setCell ?_ (by simp <;> omega) _ | refine below_alloc ?_ _ | refine Below.alloc ?_ (by simp <;> omega) _ | refine Below.drew ?_ | refine below_drewN ?_ _)))).mono ?_
  rintro e w1 ⟨rfl, hs1, ho1, hb1⟩
  have HB1 := Lib.hid (show Below w.heap.size w w1 from Below.trans (by repeat (first | with_reducible exact Below.refl _ _ | exact Hid.out (by with_reducible assumption) | refine Below.setCell ?_ (by simp <;> omega) _ | refine below_alloc ?_ _ | refine Below.alloc ?_ (by simp <;> omega) _ | refine Below.drew ?_ | refine below_drewN ?_ _)) (hb1.mono (by simp <;> omega)))
  obtain ⟨hc, hf⟩ := bcell hb1
  simp only [World.size_alloc] at ho1
  have HO1 := Lib.hid ho1
  have hz1 : w.heap.size + 3 < w1.heap.size := by simp at hs1; omega
  clear ho1 hb1 hs1
  go_wp2_with fail
  refine (HJ.out _ (hB.out.below (by repeat (first | with_reducible exact Below.refl _ _ | exact Hid.out (by with_reducible assumption) | refine Below.setCell ?_ (by simp <;> omega) _ | refine below_alloc ?_ _ | refine Below.alloc ?_ (by simp <;> omega) _ | refine Below.drew ?_ | refine below_drewN ?_ _)))).mono ?_
  rintro e w2 ⟨rfl, hs2, ho2, hb2⟩
  have HB2 := Lib.hid (show Below w.heap.size w w2 from Below.trans (by repeat (first | with_reducible exact Below.refl _ _ | exact Hid.out (by with_reducible assumption) | refine Below.setCell ?_ (by simp <;> omega) _ | refine below_alloc ?_ _ | refine Below.alloc ?_ (by simp <;> omega) _ | refine Below.drew ?_ | refine below_drewN ?_ _)) (hb2.mono (by simp <;> omega)))
  obtain ⟨hc2, hf2⟩ := bcellK hb2 (w.heap.size + 2) (by simp <;> omega)
  simp only [World.size_setCell] at ho2
  have HO2 := Lib.hid ho2
  have HO1b := Lib.hid (OwnC.below (OwnC.within HO1.out (Within.setCell w1 (lo := w.heap.size + 2) (hi := w.heap.size + 3) (by simp <;> omega) (by simp <;> omega) _) (fun _ => .inr (by simp))) hb2)
  have hz2 : w1.heap.size < w2.heap.size := by simp at hs2; omega
  have hz2b : w.heap.size + 3 < w2.heap.size := by omega
  clear ho2 hb2 hs2 HO1
  go_wp2_with fail
  refine (HK.out _ (hC.out.below (by repeat (first | with_reducible exact Below.refl _ _ | exact Hid.out (by with_reducible assumption) | refine Below.setCell ?_ (by simp <;> omega) _ | refine below_alloc ?_ _ | refine Below.alloc ?_ (by simp <;> omega) _ | refine Below.drew ?_ | refine below_drewN ?_ _)))).mono ?_
  rintro e w3 ⟨rfl, hs3, ⟨G, ho3⟩, hb3⟩
  have HB3 := Lib.hid (show Below w.heap.size w w3 from Below.trans (by repeat (first | with_reducible exact Below.refl _ _ | exact Hid.out (by with_reducible assumption) | refine Below.setCell ?_ (by simp <;> omega) _ | refine below_alloc ?_ _ | refine Below.alloc ?_ (by simp <;> omega) _ | refine Below.drew ?_ | refine below_drewN ?_ _)) (hb3.mono (by simp <;> omega)))
  obtain ⟨hc3, hf3⟩ := bcellK hb3 (w.heap.size + 2) (by simp <;> omega)
  simp only [World.size_setCell] at ho3
  have HO3 := Lib.hid ho3
  have HO1c := Lib.hid (OwnC.below (OwnC.within HO1b.out (Within.setCell w2 (lo := w.heap.size + 2) (hi := w.heap.size + 3) (by simp <;> omega) (by simp <;> omega) _) (fun _ => .inr (by simp))) hb3)
  have HO2c := Lib.hid (OwnC.below (OwnC.within HO2.out (Within.setCell w2 (lo := w.heap.size + 2) (hi := w.heap.size + 3) (by simp <;> omega) (by simp <;> omega) _) (fun _ => .inr (by omega))) hb3)
  have hz3 : w2.heap.size < w3.heap.size := by simp at hs3; omega
  have hz3b : w.heap.size + 3 < w3.heap.size := by omega
  clear ho3 hb3 hs3 HO1b HO2
  go_wp2_with fail
  have hk : ∀ j, j < 3 → ∃ v, w3.cell? ⟨w.heap.size + 1, j, none⟩ = some v := fun j hj => by
    rw [hc3 _ _ (by omega), World.cell?_setCell_other _ _ _ _ (by simp), hc2 _ _ (by omega), World.cell?_setCell_other _ _ _ _ (by simp), hc _ _ (by simp <;> omega)]
    have : j = 0 ∨ j = 1 ∨ j = 2 := by omega
    rcases this with rfl | rfl | rfl <;> simp [go_sem]
  obtain ⟨u0, k0⟩ := hk 0 (by omega)
  obtain ⟨u1, k1⟩ := hk 1 (by omega)
  obtain ⟨u2, k2⟩ := hk 2 (by omega)
  clear hc hf hc2 hf2 hc3 hf3 hk
  refine bodyPost_ret (v := .agg #[.slice (some ⟨w.heap.size + 1 + 1 + 1, 0, none⟩) n n, .slice (some ⟨w1.heap.size, 0, none⟩) m m, .slice (some ⟨w2.heap.size, 0, none⟩) o o]) ?r1 rfl ?r2
  case r1 => simp [results, Try.results31, go_sem, k0, k1, k2]
  case r2 =>
    have HX : ∀ W : World, Within w.heap.size (w.heap.size + 3) w3 W → w2.heap.size < W.heap.size ∧ OwnC W (w.heap.size + 1 + 1 + 1) (some ⟨w.heap.size + 1 + 1 + 1, 0, none⟩) n (fun i => .int .i64 (f i)) ∧ OwnC W w1.heap.size (some ⟨w1.heap.size, 0, none⟩) m (fun i => .int .i64 (g i)) ∧ ORows W w2.heap.size (some ⟨w2.heap.size, 0, none⟩) o G L F ∧ Below w.heap.size w W := fun W h =>
      ⟨Nat.lt_of_lt_of_le hz3 h.size, HO1c.out.within h (fun _ => .inr (by omega)), HO2c.out.within h (fun _ => .inr (by omega)), HO3.out.within h (by omega), HB3.out.trans (h.below (Nat.le_refl _) HB3.out.size)⟩
    refine ⟨w.heap.size + 1 + 1 + 1, w1.heap.size, w2.heap.size, G, rfl, by omega, by omega, hz2, HX _ ?_⟩
    exact (by repeat (first | with_reducible exact Within.refl _ _ _ | refine Within.trans ?_ (Within.setCell _ (by first | (dsimp only; omega) | omega) (by first | (dsimp only; omega) | omega) _)))
set_option maxHeartbeats 2000000 in
theorem eqGame_any (A B C A2 B2 C2 : Option Addr) (n c m d o q c2 d2 q2 : Nat) (P P2 : Nat → Option Addr) (L K K2 : Nat → Nat) (f g : Nat → Int) (F : Nat → Nat → Int) (w : World) (hn : n ≤ 4611686018427387904) (hm : m ≤ 4611686018427387904) (ho : o ≤ 4611686018427387904) (hL : ∀ i, i < o → L i ≤ 4611686018427387904) (hA : Cells w A n (fun i => .int .i64 (f i))) (hB : Cells w B m (fun i => .int .i64 (g i))) (hC : RRows w C o P L K F)
    (hA2 : Cells w A2 n (fun i => .int .i64 (f i))) (hB2 : Cells w B2 m (fun i => .int .i64 (g i))) (hC2 : RRows w C2 o P2 L K2 F) :
    Calls Try.prog 33 #[.agg #[.slice A n c, .slice B m d, .slice C o q], .agg #[.slice A2 n c2, .slice B2 m d2, .slice C2 o q2]] w fun e w' => e = .returned (.bool true) ∧ Below w.heap.size w w' := by
  have hA := Lib.hid hA
  have hB := Lib.hid hB
  have hC := Lib.hid hC
  have hA2 := Lib.hid hA2
  have hB2 := Lib.hid hB2
  have hC2 := Lib.hid hC2
  have HI := Lib.hid (fun W h1 h2 => eqI_any A A2 n c c2 f W hn h1 h2)
  have HJ := Lib.hid (fun W h1 h2 => eqI_any B B2 m d d2 g W hm h1 h2)
  have HK := Lib.hid (fun W h1 h2 => eqII_any C C2 o q q2 P P2 L K K2 F W ho hL h1 h2)
  clear hL
  go_enter Try.func33, Try.ntmps33
  go_wp2_with fail
  refine (HI.out _ (hA.out.below (by repeat (first | with_reducible exact Below.refl _ _ | exact Hid.out (by with_reducible assumption) | refine Below.setCell ?_ (by simp <;> omega) _ | refine below_alloc ?_ _ | refine Below.alloc ?_ (by simp <;> omega) _ | refine Below.drew ?_ | refine below_drewN ?_ _))) (hA2.out.below (by repeat (first | with_reducible exact Below.refl _ _ | exact Hid.out (by with_reducible assumption) | refine Below.setCell ?_ (by simp <;> omega) _ | refine below_alloc ?_ _ | refine Below.alloc ?_ (by simp <;> omega) _ | refine Below.drew ?_ | refine below_drewN ?_ _)))).mono ?_
  rintro e w1 ⟨rfl, m1, rfl⟩
  go_wp2_with fail
  refine (HJ.out _ (hB.out.below (by repeat (first | with_reducible exact Below.refl _ _ | exact Hid.out (by with_reducible assumption) | refine Below.setCell ?_ (by simp <;> omega) _ | refine below_alloc ?_ _ | refine Below.alloc ?_ (by simp <;> omega) _ | refine Below.drew ?_ | refine below_drewN ?_ _))) (hB2.out.below (by repeat (first | with_reducible exact Below.refl _ _ | exact Hid.out (by with_reducible assumption) | refine Below.setCell ?_ (by simp <;> omega) _ | refine below_alloc ?_ _ | refine Below.alloc ?_ (by simp <;> omega) _ | refine Below.drew ?_ | refine below_drewN ?_ _)))).mono ?_
  rintro e w1 ⟨rfl, m2, rfl⟩
  go_wp2_with fail
  refine (HK.out _ (hC.out.below (by repeat (first | with_reducible exact Below.refl _ _ | exact Hid.out (by with_reducible assumption) | refine Below.setCell ?_ (by simp <;> omega) _ | refine below_alloc ?_ _ | refine Below.alloc ?_ (by simp <;> omega) _ | refine Below.drew ?_ | refine below_drewN ?_ _))) (hC2.out.below (by repeat (first | with_reducible exact Below.refl _ _ | exact Hid.out (by with_reducible assumption) | refine Below.setCell ?_ (by simp <;> omega) _ | refine below_alloc ?_ _ | refine Below.alloc ?_ (by simp <;> omega) _ | refine Below.drew ?_ | refine below_drewN ?_ _)))).mono ?_
  rintro e w1 ⟨rfl, m3, rfl⟩
  go_wp2_with fail
  go_ret
  exact ⟨rfl, (by repeat (first | with_reducible exact Below.refl _ _ | exact Hid.out (by with_reducible assumption) | refine Below.setCell ?_ (by simp <;> omega) _ | refine below_alloc ?_ _ | refine Below.alloc ?_ (by simp <;> omega) _ | refine Below.drew ?_ | refine below_drewN ?_ _))⟩
end Go.Proofs.Ytfpombhhnojjhaa
