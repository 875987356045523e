/- Plain machines in memory: measured, copied, compared, marked, held. -/
import Derived.Test.YtfpombhhnojjhaaBCell
import Derived.Test.YtfpombhhnojjhaaOwn
import Derived.Test.YtfpombhhnojjhaaIn
import Derived.Test.YtfpombhhnojjhaaRowk
set_option linter.unusedVariables false
namespace Go.Proofs.Ytfpombhhnojjhaa
open Go.RowKit

theorem szPlain_yes (s l : Int) (A B : Option Addr) (n c m d : Nat) (L : Int) (w : World) (hL : L ≤ 1048576) (h : (n : Int) + m ≤ L) :
    Calls Try.prog 106 #[.agg #[.int .i64 s, .int .i64 l, .slice A n c, .slice B m d], .int .i64 L] w fun e w' => e = .returned (.int .i64 (L - n - m)) ∧ Below w.heap.size w w' := by
  have d1 : ¬ L - (n : Int) < 0 := by omega
  have d2 : ¬ L - (n : Int) - m < 0 := by omega
  go_enter Try.func106, Try.ntmps106
  go_wp2
  go_ret
  exact ⟨rfl, (Below.refl _ _).alloc (Nat.le_refl _) _⟩
theorem szPlain_no (s l : Int) (A B : Option Addr) (n c m d : Nat) (L : Int) (w : World) (hL0 : 0 ≤ L) (hL : L ≤ 1048576) (hn : n ≤ 9223372036854775807) (hm : m ≤ 9223372036854775807) (h : ¬ (n : Int) + m ≤ L) :
    Calls Try.prog 106 #[.agg #[.int .i64 s, .int .i64 l, .slice A n c, .slice B m d], .int .i64 L] w fun e w' => e = .returned (.int .i64 (-1)) ∧ Below w.heap.size w w' := by
  by_cases hb : (n : Int) ≤ L
  · have d1 : ¬ L - (n : Int) < 0 := by omega
    have d2 : L - (n : Int) - m < 0 := by omega
    go_enter Try.func106, Try.ntmps106
    go_wp2
    go_ret
    exact ⟨rfl, (Below.refl _ _).alloc (Nat.le_refl _) _⟩
  · have d1 : L - (n : Int) < 0 := by omega
    go_enter Try.func106, Try.ntmps106
    go_wp2
    go_ret
    exact ⟨rfl, (Below.refl _ _).alloc (Nat.le_refl _) _⟩

set_option maxHeartbeats 1000000 in
theorem toPlain_any (s l : Int) (A B : Option Addr) (n c m d : Nat) (f : Nat → Int) (g : Nat → Bool) (w : World) (hn : n ≤ 1048576) (hm : m ≤ 1048576) (hA : Cells w A n (fun i => .int .i64 (f i))) (hB : Cells w B m (fun i => .bool (g i))) :
    Calls Try.prog 108 #[.agg #[.int .i64 s, .int .i64 l, .slice A n c, .slice B m d]] w fun e w' => ∃ g1 g2, e = .returned (.agg #[.int .i64 s, .int .i64 l, .slice (some ⟨g1, 0, none⟩) n n, .slice (some ⟨g2, 0, none⟩) m m]) ∧
      w.heap.size ≤ g1 ∧ g1 < g2 ∧ g2 < w'.heap.size ∧ OwnC w' g1 (some ⟨g1, 0, none⟩) n (fun i => .int .i64 (f i)) ∧ OwnC w' g2 (some ⟨g2, 0, none⟩) m (fun i => .bool (g i)) ∧ Below w.heap.size w w' := by
  have hA := Lib.hid hA
  have hB := Lib.hid hB
  have HI := Lib.hid (fun W h => toI_any A n c f W hn h)
  have HJ := Lib.hid (fun W h => toB_any B m d g W hm h)
  go_enter Try.func108, Try.ntmps108
  go_wp2_with fail
  refine (HI.out _ (hA.out.below (by repeat (first | exact Below.refl _ _ | exact Hid.out (by assumption) | refine Below.setCell ?_ (by simp <;> omega) _ | refine Below.alloc ?_ (by simp <;> omega) _ | refine Below.drew ?_ | refine below_drewN ?_ _)))).mono ?_
  rintro e w1 ⟨rfl, hs1, ho1, hb1⟩
  have HB1 := Lib.hid (show Below w.heap.size w w1 from Below.trans (by repeat (first | exact Below.refl _ _ | exact Hid.out (by assumption) | refine Below.setCell ?_ (by simp <;> omega) _ | refine Below.alloc ?_ (by simp <;> omega) _ | refine Below.drew ?_ | refine below_drewN ?_ _)) (hb1.mono (by simp <;> omega)))
  obtain ⟨hc, hf⟩ := bcell hb1
  simp only [World.size_alloc] at ho1
  have HO1 := Lib.hid ho1
  have hz1 : w.heap.size + 3 < w1.heap.size := by simp at hs1; omega
  clear ho1 hb1 hs1
  go_wp2_with fail
  refine (HJ.out _ (hB.out.below (by repeat (first | exact Below.refl _ _ | exact Hid.out (by assumption) | refine Below.setCell ?_ (by simp <;> omega) _ | refine Below.alloc ?_ (by simp <;> omega) _ | refine Below.drew ?_ | refine below_drewN ?_ _)))).mono ?_
  rintro e w2 ⟨rfl, hs2, ho2, hb2⟩
  have HB2 := Lib.hid (show Below w.heap.size w w2 from Below.trans (by repeat (first | exact Below.refl _ _ | exact Hid.out (by assumption) | refine Below.setCell ?_ (by simp <;> omega) _ | refine Below.alloc ?_ (by simp <;> omega) _ | refine Below.drew ?_ | refine below_drewN ?_ _)) (hb2.mono (by simp <;> omega)))
  obtain ⟨hc2, hf2⟩ := bcellK hb2 (w.heap.size + 2) (by simp <;> omega)
  simp only [World.size_setCell] at ho2
  have HO2 := Lib.hid ho2
  have HO1b := Lib.hid (OwnC.below (OwnC.within HO1.out (Within.setCell w1 (lo := w.heap.size + 2) (hi := w.heap.size + 3) (by simp <;> omega) (by simp <;> omega) _) (fun _ => .inr (by simp))) hb2)
  have hz2 : w1.heap.size < w2.heap.size := by simp at hs2; omega
  clear ho2 hb2 hs2 HO1
  go_wp2_with fail
  have k0 : ∃ v, w2.cell? ⟨w.heap.size + 1, 0, none⟩ = some v := by rw [hc2 _ _ (by omega), World.cell?_setCell_other _ _ _ _ (by simp), hc _ _ (by simp <;> omega)]; simp [go_sem]
  have k1 : ∃ v, w2.cell? ⟨w.heap.size + 1, 1, none⟩ = some v := by rw [hc2 _ _ (by omega), World.cell?_setCell_other _ _ _ _ (by simp), hc _ _ (by simp <;> omega)]; simp [go_sem]
  have k2 : ∃ v, w2.cell? ⟨w.heap.size + 1, 2, none⟩ = some v := by rw [hc2 _ _ (by omega), World.cell?_setCell_other _ _ _ _ (by simp), hc _ _ (by simp <;> omega)]; simp [go_sem]
  have k3 : ∃ v, w2.cell? ⟨w.heap.size + 1, 3, none⟩ = some v := by rw [hc2 _ _ (by omega), World.cell?_setCell_other _ _ _ _ (by simp), hc _ _ (by simp <;> omega)]; simp [go_sem]
  obtain ⟨u0, k0⟩ := k0
  obtain ⟨u1, k1⟩ := k1
  obtain ⟨u2, k2⟩ := k2
  obtain ⟨u3, k3⟩ := k3
  clear hc hf hc2 hf2
  refine bodyPost_ret (v := .agg #[.int .i64 s, .int .i64 l, .slice (some ⟨w.heap.size + 1 + 1 + 1, 0, none⟩) n n, .slice (some ⟨w1.heap.size, 0, none⟩) m m]) ?r1 rfl ?r2
  case r1 => simp [results, Try.results108, go_sem, k0, k1, k2, k3]
  case r2 =>
    refine ⟨w.heap.size + 1 + 1 + 1, w1.heap.size, rfl, by omega, by omega, by simp <;> omega, ?_, ?_, ?_⟩
    · exact HO1b.out.within (lo := w.heap.size) (hi := w.heap.size + 3) (by repeat (first | exact Within.refl _ _ _ | refine Within.trans ?_ (Within.setCell _ (by simp <;> omega) (by simp <;> omega) _))) (fun _ => .inr (by omega))
    · exact HO2.out.within (lo := w.heap.size) (hi := w.heap.size + 3) (by repeat (first | exact Within.refl _ _ _ | refine Within.trans ?_ (Within.setCell _ (by simp <;> omega) (by simp <;> omega) _))) (fun _ => .inr (by omega))
    · exact (by repeat (first | exact Below.refl _ _ | exact Hid.out (by assumption) | refine Below.setCell ?_ (by simp <;> omega) _ | refine Below.alloc ?_ (by simp <;> omega) _ | refine Below.drew ?_ | refine below_drewN ?_ _))

set_option maxHeartbeats 1000000 in
/-- Equal machines compare as equal. -/
theorem eqPlain_any (s l : Int) (A B A2 B2 : Option Addr) (n c m d c2 d2 : Nat) (f : Nat → Int) (g : Nat → Bool) (w : World) (hn : n ≤ 4611686018427387904) (hm : m ≤ 4611686018427387904)
    (hA : Cells w A n (fun i => .int .i64 (f i))) (hB : Cells w B m (fun i => .bool (g i))) (hA2 : Cells w A2 n (fun i => .int .i64 (f i))) (hB2 : Cells w B2 m (fun i => .bool (g i))) :
    Calls Try.prog 111 #[.agg #[.int .i64 s, .int .i64 l, .slice A n c, .slice B m d], .agg #[.int .i64 s, .int .i64 l, .slice A2 n c2, .slice B2 m d2]] w fun e w' => e = .returned (.bool true) ∧ Below w.heap.size w w' := by
  have hA := Lib.hid hA
  have hB := Lib.hid hB
  have hA2 := Lib.hid hA2
  have hB2 := Lib.hid hB2
  have HI := Lib.hid (fun W h1 h2 => eqI_any A A2 n c c2 f W hn h1 h2)
  have HJ := Lib.hid (fun W h1 h2 => eqB_any B B2 m d d2 g W hm h1 h2)
  go_enter Try.func111, Try.ntmps111
  go_wp2_with fail
  refine (HI.out _ (hA.out.below (by repeat (first | exact Below.refl _ _ | exact Hid.out (by assumption) | refine Below.setCell ?_ (by simp <;> omega) _ | refine Below.alloc ?_ (by simp <;> omega) _ | refine Below.drew ?_ | refine below_drewN ?_ _))) (hA2.out.below (by repeat (first | exact Below.refl _ _ | exact Hid.out (by assumption) | refine Below.setCell ?_ (by simp <;> omega) _ | refine Below.alloc ?_ (by simp <;> omega) _ | refine Below.drew ?_ | refine below_drewN ?_ _)))).mono ?_
  rintro e w1 ⟨rfl, m1, rfl⟩
  go_wp2_with fail
  refine (HJ.out _ (hB.out.below (by repeat (first | exact Below.refl _ _ | exact Hid.out (by assumption) | refine Below.setCell ?_ (by simp <;> omega) _ | refine Below.alloc ?_ (by simp <;> omega) _ | refine Below.drew ?_ | refine below_drewN ?_ _))) (hB2.out.below (by repeat (first | exact Below.refl _ _ | exact Hid.out (by assumption) | refine Below.setCell ?_ (by simp <;> omega) _ | refine Below.alloc ?_ (by simp <;> omega) _ | refine Below.drew ?_ | refine below_drewN ?_ _)))).mono ?_
  rintro e w2 ⟨rfl, m2, rfl⟩
  go_wp2_with fail
  go_ret
  exact ⟨rfl, (by repeat (first | exact Below.refl _ _ | exact Hid.out (by assumption) | refine Below.setCell ?_ (by simp <;> omega) _ | refine Below.alloc ?_ (by simp <;> omega) _ | refine Below.drew ?_ | refine below_drewN ?_ _))⟩

end Go.Proofs.Ytfpombhhnojjhaa
