/- Zone in memory: measured, copied, compared, marked, held. -/
import Derived.Test.YtfpombhhnojjhaaOwn
import Derived.Test.YtfpombhhnojjhaaBoxP
import Derived.Test.YtfpombhhnojjhaaBoxN
import Derived.Test.YtfpombhhnojjhaaBCell
set_option linter.unusedVariables false
namespace Go.Proofs.Ytfpombhhnojjhaa
open Go.RowKit

theorem szZone_yes (s : Int) (A : Option Addr) (n c : Nat) (L : Int) (w : World) (hL : L ≤ 1048576) (h : (n : Int) ≤ L) :
    Calls Try.prog 22 #[.agg #[.int .i64 s, .slice A n c], .int .i64 L] w fun e w' => e = .returned (.int .i64 (L - n)) ∧ Below w.heap.size w w' := by
  have d1 : ¬ L - (n : Int) < 0 := by omega
  go_enter Try.func22, Try.ntmps22
  go_wp2
  go_ret
  exact ⟨rfl, (Below.refl _ _).alloc (Nat.le_refl _) _⟩
theorem szZone_no (s : Int) (A : Option Addr) (n c : Nat) (L : Int) (w : World) (hL0 : 0 ≤ L) (hL : L ≤ 1048576) (hn : n ≤ 9223372036854775807) (h : ¬ (n : Int) ≤ L) :
    Calls Try.prog 22 #[.agg #[.int .i64 s, .slice A n c], .int .i64 L] w fun e w' => e = .returned (.int .i64 (-1)) ∧ Below w.heap.size w w' := by
  have d1 : L - (n : Int) < 0 := by omega
  go_enter Try.func22, Try.ntmps22
  go_wp2
  go_ret
  exact ⟨rfl, (Below.refl _ _).alloc (Nat.le_refl _) _⟩

set_option maxHeartbeats 8000000 in
theorem toZone_any (s : Int) (A : Option Addr) (n c : Nat) (f : Nat → Int) (w : World) (hn : n ≤ 1048576) (hA : Cells w A n (fun i => .int .i64 (f i))) :
    Calls Try.prog 24 #[.agg #[.int .i64 s, .slice A n c]] w fun e w' => ∃ g1, e = .returned (.agg #[.int .i64 s, .slice (some ⟨g1, 0, none⟩) n n]) ∧
      w.heap.size ≤ g1 ∧ g1 < w'.heap.size ∧ OwnC w' g1 (some ⟨g1, 0, none⟩) n (fun i => .int .i64 (f i)) ∧ Below w.heap.size w w' := by
  have hA := Lib.hid hA
  have HI1 := Lib.hid (fun W k => toI_any A n c f W hn k)
  go_enter Try.func24, Try.ntmps24
  go_wp2_with fail
  refine (HI1.out _ (hA.out.below (by repeat (first | with_reducible exact Below.refl _ _ | exact Hid.out (by with_reducible assumption) | refine Below.setCell ?_ (by simp <;> omega) _ | refine below_alloc ?_ _ | refine Below.alloc ?_ (by simp <;> omega) _ | refine Below.drew ?_ | refine below_drewN ?_ _)))).mono ?_
  rintro e w1 ⟨rfl, hs1, ho1, hb1⟩
  have HB1 := Lib.hid (show Below w.heap.size w w1 from Below.trans (by repeat (first | with_reducible exact Below.refl _ _ | exact Hid.out (by with_reducible assumption) | refine Below.setCell ?_ (by simp <;> omega) _ | refine below_alloc ?_ _ | refine Below.alloc ?_ (by simp <;> omega) _ | refine Below.drew ?_ | refine below_drewN ?_ _)) (hb1.mono (by simp <;> omega)))
  obtain ⟨hc1, hf1⟩ := bcell hb1
  simp only [World.size_alloc] at ho1
  have hz1 : w.heap.size + 3 < w1.heap.size := by simp at hs1; omega
  have HO1_1 := Lib.hid ho1
  clear ho1 hb1 hs1
  go_wp2_with fail
  have hk : ∀ j, j < 2 → ∃ v, w1.cell? ⟨w.heap.size + 1, j, none⟩ = some v := fun j hj => by
    rw [hc1 _ _ (by simp <;> omega)]
    have : j = 0 ∨ j = 1 := by omega
    rcases this with rfl | rfl <;> simp [go_sem]
  obtain ⟨u0, k0⟩ := hk 0 (by omega)
  obtain ⟨u1, k1⟩ := hk 1 (by omega)
  clear hk hc1 hf1
  refine bodyPost_ret (v := .agg #[.int .i64 s, .slice (some ⟨w.heap.size + 1 + 1 + 1, 0, none⟩) n n]) ?r1 rfl ?r2
  case r1 => simp [results, Try.results24, go_sem, k0, k1]
  case r2 =>
    refine ⟨w.heap.size + 1 + 1 + 1, rfl, by omega, by simp <;> omega, ?_, ?_⟩
    · refine OwnC.within (lo := w.heap.size) (hi := w.heap.size + 3) HO1_1.out ?_ (fun _ => .inr (by omega))
      exact (by repeat (first | with_reducible exact Within.refl _ _ _ | refine Within.trans ?_ (Within.setCell _ (by first | (dsimp only; omega) | omega) (by first | (dsimp only; omega) | omega) _)))
    · exact (by repeat (first | with_reducible exact Below.refl _ _ | exact Hid.out (by with_reducible assumption) | refine Below.setCell ?_ (by simp <;> omega) _ | refine below_alloc ?_ _ | refine Below.alloc ?_ (by simp <;> omega) _ | refine Below.drew ?_ | refine below_drewN ?_ _))

set_option maxHeartbeats 1000000 in
theorem eqZone_any (s : Int) (A A2 : Option Addr) (n c c2 : Nat) (f : Nat → Int) (w : World) (hn : n ≤ 4611686018427387904)
    (hA : Cells w A n (fun i => .int .i64 (f i))) (hA2 : Cells w A2 n (fun i => .int .i64 (f i))) :
    Calls Try.prog 26 #[.agg #[.int .i64 s, .slice A n c], .agg #[.int .i64 s, .slice A2 n c2]] w fun e w' => e = .returned (.bool true) ∧ Below w.heap.size w w' := by
  have hA := Lib.hid hA
  have hA2 := Lib.hid hA2
  have HI1 := Lib.hid (fun W h1 h2 => eqI_any A A2 n c c2 f W hn h1 h2)
  go_enter Try.func26, Try.ntmps26
  go_wp2_with fail
  refine (HI1.out _ (hA.out.below (by repeat (first | with_reducible exact Below.refl _ _ | exact Hid.out (by with_reducible assumption) | refine Below.setCell ?_ (by simp <;> omega) _ | refine below_alloc ?_ _ | refine Below.alloc ?_ (by simp <;> omega) _ | refine Below.drew ?_ | refine below_drewN ?_ _))) (hA2.out.below (by repeat (first | with_reducible exact Below.refl _ _ | exact Hid.out (by with_reducible assumption) | refine Below.setCell ?_ (by simp <;> omega) _ | refine below_alloc ?_ _ | refine Below.alloc ?_ (by simp <;> omega) _ | refine Below.drew ?_ | refine below_drewN ?_ _)))).mono ?_
  rintro e w1 ⟨rfl, m1, rfl⟩
  go_wp2_with fail
  go_ret
  exact ⟨rfl, (by repeat (first | with_reducible exact Below.refl _ _ | exact Hid.out (by with_reducible assumption) | refine Below.setCell ?_ (by simp <;> omega) _ | refine below_alloc ?_ _ | refine Below.alloc ?_ (by simp <;> omega) _ | refine Below.drew ?_ | refine below_drewN ?_ _))⟩

set_option maxHeartbeats 1000000 in
theorem markZone_any (s : Int) (A : Option Addr) (n c g1 : Nat) (U1 : Nat → Value) (k0 : Int) (w : World) (h0 : 0 ≤ k0) (h1 : k0 + n ≤ 4611686018427387904) (hA : OwnC w g1 A n U1) :
    Calls Try.prog 27 #[.agg #[.int .i64 s, .slice A n c], .int .i64 k0] w fun e w' => e = .returned (.int .i64 (k0 + n)) ∧ OwnC w' g1 A n (fun i => .int .i64 (k0 + i)) ∧
      ∀ lo hi, lo ≤ g1 → (0 < n → g1 < hi) → Within lo hi w w' := by
  have HA1_0 := Lib.hid hA
  have HI1 := Lib.hid (fun W h => markI_any A n c g1 U1 (k0) W (by omega) (by omega) h)
  clear hA
  go_enter Try.func27, Try.ntmps27
  go_wp2_with fail
  refine (HI1.out _ (HA1_0.out.below (by repeat (first | with_reducible exact Below.refl _ _ | exact Hid.out (by with_reducible assumption) | refine Below.setCell ?_ (by simp <;> omega) _ | refine below_alloc ?_ _ | refine Below.alloc ?_ (by simp <;> omega) _ | refine Below.drew ?_ | refine below_drewN ?_ _)))).mono ?_
  rintro e w1 ⟨rfl, ho, hw⟩
  have HO1_1 := Lib.hid ho
  have HW1 := Lib.hid hw
  clear ho hw
  go_wp2_with fail
  go_ret
  refine ⟨rfl, HO1_1.out, fun lo hi q0 q1 => ?_⟩
  exact (Within.of_below (Below.alloc (Below.refl _ _) (Nat.le_refl _) _)).trans (HW1.out lo hi q0 q1)

set_option maxHeartbeats 1000000 in
theorem heldZone_any (s : Int) (A : Option Addr) (n c : Nat) (k0 : Int) (w : World) (h0 : 0 ≤ k0) (h1 : k0 + n ≤ 4611686018427387904) (hA : Cells w A n (fun i => .int .i64 (k0 + i))) :
    Calls Try.prog 28 #[.agg #[.int .i64 s, .slice A n c], .int .i64 k0] w fun e w' => e = .returned (.int .i64 (k0 + n)) ∧ Below w.heap.size w w' := by
  have HA1 := Lib.hid hA
  have HI1 := Lib.hid (fun W h => heldI_any A n c (k0) W (by omega) (by omega) h)
  have d1 : ¬ k0 + (n : Int) < 0 := by omega
  clear hA
  go_enter Try.func28, Try.ntmps28
  go_wp2_with fail
  refine (HI1.out _ (HA1.out.below (by repeat (first | with_reducible exact Below.refl _ _ | exact Hid.out (by with_reducible assumption) | refine Below.setCell ?_ (by simp <;> omega) _ | refine below_alloc ?_ _ | refine Below.alloc ?_ (by simp <;> omega) _ | refine Below.drew ?_ | refine below_drewN ?_ _)))).mono ?_
  rintro e w1 ⟨rfl, m1, rfl⟩
  go_wp2_with fail
  go_ret
  exact ⟨rfl, (by repeat (first | with_reducible exact Below.refl _ _ | exact Hid.out (by with_reducible assumption) | refine Below.setCell ?_ (by simp <;> omega) _ | refine below_alloc ?_ _ | refine Below.alloc ?_ (by simp <;> omega) _ | refine Below.drew ?_ | refine below_drewN ?_ _))⟩
end Go.Proofs.Ytfpombhhnojjhaa
