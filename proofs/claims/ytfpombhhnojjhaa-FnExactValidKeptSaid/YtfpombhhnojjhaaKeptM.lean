/- Machines with names in memory: measured, copied, compared. -/
import Derived.Test.YtfpombhhnojjhaaPlainM
import Derived.Test.YtfpombhhnojjhaaBoxP
import Derived.Test.YtfpombhhnojjhaaBoxN
import Derived.Test.YtfpombhhnojjhaaBCell
set_option linter.unusedVariables false
namespace Go.Proofs.Ytfpombhhnojjhaa
open Go.RowKit

theorem szKept_yes (b : ByteArray) (s l : Int) (A B : Option Addr) (n c m d : Nat) (L : Int) (w : World) (hL : L ≤ 1048576) (h : (b.size : Int) + n + m ≤ L) :
    Calls Try.prog 40 #[.agg #[.string b, .int .i64 s, .int .i64 l, .slice A n c, .slice B m d], .int .i64 L] w fun e w' => e = .returned (.int .i64 (L - b.size - n - m)) ∧ Below w.heap.size w w' := by
  have HZ := Lib.hid (fun W => szPlain_yes s l A B n c m d (L - b.size) W (by omega) (by omega))
  have d1 : ¬ L - (b.size : Int) < 0 := by omega
  have d2 : ¬ L - (b.size : Int) - n - m < 0 := by omega
  go_enter Try.func40, Try.ntmps40
  go_wp2_with fail
  refine (HZ.out _).mono ?_
  rintro e w1 ⟨rfl, hb⟩
  have N1 := Lib.hid (show Below w.heap.size w w1 from Below.trans (by repeat (first | with_reducible exact Below.refl _ _ | exact Hid.out (by with_reducible assumption) | refine Below.setCell ?_ (by simp <;> omega) _ | refine below_alloc ?_ _ | refine Below.alloc ?_ (by simp <;> omega) _ | refine Below.drew ?_ | refine below_drewN ?_ _)) (hb.mono (by simp)))
  clear hb
  go_wp2_with fail
  go_ret
  exact ⟨rfl, N1.out⟩
theorem szKept_no (b : ByteArray) (s l : Int) (A B : Option Addr) (n c m d : Nat) (L : Int) (w : World) (hL0 : 0 ≤ L) (hL : L ≤ 1048576) (hb0 : b.size ≤ 9223372036854775807) (hn : n ≤ 9223372036854775807) (hm : m ≤ 9223372036854775807) (h : ¬ (b.size : Int) + n + m ≤ L) :
    Calls Try.prog 40 #[.agg #[.string b, .int .i64 s, .int .i64 l, .slice A n c, .slice B m d], .int .i64 L] w fun e w' => e = .returned (.int .i64 (-1)) ∧ Below w.heap.size w w' := by
  by_cases q : (b.size : Int) ≤ L
  · have HZ := Lib.hid (fun W => szPlain_no s l A B n c m d (L - b.size) W (by omega) (by omega) hn hm (by omega))
    have d1 : ¬ L - (b.size : Int) < 0 := by omega
    go_enter Try.func40, Try.ntmps40
    go_wp2_with fail
    refine (HZ.out _).mono ?_
    rintro e w1 ⟨rfl, hb⟩
    have N1 := Lib.hid (show Below w.heap.size w w1 from Below.trans (by repeat (first | with_reducible exact Below.refl _ _ | exact Hid.out (by with_reducible assumption) | refine Below.setCell ?_ (by simp <;> omega) _ | refine below_alloc ?_ _ | refine Below.alloc ?_ (by simp <;> omega) _ | refine Below.drew ?_ | refine below_drewN ?_ _)) (hb.mono (by simp)))
    clear hb
    go_wp2_with fail
    go_ret
    exact ⟨rfl, N1.out⟩
  · have d1 : L - (b.size : Int) < 0 := by omega
    go_enter Try.func40, Try.ntmps40
    go_wp2_with fail
    go_ret
    exact ⟨rfl, (by repeat (first | with_reducible exact Below.refl _ _ | exact Hid.out (by with_reducible assumption) | refine Below.setCell ?_ (by simp <;> omega) _ | refine below_alloc ?_ _ | refine Below.alloc ?_ (by simp <;> omega) _ | refine Below.drew ?_ | refine below_drewN ?_ _))⟩
set_option maxHeartbeats 4000000 in
theorem toKept_any (b : ByteArray) (s l : Int) (A B : Option Addr) (n c m d : Nat) (f : Nat → Int) (g : Nat → Bool) (w : World) (hn : n ≤ 1048576) (hm : m ≤ 1048576) (hA : Cells w A n (fun i => .int .i64 (f i))) (hB : Cells w B m (fun i => .bool (g i))) :
    Calls Try.prog 42 #[.agg #[.string b, .int .i64 s, .int .i64 l, .slice A n c, .slice B m d]] w fun e w' => ∃ g1 g2, e = .returned (.agg #[.string b, .int .i64 s, .int .i64 l, .slice (some ⟨g1, 0, none⟩) n n, .slice (some ⟨g2, 0, none⟩) m m]) ∧
      w.heap.size ≤ g1 ∧ g1 < g2 ∧ g2 < w'.heap.size ∧ OwnC w' g1 (some ⟨g1, 0, none⟩) n (fun i => .int .i64 (f i)) ∧ OwnC w' g2 (some ⟨g2, 0, none⟩) m (fun i => .bool (g i)) ∧ Below w.heap.size w w' := by
  have hA := Lib.hid hA
  have hB := Lib.hid hB
  have HT := Lib.hid (fun W y1 y2 => toPlain_any s l A B n c m d f g W hn hm y1 y2)
  go_enter Try.func42, Try.ntmps42
  go_wp2_with fail
  refine (HT.out _ (hA.out.below (by repeat (first | with_reducible exact Below.refl _ _ | exact Hid.out (by with_reducible assumption) | refine Below.setCell ?_ (by simp <;> omega) _ | refine below_alloc ?_ _ | refine Below.alloc ?_ (by simp <;> omega) _ | refine Below.drew ?_ | refine below_drewN ?_ _))) (hB.out.below (by repeat (first | with_reducible exact Below.refl _ _ | exact Hid.out (by with_reducible assumption) | refine Below.setCell ?_ (by simp <;> omega) _ | refine below_alloc ?_ _ | refine Below.alloc ?_ (by simp <;> omega) _ | refine Below.drew ?_ | refine below_drewN ?_ _)))).mono ?_
  rintro e w1 ⟨g1, g2, rfl, q0, q1, q2, o1, o2, hb⟩
  have HB1 := Lib.hid (show Below w.heap.size w w1 from Below.trans (by repeat (first | with_reducible exact Below.refl _ _ | exact Hid.out (by with_reducible assumption) | refine Below.setCell ?_ (by simp <;> omega) _ | refine below_alloc ?_ _ | refine Below.alloc ?_ (by simp <;> omega) _ | refine Below.drew ?_ | refine below_drewN ?_ _)) (hb.mono (by simp <;> omega)))
  obtain ⟨hc1, hf1⟩ := bcellK hb (w.heap.size + 2) (by simp)
  have z1 : w.heap.size + 2 < g1 ∧ g1 < g2 ∧ g2 < w1.heap.size := ⟨by simp at q0; omega, q1, q2⟩
  have O1 := Lib.hid o1
  have O2 := Lib.hid o2
  clear q0 q1 q2 o1 o2 hb
  go_wp2_with fail
  have hk : ∀ j, j < 5 → ∃ v, w1.cell? ⟨w.heap.size + 1, j, none⟩ = some v := fun j hj => by
    rw [hc1 _ _ (by omega)]
    have : j = 0 ∨ j = 1 ∨ j = 2 ∨ j = 3 ∨ j = 4 := by omega
    rcases this with rfl | rfl | rfl | rfl | rfl <;> simp [go_sem]
  obtain ⟨u0, k0⟩ := hk 0 (by omega)
  obtain ⟨u1, k1⟩ := hk 1 (by omega)
  obtain ⟨u2, k2⟩ := hk 2 (by omega)
  obtain ⟨u3, k3⟩ := hk 3 (by omega)
  obtain ⟨u4, k4⟩ := hk 4 (by omega)
  clear hk hc1 hf1
  refine bodyPost_ret (v := .agg #[.string b, .int .i64 s, .int .i64 l, .slice (some ⟨g1, 0, none⟩) n n, .slice (some ⟨g2, 0, none⟩) m m]) ?r1 rfl ?r2
  case r1 => simp [results, Try.results42, go_sem, k0, k1, k2, k3, k4]
  case r2 =>
    have HX : ∀ W : World, Within w.heap.size (w.heap.size + 3) w1 W → g2 < W.heap.size ∧ OwnC W g1 (some ⟨g1, 0, none⟩) n (fun i => .int .i64 (f i)) ∧ OwnC W g2 (some ⟨g2, 0, none⟩) m (fun i => .bool (g i)) ∧ Below w.heap.size w W := fun W h =>
      ⟨Nat.lt_of_lt_of_le z1.2.2 h.size, O1.out.within h (fun _ => .inr (by omega)), O2.out.within h (fun _ => .inr (by omega)), HB1.out.trans (h.below (Nat.le_refl _) HB1.out.size)⟩
    refine ⟨g1, g2, rfl, by omega, by omega, HX _ ?_⟩
    exact (by repeat (first | with_reducible exact Within.refl _ _ _ | refine Within.trans ?_ (Within.setCell _ (by first | (dsimp only; omega) | omega) (by first | (dsimp only; omega) | omega) _)))
set_option maxHeartbeats 2000000 in
theorem eqKept_any (b : ByteArray) (s l : Int) (A B A2 B2 : Option Addr) (n c m d c2 d2 : Nat) (f : Nat → Int) (g : Nat → Bool) (w : World) (hn : n ≤ 4611686018427387904) (hm : m ≤ 4611686018427387904) (hA : Cells w A n (fun i => .int .i64 (f i))) (hB : Cells w B m (fun i => .bool (g i))) (hA2 : Cells w A2 n (fun i => .int .i64 (f i))) (hB2 : Cells w B2 m (fun i => .bool (g i))) :
    Calls Try.prog 44 #[.agg #[.string b, .int .i64 s, .int .i64 l, .slice A n c, .slice B m d], .agg #[.string b, .int .i64 s, .int .i64 l, .slice A2 n c2, .slice B2 m d2]] w fun e w' => e = .returned (.bool true) ∧ Below w.heap.size w w' := by
  have hA := Lib.hid hA
  have hB := Lib.hid hB
  have hA2 := Lib.hid hA2
  have hB2 := Lib.hid hB2
  have HE := Lib.hid (fun W y1 y2 y3 y4 => eqPlain_any s l A B A2 B2 n c m d c2 d2 f g W hn hm y1 y2 y3 y4)
  go_enter Try.func44, Try.ntmps44
  go_wp2_with fail
  try go_quiet (fail)
  try go_wp2_with fail
  refine (HE.out _ (hA.out.below (by repeat (first | with_reducible exact Below.refl _ _ | exact Hid.out (by with_reducible assumption) | refine Below.setCell ?_ (by simp <;> omega) _ | refine below_alloc ?_ _ | refine Below.alloc ?_ (by simp <;> omega) _ | refine Below.drew ?_ | refine below_drewN ?_ _))) (hB.out.below (by repeat (first | with_reducible exact Below.refl _ _ | exact Hid.out (by with_reducible assumption) | refine Below.setCell ?_ (by simp <;> omega) _ | refine below_alloc ?_ _ | refine Below.alloc ?_ (by simp <;> omega) _ | refine Below.drew ?_ | refine below_drewN ?_ _))) (hA2.out.below (by repeat (first | with_reducible exact Below.refl _ _ | exact Hid.out (by with_reducible assumption) | refine Below.setCell ?_ (by simp <;> omega) _ | refine below_alloc ?_ _ | refine Below.alloc ?_ (by simp <;> omega) _ | refine Below.drew ?_ | refine below_drewN ?_ _))) (hB2.out.below (by repeat (first | with_reducible exact Below.refl _ _ | exact Hid.out (by with_reducible assumption) | refine Below.setCell ?_ (by simp <;> omega) _ | refine below_alloc ?_ _ | refine Below.alloc ?_ (by simp <;> omega) _ | refine Below.drew ?_ | refine below_drewN ?_ _)))).mono ?_
  rintro e w1 ⟨rfl, hb⟩
  have N1 := Lib.hid (show Below w.heap.size w w1 from Below.trans (by repeat (first | with_reducible exact Below.refl _ _ | exact Hid.out (by with_reducible assumption) | refine Below.setCell ?_ (by simp <;> omega) _ | refine below_alloc ?_ _ | refine Below.alloc ?_ (by simp <;> omega) _ | refine Below.drew ?_ | refine below_drewN ?_ _)) (hb.mono (by simp <;> omega)))
  clear hb
  go_wp2_with fail
  go_ret
  exact ⟨rfl, N1.out⟩
end Go.Proofs.Ytfpombhhnojjhaa
