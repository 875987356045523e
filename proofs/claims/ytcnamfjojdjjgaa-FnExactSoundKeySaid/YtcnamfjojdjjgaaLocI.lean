/- Alignments of parts: the gain up to a cell, as the program tells it. -/
import Derived.Test.YtcnamfjojdjjgaaLocM
import Derived.Lib.MinMax
set_option linter.unusedVariables false
namespace Go.Proofs.Ytcnamfjojdjjgaa
open Go.RowKit
theorem run_max4 {P : Program} (w : World) (ts : Array TypeId) (t : TypeId) (x y z u : Int) :
    (Builtin.max_ ts t #[.int .i64 x, .int .i64 y, .int .i64 z, .int .i64 u]).run P w = .ok (.int .i64 (max (max (max x y) z) u)) w := by
  have e : ∀ x y : Int, (if y > x then y else x) = max x y := fun x y => by
    rw [Int.max_def]
    split <;> split <;> omega
  simp [Builtin.max_, Builtin.max2, e]
theorem rowI_any (G n c r z : Nat) (w : World) (h : r * z + z ≤ c) (hz : 0 < z) (hc : r * z + z ≤ 1048576) :
    Calls Try.prog 78 #[.agg #[.slice (some ⟨G, 0, none⟩) n c, .int .i64 z], .int .i64 r] w fun e w' => e = .returned (.slice (some ⟨G, r * z, none⟩) z z) ∧ Below w.heap.size w w' := by
  have e1 : ((r : Int) * z) = ((r * z : Nat) : Int) := (Int.natCast_mul r z).symm
  have e2 : ((r : Int) + 1) * z = ((r * z + z : Nat) : Int) := by rw [Int.add_mul, e1, Int.one_mul]; omega
  have hr : r ≤ 1048576 := Nat.le_trans (Nat.le_mul_of_pos_right r hz) (by omega)
  generalize hp : r * z = p at *
  have w1 : IntKind.i64.wrap ((r : Int) * z) = (p : Int) := by rw [e1, IntKind.wrap_i64]; omega
  have w2 : IntKind.i64.wrap (((r : Int) + 1) * z) = ((p + z : Nat) : Int) := by rw [e2, IntKind.wrap_i64]; omega
  have w3 : IntKind.i64.wrap ((r : Int) + 1) = (r : Int) + 1 := by rw [IntKind.wrap_i64]; omega
  clear e1 e2
  go_enter Try.func78, Try.ntmps78
  go_wp2_with fail
  go_ret
  exact ⟨by show Ending.returned (.slice (some _) (p + z - p) (p + z - p)) = _; rw [Nat.add_sub_cancel_left], (by repeat (first | exact Below.refl _ _ | exact Hid.out (by assumption) | refine below_alloc ?_ _ | refine Below.setCell ?_ (by simp <;> omega) _ | refine Below.alloc ?_ (by simp <;> omega) _ | refine Below.drew ?_ | refine below_drewN ?_ _))⟩
theorem pairGain_any (a b : ByteArray) (sm df op mo : Int) (i j : Nat) (w : World) (hi : i < a.size) (hj : j < b.size) (hd : -1000000 ≤ df ∧ df ≤ 1000000) :
    Calls Try.prog 77 #[.agg #[.string a, .string b, .int .i64 sm, .int .i64 df, .int .i64 op, .int .i64 mo], .int .i64 i, .int .i64 j] w fun e w' => e = .returned (.int .i64 (gainP (bx a) (bx b) sm df i j)) ∧ Below w.heap.size w w' := by
  have w1 : IntKind.i64.wrap (-df) = -df := by rw [IntKind.wrap_i64]; omega
  by_cases h : bx a i = bx b j
  · have hb : ((a[i].toNat : Int) == (b[j].toNat : Int)) = true := by rw [bx_eq hi, bx_eq hj, h]; simp
    rw [show gainP (bx a) (bx b) sm df i j = sm by unfold gainP; rw [if_pos h]]
    clear h
    go_enter Try.func77, Try.ntmps77
    go_wp2_with fail
    go_quiet (fail)
    go_wp2_with fail
    go_ret
    exact ⟨rfl, (by repeat (first | exact Below.refl _ _ | exact Hid.out (by assumption) | refine below_alloc ?_ _ | refine Below.setCell ?_ (by simp <;> omega) _ | refine Below.alloc ?_ (by simp <;> omega) _ | refine Below.drew ?_ | refine below_drewN ?_ _))⟩
  · have hb : ((a[i].toNat : Int) == (b[j].toNat : Int)) = false := by rw [bx_eq hi, bx_eq hj]; simp; omega
    rw [show gainP (bx a) (bx b) sm df i j = -df by unfold gainP; rw [if_neg h]]
    clear h
    go_enter Try.func77, Try.ntmps77
    go_wp2_with fail
    go_quiet (fail)
    go_wp2_with fail
    go_ret
    exact ⟨rfl, (by repeat (first | exact Below.refl _ _ | exact Hid.out (by assumption) | refine below_alloc ?_ _ | refine Below.setCell ?_ (by simp <;> omega) _ | refine Below.alloc ?_ (by simp <;> omega) _ | refine Below.drew ?_ | refine below_drewN ?_ _))⟩
theorem partGain0_any (v g : Value) (a b : ByteArray) (sm df op mo : Int) (G N S i j : Nat) (w : World) (h : i = 0 ∨ j = 0) :
    Calls Try.prog 53 #[.agg #[.string a, .string b, .int .i64 sm, .int .i64 df, .int .i64 op, .int .i64 mo], .agg #[.slice (some ⟨G, 0, none⟩) N N, .int .i64 S], .int .i64 i, .int .i64 j] w fun e w' => e = .returned (.int .i64 0) ∧ Below w.heap.size w w' := by
  by_cases hi : i = 0
  · have d1 : ((i : Int) == 0) = true := by simp; omega
    clear h hi
    go_enter Try.func53, Try.ntmps53
    go_wp2_with fail
    go_ret
    exact ⟨rfl, (by repeat (first | exact Below.refl _ _ | exact Hid.out (by assumption) | refine below_alloc ?_ _ | refine Below.setCell ?_ (by simp <;> omega) _ | refine Below.alloc ?_ (by simp <;> omega) _ | refine Below.drew ?_ | refine below_drewN ?_ _))⟩
  · have d1 : ((i : Int) == 0) = false := by simp; omega
    have d2 : ((j : Int) == 0) = true := by simp; omega
    clear h hi
    go_enter Try.func53, Try.ntmps53
    go_wp2_with fail
    go_ret
    exact ⟨rfl, (by repeat (first | exact Below.refl _ _ | exact Hid.out (by assumption) | refine below_alloc ?_ _ | refine Below.setCell ?_ (by simp <;> omega) _ | refine Below.alloc ?_ (by simp <;> omega) _ | refine Below.drew ?_ | refine below_drewN ?_ _))⟩
set_option maxRecDepth 100000 in
set_option maxHeartbeats 4000000 in
theorem partGain_any (a b : ByteArray) (sm df op mo : Int) (G N S i j : Nat) (xd xp : Addr) (f1 f2 f3 : Int) (w : World)
    (hd : -1000000 ≤ df ∧ df ≤ 1000000) (hg : -1000000 ≤ gainP (bx a) (bx b) sm df i j ∧ gainP (bx a) (bx b) sm df i j ≤ 1000000) (hm : 0 ≤ mo ∧ mo ≤ 1000000) (h1 : 0 ≤ f1 ∧ f1 ≤ 1000000) (h2 : 0 ≤ f2 ∧ f2 ≤ 1000000) (h3 : 0 ≤ f3 ∧ f3 ≤ 1000000)
    (hi : i < a.size) (hj : j < b.size) (ha : a.size ≤ 48) (hb : b.size ≤ 48) (hjS : j + 1 < S) (hS : S ≤ 49)
    (hrow : ∀ W, Calls Try.prog 78 #[.agg #[.slice (some ⟨G, 0, none⟩) N N, .int .i64 S], .int .i64 i] W fun e w' => e = .returned (.slice (some xd) S S) ∧ Below W.heap.size W w')
    (hrow1 : ∀ W, Calls Try.prog 78 #[.agg #[.slice (some ⟨G, 0, none⟩) N N, .int .i64 S], .int .i64 ((i : Int) + 1)] W fun e w' => e = .returned (.slice (some xp) S S) ∧ Below W.heap.size W w')
    (hc1 : w.cell? (xd.add j) = some (.int .i64 f1)) (hc2 : w.cell? ⟨xd.block, xd.off + (j + 1), none⟩ = some (.int .i64 f2)) (hc3 : w.cell? (xp.add j) = some (.int .i64 f3)) :
    Calls Try.prog 53 #[.agg #[.string a, .string b, .int .i64 sm, .int .i64 df, .int .i64 op, .int .i64 mo], .agg #[.slice (some ⟨G, 0, none⟩) N N, .int .i64 S], .int .i64 ((i + 1 : Nat) : Int), .int .i64 ((j + 1 : Nat) : Int)] w fun e w' =>
      e = .returned (.int .i64 (max (max (max 0 (f1 + gainP (bx a) (bx b) sm df i j)) (f2 - mo)) (f3 - mo))) ∧ Below w.heap.size w w' := by
  have d1 : (j : Int) < S := by omega
  have d2 : (j : Int) + 1 < S := by omega
  have d3 : (0 : Int) ≤ (j : Int) + 1 := by omega
  have d4 : ((j : Int) + 1).toNat = j + 1 := by omega
  have e1 : ((i : Int) + 1 == 0) = false := by simp; omega
  have e2 : ((j : Int) + 1 == 0) = false := by simp; omega
  have dwi : IntKind.i64.wrap (i : Int) = (i : Int) := by rw [IntKind.wrap_i64]; omega
  have dwj : IntKind.i64.wrap (j : Int) = (j : Int) := by rw [IntKind.wrap_i64]; omega
  have HP := Lib.hid (fun W => pairGain_any a b sm df op mo i j W hi hj hd)
  have w1 : IntKind.i64.wrap (f1 + gainP (bx a) (bx b) sm df i j) = f1 + gainP (bx a) (bx b) sm df i j := by rw [IntKind.wrap_i64]; omega
  have w2 : IntKind.i64.wrap (f2 - mo) = f2 - mo := by rw [IntKind.wrap_i64]; omega
  have w3 : IntKind.i64.wrap (f3 - mo) = f3 - mo := by rw [IntKind.wrap_i64]; omega
  generalize gainP (bx a) (bx b) sm df i j = gp at *
  have HRow := Lib.hid hrow
  have HRow1 := Lib.hid hrow1
  have hmx := fun ts t W => run_max4 (P := Try.prog) W ts t 0 (f1 + gp) (f2 - mo) (f3 - mo)
  generalize max (max (max 0 (f1 + gp)) (f2 - mo)) (f3 - mo) = V at *
  have C1 := Lib.hid hc1
  have C2 := Lib.hid hc2
  have C3 := Lib.hid hc3
  clear hrow hrow1 hc1 hc2 hc3
  go_enter Try.func53, Try.ntmps53
  go_wp2_with fail
  obtain ⟨W0, hW0⟩ : ∃ W0, W0 = (w.alloc (.cells #[.string a, .string b, .int .i64 sm, .int .i64 df, .int .i64 op, .int .i64 mo] 59)).alloc (.cells #[.slice (some ⟨G, 0, none⟩) N N, .int .i64 S] 70) := ⟨_, rfl⟩
  rw [← hW0]
  have N0 := Lib.hid (show Below w.heap.size w W0 by rw [hW0]; exact (by repeat (first | exact Below.refl _ _ | exact Hid.out (by assumption) | refine below_alloc ?_ _ | refine Below.setCell ?_ (by simp <;> omega) _ | refine Below.alloc ?_ (by simp <;> omega) _ | refine Below.drew ?_ | refine below_drewN ?_ _)))
  have S0 : let W := W0; (W.cell? ⟨w.heap.size, 0, none⟩ = some (.string a) ∧ W.cell? ⟨w.heap.size, 1, none⟩ = some (.string b) ∧ W.cell? ⟨w.heap.size, 2, none⟩ = some (.int .i64 sm) ∧ W.cell? ⟨w.heap.size, 3, none⟩ = some (.int .i64 df) ∧ W.cell? ⟨w.heap.size, 4, none⟩ = some (.int .i64 op) ∧ W.cell? ⟨w.heap.size, 5, none⟩ = some (.int .i64 mo) ∧ W.cell? ⟨w.heap.size + 1, 0, none⟩ = some (.slice (some ⟨G, 0, none⟩) N N) ∧ W.cell? ⟨w.heap.size + 1, 1, none⟩ = some (.int .i64 S) ∧ W.cell? (xd.add j) = some (.int .i64 f1) ∧ W.cell? ⟨xd.block, xd.off + (j + 1), none⟩ = some (.int .i64 f2) ∧ W.cell? (xp.add j) = some (.int .i64 f3)) := by
    have c := fun (x : Addr) (v : Value) (h : w.cell? x = some v) => (N0.out.cell (World.block_lt_of_cell? _ _ h)).trans h
    refine ⟨?_, ?_, ?_, ?_, ?_, ?_, ?_, ?_, c _ _ C1.out, c _ _ C2.out, c _ _ C3.out⟩ <;> rw [hW0] <;> simp [go_sem]
  have HKeep := Lib.hid (show ∀ W, Below W0.heap.size W0 W → (W.cell? ⟨w.heap.size, 0, none⟩ = some (.string a) ∧ W.cell? ⟨w.heap.size, 1, none⟩ = some (.string b) ∧ W.cell? ⟨w.heap.size, 2, none⟩ = some (.int .i64 sm) ∧ W.cell? ⟨w.heap.size, 3, none⟩ = some (.int .i64 df) ∧ W.cell? ⟨w.heap.size, 4, none⟩ = some (.int .i64 op) ∧ W.cell? ⟨w.heap.size, 5, none⟩ = some (.int .i64 mo) ∧ W.cell? ⟨w.heap.size + 1, 0, none⟩ = some (.slice (some ⟨G, 0, none⟩) N N) ∧ W.cell? ⟨w.heap.size + 1, 1, none⟩ = some (.int .i64 S) ∧ W.cell? (xd.add j) = some (.int .i64 f1) ∧ W.cell? ⟨xd.block, xd.off + (j + 1), none⟩ = some (.int .i64 f2) ∧ W.cell? (xp.add j) = some (.int .i64 f3)) from fun W hW => by
    obtain ⟨x0, x1, x2, x3, x4, x5, x6, x7, x8, x9, xa⟩ := S0
    have c := fun (x : Addr) (v : Value) (h : W0.cell? x = some v) => (hW.cell (World.block_lt_of_cell? _ _ h)).trans h
    exact ⟨c _ _ x0, c _ _ x1, c _ _ x2, c _ _ x3, c _ _ x4, c _ _ x5, c _ _ x6, c _ _ x7, c _ _ x8, c _ _ x9, c _ _ xa⟩)
  clear S0 hW0 C1 C2 C3
  go_region_held3 (fun W => W.cell? ⟨w.heap.size, 0, none⟩ = some (.string a) ∧ W.cell? ⟨w.heap.size, 1, none⟩ = some (.string b) ∧ W.cell? ⟨w.heap.size, 2, none⟩ = some (.int .i64 sm) ∧ W.cell? ⟨w.heap.size, 3, none⟩ = some (.int .i64 df) ∧ W.cell? ⟨w.heap.size, 4, none⟩ = some (.int .i64 op) ∧ W.cell? ⟨w.heap.size, 5, none⟩ = some (.int .i64 mo) ∧ W.cell? ⟨w.heap.size + 1, 0, none⟩ = some (.slice (some ⟨G, 0, none⟩) N N) ∧ W.cell? ⟨w.heap.size + 1, 1, none⟩ = some (.int .i64 S) ∧ W.cell? (xd.add j) = some (.int .i64 f1) ∧ W.cell? ⟨xd.block, xd.off + (j + 1), none⟩ = some (.int .i64 f2) ∧ W.cell? (xp.add j) = some (.int .i64 f3))
    (exact HKeep.out _ (by repeat (first | exact Below.refl _ _ | exact Hid.out (by assumption) | refine below_alloc ?_ _ | refine Below.setCell ?_ (by simp <;> omega) _ | refine Below.alloc ?_ (by simp <;> omega) _ | refine Below.drew ?_ | refine below_drewN ?_ _)))
    (first
      | (go_at_call 78
         refine (HRow.out _).mono ?_
         rintro e u1 ⟨rfl, hb⟩
         have P1 := Lib.hid (Below.step' (w := W0) (by repeat (first | exact Below.refl _ _ | exact Hid.out (by assumption) | refine below_alloc ?_ _ | refine Below.setCell ?_ (by simp <;> omega) _ | refine Below.alloc ?_ (by simp <;> omega) _ | refine Below.drew ?_ | refine below_drewN ?_ _)) (Nat.le_refl _) hb)
         clear hb)
      | (go_at_call 77
         refine (HP.out _).mono ?_
         rintro e u2 ⟨rfl, hb⟩
         have P2 := Lib.hid (Below.step' (w := W0) P1.out (Nat.le_refl _) hb)
         clear hb))
  go_wp2_with fail
  go_region_held3 (fun W => W.cell? ⟨w.heap.size, 0, none⟩ = some (.string a) ∧ W.cell? ⟨w.heap.size, 1, none⟩ = some (.string b) ∧ W.cell? ⟨w.heap.size, 2, none⟩ = some (.int .i64 sm) ∧ W.cell? ⟨w.heap.size, 3, none⟩ = some (.int .i64 df) ∧ W.cell? ⟨w.heap.size, 4, none⟩ = some (.int .i64 op) ∧ W.cell? ⟨w.heap.size, 5, none⟩ = some (.int .i64 mo) ∧ W.cell? ⟨w.heap.size + 1, 0, none⟩ = some (.slice (some ⟨G, 0, none⟩) N N) ∧ W.cell? ⟨w.heap.size + 1, 1, none⟩ = some (.int .i64 S) ∧ W.cell? (xd.add j) = some (.int .i64 f1) ∧ W.cell? ⟨xd.block, xd.off + (j + 1), none⟩ = some (.int .i64 f2) ∧ W.cell? (xp.add j) = some (.int .i64 f3))
    (first
      | exact HKeep.out _ P4.out
      | exact HKeep.out _ P3.out
      | exact HKeep.out _ (P2.out.trans (Below.mono (show Below u2.heap.size u2 _ from (by repeat (first | exact Below.refl _ _ | exact Hid.out (by assumption) | refine below_alloc ?_ _ | refine Below.setCell ?_ (by simp <;> omega) _ | refine Below.alloc ?_ (by simp <;> omega) _ | refine Below.drew ?_ | refine below_drewN ?_ _))) P2.out.size)))
    (first
      | (go_at_call_of 78 (Value.int .i64 (i : Int))
         refine (HRow.out _).mono ?_
         rintro e u3 ⟨rfl, hb⟩
         have P3 := Lib.hid (Below.step' (w := W0) (P2.out.trans (Below.mono (show Below u2.heap.size u2 _ from (by repeat (first | exact Below.refl _ _ | exact Hid.out (by assumption) | refine below_alloc ?_ _ | refine Below.setCell ?_ (by simp <;> omega) _ | refine Below.alloc ?_ (by simp <;> omega) _ | refine Below.drew ?_ | refine below_drewN ?_ _))) P2.out.size)) (Nat.le_refl _) hb)
         clear hb)
      | (go_at_call 78
         refine (HRow1.out _).mono ?_
         rintro e u4 ⟨rfl, hb⟩
         have P4 := Lib.hid (Below.step' (w := W0) P3.out (Nat.le_refl _) hb)
         clear hb))
  go_wp2_with fail
  go_ret
  exact ⟨rfl, N0.out.trans (Below.mono (P4.out.trans (Below.mono (show Below u4.heap.size u4 _ from (by repeat (first | exact Below.refl _ _ | exact Hid.out (by assumption) | refine below_alloc ?_ _ | refine Below.setCell ?_ (by simp <;> omega) _ | refine Below.alloc ?_ (by simp <;> omega) _ | refine Below.drew ?_ | refine below_drewN ?_ _))) P4.out.size)) N0.out.size)⟩
end Go.Proofs.Ytcnamfjojdjjgaa
