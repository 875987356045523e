/- Whether a change fits at a place: impl's. -/
import Derived.Test.YtehemjcpdblonaaFind
import Derived.ChangeKeysEq
import Derived.Laws.CopyOwn
set_option linter.unusedVariables false
namespace Go.Proofs.Ytehemjcpdblonaa
open Go.RowKit
theorem eqI_run (w : World) (d : Nat) (F G : Nat → Int) (xs ys : Array Value) (is : List Nat) (hx : ∀ i ∈ is, xs[i]? = some (.int .i64 (F i))) (hy : ∀ i ∈ is, ys[i]? = some (.int .i64 (G i))) :
    (Op.eqItems (d + 1) 2 1 xs ys is).run Try.prog w = .ok (is.all fun i => F i == G i) w := by
  induction is with
  | nil => simp [Op.eqItems]
  | cons i is ih =>
    have p1 := run_part_plain (P := Try.prog) w (e := 2) (by kernel_rfl) (off := i * 1) (by rw [Nat.mul_one]; exact hx i (by simp))
    have p2 := run_part_plain (P := Try.prog) w (e := 2) (by kernel_rfl) (off := i * 1) (by rw [Nat.mul_one]; exact hy i (by simp))
    have e := run_equalIn_int (P := Try.prog) w d 2 .i64 .i64 (F i) (G i) Try.underlying2
    have ih' := ih (fun j hj => hx j (by simp [hj])) (fun j hj => hy j (by simp [hj]))
    simp only [Op.eqItems, Sem.run_bind, p1, p2, e, Result.andThen_ok, List.all_cons]
    cases F i == G i
    · simp
    · simpa using ih'
theorem win_get (F : Nat → Int) (i : Nat) (h : i < 12) : (#[.int .i64 (F 0), .int .i64 (F 1), .int .i64 (F 2), .int .i64 (F 3), .int .i64 (F 4), .int .i64 (F 5), .int .i64 (F 6), .int .i64 (F 7), .int .i64 (F 8), .int .i64 (F 9), .int .i64 (F 10), .int .i64 (F 11)] : Array Value)[i]? = some (.int .i64 (F i)) := by
  have : i = 0 ∨ i = 1 ∨ i = 2 ∨ i = 3 ∨ i = 4 ∨ i = 5 ∨ i = 6 ∨ i = 7 ∨ i = 8 ∨ i = 9 ∨ i = 10 ∨ i = 11 := by omega
  rcases this with rfl | rfl | rfl | rfl | rfl | rfl | rfl | rfl | rfl | rfl | rfl | rfl <;> rfl
set_option maxRecDepth 20000 in
theorem eq12 (w : World) (F G : Nat → Int) : (Op.equalIn 10000 70 (.agg #[.int .i64 (F 0), .int .i64 (F 1), .int .i64 (F 2), .int .i64 (F 3), .int .i64 (F 4), .int .i64 (F 5), .int .i64 (F 6), .int .i64 (F 7), .int .i64 (F 8), .int .i64 (F 9), .int .i64 (F 10), .int .i64 (F 11)]) (.agg #[.int .i64 (G 0), .int .i64 (G 1), .int .i64 (G 2), .int .i64 (G 3), .int .i64 (G 4), .int .i64 (G 5), .int .i64 (G 6), .int .i64 (G 7), .int .i64 (G 8), .int .i64 (G 9), .int .i64 (G 10), .int .i64 (G 11)])).run Try.prog w = .ok ((List.range 12).all fun i => F i == G i) w := by
  obtain ⟨i, hi, -⟩ := info_parts (show (Try.prog.info? 2).map (fun i => (i.zero, i.size, i.bytes)) = some (some (.int .i64 0), 1, 8) by kernel_rfl)
  rw [run_equalIn_array w 9999 _ _ Try.underlying70 hi]
  exact eqI_run w 9998 F G _ _ _ (fun i h => win_get F i (List.mem_range.1 h)) (fun i h => win_get G i (List.mem_range.1 h))

theorem cells_at {w : World} {g : Nat} {xs : List Value} {t : TypeId} (h : w.heap[g]? = some (.cells xs.toArray t (0, 0))) (j : Nat) (x : Value) (hx : xs[j]? = some x) : w.cell? ⟨g, j, none⟩ = some x := by
  simp [World.cell?, h, hx]
/-- What the window is behind the copy. -/
def seenF (v : Nat → Int) (r s L : Nat) (S : Nat → Int) (j : Nat) : Int := if j < L then padF v r (s + j) else S j
theorem seen_splice (v : Nat → Int) (r s L : Nat) (S : Nat → Int) (hL : L ≤ 12) : splice (listV 12 fun j => .int .i64 (padF v r (s + j))) L (listV (12 - L) fun j => .int .i64 (S (L + j))) = listV 12 fun j => .int .i64 (seenF v r s L S j) := by
  unfold splice
  apply List.ext_getElem?
  intro j
  rw [listV_len, show L + (12 - L) = 12 by omega, List.drop_eq_nil_of_le (by rw [listV_len]; omega), List.append_nil]
  by_cases h1 : j < L
  · rw [List.getElem?_append_left (by rw [List.length_take, listV_len]; omega), List.getElem?_take_of_lt h1, listV_get _ (by omega), listV_get _ (by omega)]
    unfold seenF
    rw [if_pos h1]
  · by_cases h2 : j < 12
    · rw [List.getElem?_append_right (by rw [List.length_take, listV_len]; omega), List.length_take, listV_len, Nat.min_eq_left hL, listV_get _ (show j - L < 12 - L by omega), listV_get _ h2]
      unfold seenF
      rw [if_neg h1, show L + (j - L) = j by omega]
    · rw [List.getElem?_eq_none (by rw [List.length_append, List.length_take, listV_len, listV_len]; omega), List.getElem?_eq_none (by rw [listV_len]; omega)]
/-- The program's answer. -/
def fitsI (n r L : Nat) (v S : Nat → Int) (k : Nat) : Bool := decide (n ≤ k) && (List.range 12).all fun j => seenF v r (k - n) L S j == S j

theorem add_off (b k j : Nat) : (⟨b, k, none⟩ : Addr).add j = ⟨b, k + j, none⟩ := by
  by_cases h : j = 0
  · subst h; rfl
  · unfold Addr.add; simp [h]
theorem box_cell {w : World} {t t2 : TypeId} {o : Array Value} {A B C D : Option Addr} {n c m d r q p e : Nat} {S : Nat → Int} {l : Value} {N : Nat} (h : N = w.heap.size) (i : Nat) (hi : i < 12) :
    (((w.alloc (.cells #[.slice A n c, .slice B m d, .slice C r q, .slice D p e, .int .i64 (S 0), .int .i64 (S 1), .int .i64 (S 2), .int .i64 (S 3), .int .i64 (S 4), .int .i64 (S 5), .int .i64 (S 6), .int .i64 (S 7), .int .i64 (S 8), .int .i64 (S 9), .int .i64 (S 10), .int .i64 (S 11), l] t)).alloc (.cells o t2)).drew).cell? ⟨N, 4 + i, none⟩ = some (.int .i64 (S i)) := by
  subst h
  rw [World.cell?_drew, World.cell?_alloc_old _ _ _ (show (⟨w.heap.size, 4 + i, none⟩ : Addr).block ≠ (w.alloc _).heap.size by simp), World.cell?_alloc_new]
  have : i = 0 ∨ i = 1 ∨ i = 2 ∨ i = 3 ∨ i = 4 ∨ i = 5 ∨ i = 6 ∨ i = 7 ∨ i = 8 ∨ i = 9 ∨ i = 10 ∨ i = 11 := by omega
  rcases this with rfl | rfl | rfl | rfl | rfl | rfl | rfl | rfl | rfl | rfl | rfl | rfl <;> rfl

set_option maxRecDepth 20000 in
set_option maxHeartbeats 4000000 in
theorem fits_any (A B C D : Option Addr) (n c m d o q p t : Nat) (S : Nat → Int) (L : Nat) (g r cap : Nat) (v : Nat → Int) (k : Nat) (w : World) (hn : n ≤ 4) (hL : L ≤ 12) (hr : r ≤ 1048576) (hc : r + 12 ≤ cap) (hcm : cap ≤ maxLen) (hk : k < r)
    (hg : Cells w (some ⟨g, 0, none⟩) (r + 12) (fun i => .int .i64 (padF v r i))) :
    Calls Try.prog 91 #[.agg #[.slice A n c, .slice B m d, .slice C o q, .slice D p t, .int .i64 (S 0), .int .i64 (S 1), .int .i64 (S 2), .int .i64 (S 3), .int .i64 (S 4), .int .i64 (S 5), .int .i64 (S 6), .int .i64 (S 7), .int .i64 (S 8), .int .i64 (S 9), .int .i64 (S 10), .int .i64 (S 11), .int .i64 L], .slice (some ⟨g, 0, none⟩) (r + 12) cap, .int .i64 k] w
      fun e w' => e = .returned (.bool (fitsI n r L v S k)) ∧ Below w.heap.size w w' := by
  by_cases h0 : n ≤ k
  rotate_left
  · have d1 : (k : Int) < n := by omega
    have HU := Lib.hid (show fitsI n r L v S k = false by unfold fitsI; simp [h0])
    clear hg h0
    go_enter Try.func91, Try.ntmps91
    go_wp2_with fail
    go_ret
    exact ⟨ret_bool HU.out.symm, (by repeat (first | exact Below.refl _ _ | exact Hid.out (by assumption) | refine below_alloc ?_ _ | refine Below.setCell ?_ (by simp <;> omega) _ | refine Below.alloc ?_ (by simp <;> omega) _ | refine Below.drew ?_ | refine below_drewN ?_ _))⟩
  obtain ⟨s, rfl⟩ := Nat.exists_eq_add_of_le h0
  have HU := Lib.hid (show fitsI n r L v S (n + s) = (List.range 12).all fun j => seenF v r s L S j == S j by
    unfold fitsI
    rw [decide_eq_true h0, Bool.true_and, Nat.add_sub_cancel_left])
  have HPC := Lib.hid (show ∀ j, j < 12 → w.cell? ⟨g, s + j, none⟩ = some (.int .i64 (padF v r (s + j))) from fun j hj => by
    obtain ⟨x, e1, e2⟩ := hg (s + j) (by omega)
    cases e1
    rw [add0] at e2
    exact e2)
  have p0 := HPC.out 0 (by omega)
  have p1 := HPC.out 1 (by omega)
  have p2 := HPC.out 2 (by omega)
  have p3 := HPC.out 3 (by omega)
  have p4 := HPC.out 4 (by omega)
  have p5 := HPC.out 5 (by omega)
  have p6 := HPC.out 6 (by omega)
  have p7 := HPC.out 7 (by omega)
  have p8 := HPC.out 8 (by omega)
  have p9 := HPC.out 9 (by omega)
  have p10 := HPC.out 10 (by omega)
  have p11 := HPC.out 11 (by omega)
  have hgw : g < w.heap.size := World.block_lt_of_cell? _ _ p0
  rw [Nat.add_zero] at p0
  have d1 : ¬ ((n : Int) + s < n) := by omega
  have d2 : ((n : Int) + s) - n = s := by omega
  have d3 : (s : Int) ≤ ((r + 12 : Nat) : Int) := by omega
  have d3' : (s : Int) ≤ (r : Int) + 12 := by omega
  have d4 : s ≤ r + 12 := by omega
  have d5 : s ≤ cap := by omega
  have d6 : ¬ cap = s := by omega
  have hat : ∀ W cap', (Instr.arrayAt 70 (.slice (some ⟨g, s, none⟩) (r + 12 - s) cap')).run Try.prog W = .ok (.pointer (some ⟨g, s, none⟩)) W := fun W cap' => run_arrayAt W _ _ 12 _ _ cap' Try.underlying70 (by omega)
  clear hg h0
  obtain ⟨ii, hii, hzi, hsi, hbi⟩ := info_parts (show (Try.prog.info? 2).map (fun i => (i.zero, i.size, i.bytes)) = some (some (.int .i64 0), 1, 8) by kernel_rfl)
  have hsz : (Try.prog.info? 2).map (·.size) = some 1 := by rw [hii, Option.map_some, hsi]
  have e1 : (L : Int) ≤ 12 := by omega
  have HFit := Lib.hid (show L + (listV (12 - L) fun j => Value.int .i64 (S (L + j))).length ≤ (listV 12 fun j => Value.int .i64 (padF v r (s + j))).length by rw [listV_len, listV_len]; omega)
  have HOne := Lib.hid (show ∀ u ∈ listV (12 - L) fun j => Value.int .i64 (S (L + j)), u.oneCell' = true from fun u hu => by
    obtain ⟨j, -, rfl⟩ := List.mem_map.1 hu
    rfl)
  by_cases hL12 : L = 12
  · subst hL12
    go_enter Try.func91, Try.ntmps91
    go_upto_region 4 with fail
    go_region_law (
           refine step_copy_splice rfl (.tmp 26) (.tmp 30) 22 22 rfl 2 Try.underlying22 hsz (some ⟨w.heap.size + 1, 0, none⟩) (some ⟨w.heap.size, 4, none⟩) (0) (0) (0) (0) (by simp [go_sem]; done) (by simp [go_sem]; done) (w.heap.size + 1) (12) (listV 12 fun j => .int .i64 (padF v r (s + j))) 70 (lit_last (w := w.alloc _) (by simp)) (listV (12 - 12) fun j => .int .i64 (S (12 + j))) (by rw [listV_len]; rfl) (fun h => by rw [listV_len] at h; omega) HFit.out HOne.out (w.heap.size + 1) _ (Below.refl _ _) (Nat.le_refl _) ?_
           intro w4 hg4 hb4
           have hs := seen_splice v r s 12 S hL
           have HQ := Lib.hid (show ∀ j, j < 12 → w4.cell? ⟨w.heap.size + 1, j, none⟩ = some (.int .i64 (seenF v r s (12) S j)) from fun j hj => cells_at (xs := listV 12 fun j => .int .i64 (seenF v r s 12 S j)) (t := 70) (by rw [← hs]; exact hg4) j _ (listV_get _ hj))
           clear hs
           have HX := Lib.hid (show ∀ j, j < 12 → w4.cell? ⟨w.heap.size, 4 + j, none⟩ = some (.int .i64 (S j)) from fun j hj => (hb4.cell (show w.heap.size < w.heap.size + 1 by omega)).trans (box_cell rfl j hj))
           have NB := Lib.hid (show Below w.heap.size w w4 from Below.trans (show Below w.heap.size w (((w.alloc _).alloc _).drew) from (by repeat (first | exact Below.refl _ _ | exact Hid.out (by assumption) | refine below_alloc ?_ _ | refine Below.setCell ?_ (by simp <;> omega) _ | refine Below.alloc ?_ (by simp <;> omega) _ | refine Below.drew ?_ | refine below_drewN ?_ _))) (hb4.mono (by omega)))
           have q0 := HQ.out 0 (by omega)
           have q1 := HQ.out 1 (by omega)
           have q2 := HQ.out 2 (by omega)
           have q3 := HQ.out 3 (by omega)
           have q4 := HQ.out 4 (by omega)
           have q5 := HQ.out 5 (by omega)
           have q6 := HQ.out 6 (by omega)
           have q7 := HQ.out 7 (by omega)
           have q8 := HQ.out 8 (by omega)
           have q9 := HQ.out 9 (by omega)
           have q10 := HQ.out 10 (by omega)
           have q11 := HQ.out 11 (by omega)
           have x0 := HX.out 0 (by omega)
           have x1 := HX.out 1 (by omega)
           have x2 := HX.out 2 (by omega)
           have x3 := HX.out 3 (by omega)
           have x4 := HX.out 4 (by omega)
           have x5 := HX.out 5 (by omega)
           have x6 := HX.out 6 (by omega)
           have x7 := HX.out 7 (by omega)
           have x8 := HX.out 8 (by omega)
           have x9 := HX.out 9 (by omega)
           have x10 := HX.out 10 (by omega)
           have x11 := HX.out 11 (by omega)
           have heq : ∀ W, _ := fun W => eq12 W (seenF v r s (12) S) S
           clear hg4 hb4)
    all_goals (
      go_wp2_with fail
      go_ret
      exact ⟨ret_bool (by rw [HU.out]; simp [go_sem, List.range, List.range.loop]), NB⟩)
  · have e2 : ¬ 12 = L := by omega
    go_enter Try.func91, Try.ntmps91
    go_upto_region 4 with fail
    go_region_law (
           refine step_copy_splice rfl (.tmp 26) (.tmp 30) 22 22 rfl 2 Try.underlying22 hsz (some ⟨w.heap.size + 1, L, none⟩) (some ⟨w.heap.size, 4 + L, none⟩) (12 - L) (12 - L) (12 - L) (12 - L) (by simp [go_sem]; done) (by simp [go_sem]; done) (w.heap.size + 1) (L) (listV 12 fun j => .int .i64 (padF v r (s + j))) 70 (lit_last (w := w.alloc _) (by simp)) (listV (12 - L) fun j => .int .i64 (S (L + j))) (by rw [listV_len]; simp) (fun _ => ⟨rfl, ⟨w.heap.size, 4 + L, none⟩, rfl, fun j u hu => by
               have hj : j < 12 - L := by have := (List.getElem?_eq_some_iff.1 hu).1; rw [listV_len] at this; exact this
               rw [listV_get _ hj] at hu
               cases hu
               rw [add_off, Nat.add_assoc]
               exact box_cell rfl (L + j) (by omega)⟩) HFit.out HOne.out (w.heap.size + 1) _ (Below.refl _ _) (Nat.le_refl _) ?_
           intro w4 hg4 hb4
           rw [seen_splice v r s _ S hL] at hg4
           have HQ := Lib.hid (show ∀ j, j < 12 → w4.cell? ⟨w.heap.size + 1, j, none⟩ = some (.int .i64 (seenF v r s (L) S j)) from fun j hj => cells_at hg4 j _ (listV_get _ hj))
           have HX := Lib.hid (show ∀ j, j < 12 → w4.cell? ⟨w.heap.size, 4 + j, none⟩ = some (.int .i64 (S j)) from fun j hj => (hb4.cell (show w.heap.size < w.heap.size + 1 by omega)).trans (box_cell rfl j hj))
           have NB := Lib.hid (show Below w.heap.size w w4 from Below.trans (show Below w.heap.size w (((w.alloc _).alloc _).drew) from (by repeat (first | exact Below.refl _ _ | exact Hid.out (by assumption) | refine below_alloc ?_ _ | refine Below.setCell ?_ (by simp <;> omega) _ | refine Below.alloc ?_ (by simp <;> omega) _ | refine Below.drew ?_ | refine below_drewN ?_ _))) (hb4.mono (by omega)))
           have q0 := HQ.out 0 (by omega)
           have q1 := HQ.out 1 (by omega)
           have q2 := HQ.out 2 (by omega)
           have q3 := HQ.out 3 (by omega)
           have q4 := HQ.out 4 (by omega)
           have q5 := HQ.out 5 (by omega)
           have q6 := HQ.out 6 (by omega)
           have q7 := HQ.out 7 (by omega)
           have q8 := HQ.out 8 (by omega)
           have q9 := HQ.out 9 (by omega)
           have q10 := HQ.out 10 (by omega)
           have q11 := HQ.out 11 (by omega)
           have x0 := HX.out 0 (by omega)
           have x1 := HX.out 1 (by omega)
           have x2 := HX.out 2 (by omega)
           have x3 := HX.out 3 (by omega)
           have x4 := HX.out 4 (by omega)
           have x5 := HX.out 5 (by omega)
           have x6 := HX.out 6 (by omega)
           have x7 := HX.out 7 (by omega)
           have x8 := HX.out 8 (by omega)
           have x9 := HX.out 9 (by omega)
           have x10 := HX.out 10 (by omega)
           have x11 := HX.out 11 (by omega)
           have heq : ∀ W, _ := fun W => eq12 W (seenF v r s (L) S) S
           clear hg4 hb4)
    all_goals (
      go_wp2_with fail
      go_ret
      exact ⟨ret_bool (by rw [HU.out]; simp [go_sem, List.range, List.range.loop]), NB⟩)
end Go.Proofs.Ytehemjcpdblonaa
