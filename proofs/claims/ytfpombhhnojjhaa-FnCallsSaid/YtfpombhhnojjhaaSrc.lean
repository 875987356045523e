/- Draws of a law: a source that reads choices from bytes, and words drawn of it. -/
import Derived.Test.YtfpombhhnojjhaaAppend
import Derived.Test.YtfpombhhnojjhaaStep
import Derived.Test.YtfpombhhnojjhaaIRes
import Derived.Test.YtfpombhhnojjhaaBoxN
import Derived.WalkKit
set_option linter.unusedVariables false
set_option linter.unusedSimpArgs false
namespace Go.Proofs.Ytfpombhhnojjhaa
open Go.RowKit
/-- A source in block p: its bytes, how many are read, its seed. -/
structure Src (w : World) (p : Nat) (A : Option Addr) (n c : Nat) (f : Nat → Int) (at_ : Nat) (sd : Int) : Prop where
  c0 : w.cell? ⟨p, 0, none⟩ = some (.slice A n c)
  c1 : w.cell? ⟨p, 1, none⟩ = some (.int .i64 at_)
  c2 : w.cell? ⟨p, 2, none⟩ = some (.int .u64 sd)
  z1 : w.frozen? ⟨p, 1, none⟩ = false
  z2 : w.frozen? ⟨p, 2, none⟩ = false
  row : ∀ k, k < n → ∃ x, A = some x ∧ x.block < p ∧ w.cell? (x.add k) = some (.int .u8 (f k)) ∧ 0 ≤ f k ∧ f k < 256
  sz : n ≤ 1048576
section
variable {w w' : World} {p lo hi n c t : Nat} {A : Option Addr} {f : Nat → Int} {sd : Int}
theorem Src.lt (h : Src w p A n c f t sd) : p < w.heap.size := World.block_lt_of_cell? _ _ h.c0
theorem Src.below (h : Src w p A n c f t sd) (b : Below w.heap.size w w') : Src w' p A n c f t sd :=
  ⟨(b.cell (p := ⟨p, 0, none⟩) h.lt).trans h.c0, (b.cell (p := ⟨p, 1, none⟩) h.lt).trans h.c1, (b.cell (p := ⟨p, 2, none⟩) h.lt).trans h.c2, (b.frozen (p := ⟨p, 1, none⟩) h.lt).trans h.z1, (b.frozen (p := ⟨p, 2, none⟩) h.lt).trans h.z2,
    fun k hk => by obtain ⟨x, h1, h2, h3, h4⟩ := h.row k hk; exact ⟨x, h1, h2, by rw [b.cell (World.block_lt_of_cell? _ _ h3)]; exact h3, h4⟩, h.sz⟩
theorem Src.drewN (h : Src w p A n c f t sd) (m : Nat) : Src (w.drewN m) p A n c f t sd := h.below (drewN_below _ _ _)
/-- Both numbers are written. -/
theorem Src.put (h : Src w p A n c f t sd) (t' : Nat) (sd' : Int) : Src ((w.setCell ⟨p, 1, none⟩ (.int .i64 t')).setCell ⟨p, 2, none⟩ (.int .u64 sd')) p A n c f t' sd' := by
  refine ⟨?_, ?_, ?_, ?_, ?_, fun k hk => ?_, h.sz⟩
  · rw [World.cell?_setCell_other _ _ _ _ (by simp), World.cell?_setCell_other _ _ _ _ (by simp)]; exact h.c0
  · rw [World.cell?_setCell_other _ _ _ _ (by simp)]; exact World.cell?_setCell_same _ _ _ h.c1
  · exact World.cell?_setCell_same _ _ _ (by rw [World.cell?_setCell_other _ _ _ _ (by simp)]; exact h.c2)
  · rw [World.frozen?_setCell, World.frozen?_setCell]; exact h.z1
  · rw [World.frozen?_setCell, World.frozen?_setCell]; exact h.z2
  · obtain ⟨x, h1, h2, h3, h4⟩ := h.row k hk
    have hne : ∀ j, (⟨p, j, none⟩ : Addr) ≠ x.add k := fun j e => by
      have e2 : p = (x.add k).block := by rw [← e]
      rw [block_add] at e2
      omega
    exact ⟨x, h1, h2, by rw [World.cell?_setCell_other _ _ _ _ (hne 2), World.cell?_setCell_other _ _ _ _ (hne 1)]; exact h3, h4⟩
end
theorem Src.grown {w w' : World} {p n c t : Nat} {A : Option Addr} {f : Nat → Int} {sd : Int} {row : Option Nat} (h : Src w p A n c f t sd) (hg : w.grownBy w' row) (hr : ∀ k, row = some k → p < k) : Src w' p A n c f t sd := by
  have hb : ∀ b, b ≤ p → b < w.heap.size → w'.heap[b]? = w.heap[b]? := fun b h1 h2 => hg.block b h2 (fun e => by have := hr b e.symm; omega)
  have hp := hb p (Nat.le_refl _) h.lt
  refine ⟨(World.cell?_of_block (a := ⟨p, 0, none⟩) hp).trans h.c0, (World.cell?_of_block (a := ⟨p, 1, none⟩) hp).trans h.c1, (World.cell?_of_block (a := ⟨p, 2, none⟩) hp).trans h.c2, (World.frozen?_of_block (a := ⟨p, 1, none⟩) hp).trans h.z1, (World.frozen?_of_block (a := ⟨p, 2, none⟩) hp).trans h.z2, fun k hk => ?_, h.sz⟩
  obtain ⟨x, h1, h2, h3, h4⟩ := h.row k hk
  refine ⟨x, h1, h2, ?_, h4⟩
  have hlt := World.block_lt_of_cell? _ _ h3
  rw [block_add] at hlt
  exact (World.cell?_of_block (a := x.add k) (by rw [block_add]; exact hb _ (by omega) hlt)).trans h3
theorem ownsRow_lo {w : World} {base base' : Nat} {e : TypeId} {size : Nat} {v : Value} {n : Nat} {xs : List Value} (h : w.ownsRow base e size v n xs) (hb : base' ≤ base) : w.ownsRow base' e size v n xs := by
  obtain ⟨p, q⟩ := h
  refine ⟨p, ?_⟩
  rcases q with q | ⟨g, cap, cur, hv, hg, r⟩
  · exact .inl q
  · exact .inr ⟨g, cap, cur, hv, Nat.le_trans hb hg, r⟩
theorem Within.grownBy {p : Nat} {w w' : World} (h : Within p (p + 1) w w') : w.grownBy w' (some p) :=
  ⟨h.os, h.tape, h.output, h.size, fun k hk hne => h.block k hk (by have : k ≠ p := fun e => hne (by rw [e]); omega)⟩
theorem Within.grow {lo hi : Nat} {a w w' : World} {row : Option Nat} (h : Within lo hi a w) (hg : w.grownBy w' row) (hr : ∀ k, row = some k → a.heap.size ≤ k) : Within lo hi a w' :=
  ⟨hg.os.trans h.os, hg.tape.trans h.tape, hg.output.trans h.output, Nat.le_trans h.size hg.size, fun k hk hd => (hg.block k (Nat.lt_of_lt_of_le hk h.size) (fun e => by have := hr k e.symm; omega)).trans (h.block k hk hd)⟩
theorem Within.alloc {lo hi : Nat} {a w : World} (h : Within lo hi a w) (o : Obj) : Within lo hi a (w.alloc o) := h.trans (Within.of_below ((Below.refl _ _).alloc (Nat.le_refl _) o))
theorem and_255 (E : Int) : 0 ≤ bits BinOp.and IntKind.u64 E 255 ∧ bits BinOp.and IntKind.u64 E 255 ≤ 255 := by
  have h : ∀ m : Nat, m ≤ 255 → 0 ≤ IntKind.u64.wrap (m : Int) ∧ IntKind.u64.wrap (m : Int) ≤ 255 := fun m hm => by
    have e : IntKind.u64.wrap (m : Int) = m := by simp [IntKind.wrap, IntKind.bits, IntKind.signed]; omega
    rw [e]
    omega
  unfold bits
  refine h _ ?_
  show (BitVec.ofInt 64 E &&& BitVec.ofInt 64 255).toNat ≤ 255
  rw [BitVec.toNat_and]
  exact Nat.and_le_right
set_option maxHeartbeats 2000000 in
theorem next_any (p : Nat) (A : Option Addr) (n c : Nat) (f : Nat → Int) (t : Nat) (sd : Int) (w : World) (ht : t ≤ 1000000000) (h : Src w p A n c f t sd) :
    Calls Try.prog 153 #[.pointer (some ⟨p, 0, none⟩)] w fun e w' => ∃ (r : Int) (sd' : Int), e = .returned (.int .i64 r) ∧ 0 ≤ r ∧ r ≤ 255 ∧ Src w' p A n c f (t + 1) sd' ∧ Within p (p + 1) w w' := by
  have HS := Lib.hid h
  obtain ⟨c0, c1, c2, z1, z2, row, sz⟩ := h
  have ROW := Lib.hid row
  clear row
  by_cases hlt : t < n
  · have d1 : (t : Int) < n := by omega
    have d2 : (t : Int) + 1 ≤ n := by omega
    obtain ⟨x, rfl, hxp, hx, f1, f2⟩ := ROW.out t hlt
    have HX := Lib.hid hxp
    clear hxp
    have hcv : IntKind.i64.wrap (f t) = f t := by rw [IntKind.wrap_i64]; omega
    generalize f t = z at *
    go_enter Try.func153, Try.ntmps153
    go_wp2_with fail
    go_quiet (fail)
    obtain ⟨m0, rfl⟩ : ∃ u, u = nq := ⟨_, rfl⟩
    go_wp2_with fail
    go_quiet (fail)
    go_wp2_with fail
    generalize IntKind.u64.wrap (IntKind.u64.wrap (IntKind.u64.wrap (sd * 6364136223846793005) + z) + 1442695040888963407) = s2 at *
    have HS2 := Lib.hid (show Src (((w.drewN (m0 + nq)).setCell ⟨p, 1, none⟩ (.int .i64 ((t : Int) + 1))).setCell ⟨p, 2, none⟩ (.int .u64 s2)) p (some x) n c f (t + 1) s2 from (HS.out.drewN _).put (t + 1) s2)
    have HW2 := Lib.hid (show Within p (p + 1) w (((w.drewN (m0 + nq)).setCell ⟨p, 1, none⟩ (.int .i64 ((t : Int) + 1))).setCell ⟨p, 2, none⟩ (.int .u64 s2)) from ((Within.drewN _).trans (Within.setCell _ (p := ⟨p, 1, none⟩) (Nat.le_refl _) (Nat.lt_succ_self _) _)).trans (Within.setCell _ (p := ⟨p, 2, none⟩) (Nat.le_refl _) (Nat.lt_succ_self _) _))
    generalize (((w.drewN (m0 + nq)).setCell ⟨p, 1, none⟩ (.int .i64 ((t : Int) + 1))).setCell ⟨p, 2, none⟩ (.int .u64 s2)) = W2 at *
    clear c0 c1 c2 z1 z2 hx HS ROW
    have c0 := HS2.out.c0
    have c1 : W2.cell? ⟨p, 1, none⟩ = some (.int .i64 ((t : Int) + 1)) := HS2.out.c1
    go_quiet (fail)
    go_wp2_with fail
    go_ret
    exact ⟨z, s2, rfl, f1, by omega, HS2.out.drewN _, HW2.out.trans (Within.drewN _)⟩
  · have d1 : ¬ (t : Int) < n := by omega
    have d2 : ¬ (t : Int) + 1 ≤ n := by omega
    go_enter Try.func153, Try.ntmps153
    go_wp2_with fail
    go_quiet (fail)
    obtain ⟨m0, rfl⟩ : ∃ u, u = nq := ⟨_, rfl⟩
    go_wp2_with fail
    generalize IntKind.u64.wrap (IntKind.u64.wrap (IntKind.u64.wrap (sd * 6364136223846793005)) + 1442695040888963407) = s2 at *
    have HS2 := Lib.hid (show Src (((w.drewN m0).setCell ⟨p, 1, none⟩ (.int .i64 ((t : Int) + 1))).setCell ⟨p, 2, none⟩ (.int .u64 s2)) p A n c f (t + 1) s2 from (HS.out.drewN _).put (t + 1) s2)
    have HW2 := Lib.hid (show Within p (p + 1) w (((w.drewN m0).setCell ⟨p, 1, none⟩ (.int .i64 ((t : Int) + 1))).setCell ⟨p, 2, none⟩ (.int .u64 s2)) from ((Within.drewN _).trans (Within.setCell _ (p := ⟨p, 1, none⟩) (Nat.le_refl _) (Nat.lt_succ_self _) _)).trans (Within.setCell _ (p := ⟨p, 2, none⟩) (Nat.le_refl _) (Nat.lt_succ_self _) _))
    generalize (((w.drewN m0).setCell ⟨p, 1, none⟩ (.int .i64 ((t : Int) + 1))).setCell ⟨p, 2, none⟩ (.int .u64 s2)) = W2 at *
    clear c0 c1 c2 z1 z2 HS ROW
    have c0 := HS2.out.c0
    have c1 : W2.cell? ⟨p, 1, none⟩ = some (.int .i64 ((t : Int) + 1)) := HS2.out.c1
    have c2 := HS2.out.c2
    go_quiet (fail)
    go_wp2_with fail
    have hq := and_255 (s2 / 1099511627776)
    have he : wrap64 (bits BinOp.and IntKind.u64 (s2 / 1099511627776) 255) = bits BinOp.and IntKind.u64 (s2 / 1099511627776) 255 := by unfold wrap64; omega
    rw [he]
    go_ret
    exact ⟨_, s2, rfl, hq.1, hq.2, HS2.out.drewN _, HW2.out.trans (Within.drewN _)⟩
/-- A choice among k. -/
def PickRes (w : World) (p : Nat) (A : Option Addr) (n c : Nat) (f : Nat → Int) (t : Nat) (k : Int) (e : Ending) (w' : World) : Prop :=
  ∃ (r : Int) (t' : Nat) (sd' : Int), e = .returned (.int .i64 r) ∧ 0 ≤ r ∧ (r < k ∨ r = 0) ∧ t' ≤ t + 2 ∧ Src w' p A n c f t' sd' ∧ Within p (p + 1) w w'
set_option maxHeartbeats 2000000 in
theorem pick_any (p : Nat) (A : Option Addr) (n c : Nat) (f : Nat → Int) (t : Nat) (sd : Int) (k : Int) (w : World) (ht : t ≤ 900000000) (hk : k ≤ 4611686018427387904) (h : Src w p A n c f t sd) :
    Calls Try.prog 131 #[.pointer (some ⟨p, 0, none⟩), .int .i64 k] w fun e w' => PickRes w p A n c f t k e w' := by
  have HS := Lib.hid h
  have HN := Lib.hid (fun t sd W ht h => next_any p A n c f t sd W ht h)
  clear h
  by_cases h1 : k ≤ 1
  · go_enter Try.func131, Try.ntmps131
    go_wp2_with fail
    go_ret
    exact ⟨0, t, sd, rfl, Int.le_refl _, .inr rfl, by omega, HS.out, Within.refl _ _ _⟩
  by_cases h2 : 200 < k
  · go_enter Try.func131, Try.ntmps131
    go_wp2_with fail
    refine (HN.out t sd _ (by omega) HS.out).mono ?_
    rintro e w1 ⟨r1, sd1, rfl, a1, a2, S1, N1⟩
    have HS1 := Lib.hid S1
    have HN1 := Lib.hid N1
    clear S1 N1
    go_wp2_with fail
    refine (HN.out (t + 1) sd1 _ (by omega) HS1.out).mono ?_
    rintro e w2 ⟨r2, sd2, rfl, b1, b2, S2, N2⟩
    have HS2 := Lib.hid S2
    have HN2 := Lib.hid N2
    clear S2 N2
    have hw1 : IntKind.i64.wrap (r1 * 256) = r1 * 256 := by rw [IntKind.wrap_i64]; omega
    have hw2 : IntKind.i64.wrap (r1 * 256 + r2) = r1 * 256 + r2 := by rw [IntKind.wrap_i64]; omega
    have hk0 : ¬ k = 0 := by omega
    have hx0 : 0 ≤ r1 * 256 + r2 := by omega
    go_wp2_with fail
    go_ret
    have m0 := Int.emod_nonneg (r1 * 256 + r2) hk0
    have m1 := Int.emod_lt_of_pos (r1 * 256 + r2) (show 0 < k by omega)
    exact ⟨(r1 * 256 + r2) % k, t + 1 + 1, sd2, rfl, m0, .inl m1, by omega, HS2.out, HN1.out.trans HN2.out⟩
  · go_enter Try.func131, Try.ntmps131
    go_wp2_with fail
    refine (HN.out t sd _ (by omega) HS.out).mono ?_
    rintro e w1 ⟨r1, sd1, rfl, a1, a2, S1, N1⟩
    have HS1 := Lib.hid S1
    have HN1 := Lib.hid N1
    clear S1 N1
    have hk0 : ¬ k = 0 := by omega
    go_wp2_with fail
    go_ret
    have m0 := Int.emod_nonneg r1 hk0
    have m1 := Int.emod_lt_of_pos r1 (show 0 < k by omega)
    exact ⟨r1 % k, t + 1, sd1, rfl, m0, .inl m1, by omega, HS1.out, HN1.out⟩
theorem l00From_any (A : Option Addr) (n c : Nat) (f : Nat → Int) (w : World) (hn : n ≤ 1048576) (hA : Cells w A n (fun i => .int .u8 (f i))) (hf : ∀ i, i < n → 0 ≤ f i ∧ f i < 256) :
    Calls Try.prog 118 #[.slice A n c] w fun e w' => e = .returned (.pointer (some ⟨w.heap.size, 0, none⟩)) ∧ Src w' w.heap.size A n c f 0 0 ∧ Below w.heap.size w w' := by
  have HS := Lib.hid (show Src (w.alloc (.cells #[.slice A n c, .int .i64 0, .int .u64 0] 157)) w.heap.size A n c f 0 0 from by
    refine ⟨by simp [go_sem], by simp [go_sem], by simp [go_sem], by simp [go_sem], by simp [go_sem], fun k hk => ?_, hn⟩
    obtain ⟨x, h1, h2⟩ := hA k hk
    have hlt := World.block_lt_of_cell? _ _ h2
    exact ⟨x, h1, by rw [block_add] at hlt; exact hlt, by rw [World.cell?_alloc_lt w _ _ hlt]; exact h2, hf k hk⟩)
  clear hA hf
  go_enter Try.func118, Try.ntmps118
  go_wp2_with fail
  go_ret
  exact ⟨rfl, HS.out, (by repeat (first | with_reducible exact Below.refl _ _ | exact Hid.out (by with_reducible assumption) | refine Below.setCell ?_ (by simp <;> omega) _ | refine below_alloc ?_ _ | refine Below.alloc ?_ (by simp <;> omega) _ | refine Below.drew ?_ | refine below_drewN ?_ _ | exact Below.refl _ _))⟩
/-- A row of k letters of the call's own, drawn of a source. -/
def WordRes (w : World) (p : Nat) (A : Option Addr) (n c : Nat) (f : Nat → Int) (t : Nat) (l : Int) (k : Nat) (e : Ending) (w' : World) : Prop :=
  ∃ (v : Value) (L : List Int) (t' : Nat) (sd' : Int), e = .returned v ∧ w'.ownsRow w.heap.size 2 1 v k (valsI L) ∧ L.length = k ∧ (∀ x ∈ L, 0 ≤ x ∧ (x < l ∨ x = 0)) ∧ t' ≤ t + 2 * k ∧ Src w' p A n c f t' sd' ∧ Within p (p + 1) w w'
theorem infoSI : (Try.prog.info? 2).map (fun i => (i.zero, i.size, i.bytes)) = some (some (.int .i64 0), 1, 8) := by kernel_rfl
set_option maxRecDepth 20000 in
set_option maxHeartbeats 4000000 in
theorem l07DrawWord_any (p : Nat) (A : Option Addr) (n c : Nat) (f : Nat → Int) (t : Nat) (sd l : Int) (N : Nat) (w : World) (ht : t ≤ 100000000) (hl : l ≤ 4611686018427387904) (hN : N ≤ 1000000) (h : Src w p A n c f t sd) :
    Calls Try.prog 119 #[.pointer (some ⟨p, 0, none⟩), .int .i64 l, .int .i64 N] w fun e w' => WordRes w p A n c f t l N e w' := by
  obtain ⟨ia, hia, hza, hsa, hba⟩ := info_parts infoSI
  have hpw := h.lt
  have HS := Lib.hid (show Src (w.alloc (.cells #[] 2)) p A n c f t sd from h.below (by repeat (first | with_reducible exact Below.refl _ _ | exact Hid.out (by with_reducible assumption) | refine Below.setCell ?_ (by simp <;> omega) _ | refine below_alloc ?_ _ | refine Below.alloc ?_ (by simp <;> omega) _ | refine Below.drew ?_ | refine below_drewN ?_ _ | exact Below.refl _ _)))
  have HP := Lib.hid (fun t sd W ht h => pick_any p A n c f t sd l W ht hl h)
  have L1 := Lib.hid (show (w.alloc (.cells #[] 2)).ownsRow w.heap.size 2 1 (.slice (some ⟨w.heap.size, 0, none⟩) 0 0) 0 (valsI []) from World.ownsRow_lit w #[] 0 (Nat.le_refl _) (by unfold maxLen; omega) rfl)
  have W1 := Lib.hid (show Within p (p + 1) w (w.alloc (.cells #[] 2)) from (Within.refl _ _ _).alloc _)
  clear h
  go_enter Try.func119, Try.ntmps119
  go_wp2_with fail
  go_loopw [2, 7] (fun nv rv wr => ∃ (k : Nat) (v : Value) (L : List Int) (t' : Nat) (sd' : Int), k ≤ N ∧ nv = .int .i64 ((N : Int) - k) ∧ v = rv ∧ Hid (wr.ownsRow w.heap.size 2 1 v k (valsI L)) ∧ Hid (L.length = k ∧ (∀ x ∈ L, 0 ≤ x ∧ (x < l ∨ x = 0)) ∧ t' ≤ t + 2 * k) ∧ Hid (Src wr p A n c f t' sd') ∧ Hid (Within p (p + 1) w wr)) (fun nv _ _ => (intOf nv).toNat)
  case atStart => exact ⟨0, _, [], t, sd, Nat.zero_le _, by simp, rfl, L1, Lib.hid ⟨rfl, (fun x hx => by cases hx), by omega⟩, HS, W1⟩
  case round =>
    obtain ⟨k, v, L, t1, sd1, hk, rfl, rfl, HR1, HL, HS1, HW1⟩ := hrel
    by_cases hlt : k < N
    rotate_left
    · have d1 : ¬ (0 : Int) < (N : Int) - k := by omega
      obtain rfl : N = k := by omega
      go_wp2_with fail
      go_ret
      exact ⟨v, L, t1, sd1, rfl, HR1.out, HL.out.1, HL.out.2.1, HL.out.2.2, HS1.out, HW1.out⟩
    have d1 : (0 : Int) < (N : Int) - k := by omega
    have hws := HW1.out.size
    have htb : t1 ≤ 900000000 := by have := HL.out.2.2; omega
    go_wp2_with fail
    refine (HP.out t1 sd1 _ htb HS1.out).mono ?_
    rintro e w1 ⟨r, t2, sd2, rfl, r0, r1, tt, S2, N2⟩
    have HS2 := Lib.hid S2
    have HN2 := Lib.hid N2
    have HR2 := Lib.hid (World.ownsRow.kept HR1.out N2.grownBy (by
      cases ho : v.ownBlock with
      | none => exact .inl rfl
      | some j =>
        refine .inr (fun e => ?_)
        have := (HR1.out.lt j ho).1
        simp at e
        omega))
    have hrr := Lib.hid (show 0 ≤ r ∧ (r < l ∨ r = 0) from ⟨r0, r1⟩)
    have hw1s := N2.size
    clear S2 N2 HR1 r1
    go_wp2_with (first
      | (at_builtin
         refine wpList_append_cells _ rfl _ _ 22 rfl w.heap.size 2 ia (.int .i64 0) 1 8 Try.underlying22 hia hza hsa hba rfl (by decide) v k _ rfl (HR2.out.alloc _)
           (some ⟨w1.heap.size, 0, none⟩) 1 1 (fun _ => .int .i64 r) rfl (cells_lit1 rfl) (fun j _ => rfl) (by unfold maxLen; omega) (by omega) (by simp <;> omega) ?_
         intro v1 w2 hown hgrow hwhere
         rw [valsI_add] at hown
         have HR3 := Lib.hid hown
         have hro : ∀ j, v.ownBlock = some j → w.heap.size ≤ j := fun j hj => (HR2.out.lt j hj).1
         have HS3 := Lib.hid (Src.grown (HS2.out.below (w' := w1.alloc _) (by repeat (first | with_reducible exact Below.refl _ _ | exact Hid.out (by with_reducible assumption) | refine Below.setCell ?_ (by simp <;> omega) _ | refine below_alloc ?_ _ | refine Below.alloc ?_ (by simp <;> omega) _ | refine Below.drew ?_ | refine below_drewN ?_ _ | exact Below.refl _ _))) hgrow (fun j hj => by have := hro j hj; omega))
         have HW3 := Lib.hid (Within.grow ((HW1.out.trans HN2.out).alloc _) hgrow hro)
         clear hown hgrow hwhere hro)
      | fail)
    refine ⟨⟨k + 1, v1, L ++ [r], t2, sd2, by omega, by congr 1; omega, rfl, HR3, Lib.hid ⟨by simp [HL.out.1], (fun x hx => ?_), by have := HL.out.2.2; omega⟩, HS3, HW3⟩, by simp [intOf]; omega⟩
    rcases List.mem_append.1 hx with hx | hx
    · exact HL.out.2.1 x hx
    · simp at hx
      subst hx
      exact hrr.out
theorem B10Word_any (A : Option Addr) (n c : Nat) (f : Nat → Int) (l : Int) (N : Nat) (w : World) (hn : n ≤ 1048576) (hl : l ≤ 4611686018427387904) (hN : N ≤ 1000000) (hA : Cells w A n (fun i => .int .u8 (f i))) (hf : ∀ i, i < n → 0 ≤ f i ∧ f i < 256) :
    Calls Try.prog 56 #[.slice A n c, .int .i64 l, .int .i64 N] w fun e w' => ∃ (v : Value) (L : List Int), e = .returned v ∧ w'.ownsRow w.heap.size 2 1 v N (valsI L) ∧ L.length = N ∧ (∀ x ∈ L, 0 ≤ x ∧ (x < l ∨ x = 0)) ∧ Below w.heap.size w w' := by
  have HF := Lib.hid (l00From_any A n c f w hn hA hf)
  clear hA hf
  go_enter Try.func56, Try.ntmps56
  go_wp2_with fail
  refine HF.out.mono ?_
  rintro e w1 ⟨rfl, S1, hb⟩
  have HD := Lib.hid (l07DrawWord_any w.heap.size A n c f 0 0 l N w1 (by omega) hl hN S1)
  have HB := Lib.hid hb
  have hs1 := S1.lt
  clear S1 hb
  go_wp2_with fail
  refine HD.out.mono ?_
  rintro e w2 ⟨v, L, t', sd', rfl, h1, h2, h3, h4, h5, h6⟩
  have H1 := Lib.hid (show w2.ownsRow w.heap.size 2 1 v N (valsI L) from ownsRow_lo h1 (by omega))
  have H2 := Lib.hid (show L.length = N ∧ (∀ x ∈ L, 0 ≤ x ∧ (x < l ∨ x = 0)) from ⟨h2, h3⟩)
  have H3 := Lib.hid (show Below w.heap.size w w2 from HB.out.trans (h6.below (Nat.le_refl _) (by omega)))
  clear h1 h2 h3 h5 h6
  go_wp2_with fail
  go_ret
  exact ⟨v, L, rfl, H1.out, H2.out.1, H2.out.2, H3.out⟩
end Go.Proofs.Ytfpombhhnojjhaa
