/- slices.Backward over numbers. -/
import Derived.RangeFuncNested
import Derived.RangeFuncBound
import Derived.RangeFuncCalls
import Derived.RangeFuncLeaves
import Derived.RangeFuncBox
import Derived.Shelf.Abstract
import Derived.Shelf.RegionOpen
import Derived.WalkKit
import Derived.OwnWalkIn
import Derived.TacticsInMore
import Derived.LoopNIn
import Derived.LoopIn
import Derived.Maps.AppendAt
import Derived.Test.YtgbiablibfbilaaTree
import Derived.Test.YtgbiablibfbilaaCells
set_option linter.unusedVariables false
namespace Go.Proofs.Ytgbiablibfbilaa
open Go.RowKit Go.Shelf
attribute [local go_sem] Oper.semAt_some

/-- What has come from the end on, when r are left. -/
def bk (f : Nat → Int) (n r : Nat) : List (Nat × Int) := (List.range (n - r)).map fun j => (n - 1 - j, f (n - 1 - j))
theorem bk_succ (f : Nat → Int) {n r : Nat} (h : r < n) : bk f n r = bk f n (r + 1) ++ [(r, f r)] := by
  have e : n - r = (n - (r + 1)) + 1 := by omega
  have e2 : n - 1 - (n - (r + 1)) = r := by omega
  simp [bk, e, List.range_succ, e2]
theorem bk_all (f : Nat → Int) (n : Nat) : bk f n n = [] := by simp [bk]
theorem bk_len (f : Nat → Int) (n r : Nat) : (bk f n r).length = n - r := by simp [bk]
theorem bk_vals (f : Nat → Int) (n : Nat) : ∀ (m r : Nat), n - r = m → r ≤ n → ((bk f n r).map (·.2)).reverse = (rowL f n).drop r
  | 0, r, h, hr => by
    obtain rfl : r = n := by omega
    rw [bk_all, List.drop_eq_nil_of_le (by rw [rowL_len]; omega)]
    rfl
  | m + 1, r, h, hr => by
    have hlt : r < n := by omega
    rw [bk_succ f hlt, rowL_drop f hlt, List.map_append, List.reverse_append, bk_vals f n m (r + 1) (by omega) (by omega)]
    rfl
/-- What lay below stays, and so does a variable's box. -/
def KpB (t : TypeId) (Bs n₀ : Nat) (W W' : World) : Prop := Below n₀ W W' ∧ ∀ v, Boxed W Bs t v → Boxed W' Bs t v
theorem kpB_t {t : TypeId} {Bs n₀ : Nat} {A B C : World} (h : KpB t Bs n₀ A B) (k : KpB t Bs n₀ B C) : KpB t Bs n₀ A C := ⟨h.1.trans k.1, fun v q => k.2 v (h.2 v q)⟩
theorem kpB_b {t : TypeId} {Bs n₀ : Nat} {w : World} (hB : Bs < w.heap.size) (hn : n₀ ≤ w.heap.size) (W : World) (l : Nat) (o o' : Obj) (hl : w.heap.size ≤ l) (ho : W.heap[l]? = some o) (h1 : o.isCells = false) (h2 : o.isWalk = false) : KpB t Bs n₀ W (W.putObj l o') :=
  ⟨belowK_b (w := w) hn W l o o' hl ho h1 h2, fun v q => q.kept (grownBy_putObj' W l o') (fun e => absurd (Option.some.inj e) (by omega))⟩
set_option maxRecDepth 100000 in
set_option maxHeartbeats 2000000 in
theorem back1_in (F : Fence) (n : Nat) (h8 : F.fn 100) (hro : F.round = none) (hn : 1 ≤ n) (l Bs n₀ : Nat) (A : Option Addr) (len cap : Nat) (f : Nat → Int) (hreach : len ≤ 1048576) (J Jx : List (Nat × Int) → World → Prop)
    (hY : ∀ pre x W, J pre W → pre.length < len → YieldAt F (n - 1) Try.prog l #[.int .i64 (x.1 : Int), .int .i64 x.2] W fun e W' =>
      (e = .returned (.bool true) ∧ J (pre ++ [x]) W' ∧ KpB 22 Bs n₀ W W') ∨ (e = .returned (.bool false) ∧ Jx (pre ++ [x]) W'))
    (W : World) (hBs : Boxed W Bs 22 (.slice A len cap)) (hc : Cells W A len (fun i => .int .i64 (f i))) (hbl : ∀ x, A = some x → 0 < len → x.block < n₀) (h0 : J [] W) :
    CallsIn F n Try.prog 100 #[.func (.yield l) #[] #[], .pointer (some ⟨Bs, 0, none⟩)] W fun e W' => (∃ v, e = .returned v) ∧
      ((∃ ys, ys = bk f len 0 ∧ J ys W') ∨ (∃ pre, (∃ r, r ≤ len ∧ pre = bk f len r) ∧ Jx pre W')) := by
  have hwl : IntKind.i64.wrap ((len : Int) - 1) = (len : Int) - 1 := by rw [IntKind.wrap_i64]; omega
  have HC := Lib.hid hc
  have hbc0 := hBs.cell
  clear hc
  refine callsIn_of_wp Try.func100 rfl h8 ?_ hro
  simp only [Try.ntmps100, List.size_toArray, List.length_cons, List.length_nil, Nat.reduceAdd, Nat.reduceSub, Array.replicate_succ, Array.replicate_zero, List.push_toArray, List.append_toArray, List.nil_append, List.cons_append]
  gi_wp2
  gi_loopw [3] (fun i wr => ∃ r : Nat, r ≤ len ∧ i = .int .i64 ((r : Int) - 1) ∧ J (bk f len r) wr ∧ Below n₀ W wr ∧ Boxed wr Bs 22 (.slice A len cap)) (fun i _ => (intOf i + 1).toNat)
  case atStart => exact ⟨len, Nat.le_refl _, rfl, by rw [bk_all]; exact h0, Below.refl _ _, hBs⟩
  case round =>
    obtain ⟨r, hr, rfl, hJs, hnx, hb2⟩ := hrel
    have hbc := hb2.cell
    cases r with
    | zero =>
      gi_wp2
      go_end0
      exact ⟨⟨_, rfl⟩, .inl ⟨_, rfl, hJs⟩⟩
    | succ k =>
      have e1 : (((k + 1 : Nat) : Int) - 1) = k := by omega
      rw [e1]
      have hwk : IntKind.i64.wrap ((k : Int) - 1) = (k : Int) - 1 := by rw [IntKind.wrap_i64]; omega
      have hk0 : (0 : Int) ≤ k := by omega
      obtain ⟨x, rfl, hx0⟩ := HC.out k (by omega)
      have hx : wr.cell? (x.add k) = some (.int .i64 (f k)) := (hnx.cell (p := x.add k) (by rw [block_add]; exact hbl x rfl (by omega))).trans hx0
      obtain ⟨fn, tmps, assign, body, hy, hR⟩ := hY _ (k, f k) wr hJs (by rw [bk_len]; omega)
      dsimp only at hy
      gi_wp2
      refine hR.mono ?_
      rintro e W3 (⟨rfl, hJ3, hk3⟩ | ⟨rfl, hJx3⟩)
      · have hb3 := hk3.2 _ hb2
        gi_wp2
        go_roundw
        case rel => exact ⟨k, by omega, by simp, by rw [bk_succ f (by omega)]; exact hJ3, hnx.trans hk3.1, hb3⟩
        case measure => simp [intOf]
      · gi_wp2
        refine bodyPost_ret (results_none rfl _ _ _) rfl ?_
        exact ⟨⟨_, rfl⟩, .inr ⟨_, ⟨k, by omega, (bk_succ f (by omega)).symm⟩, hJx3⟩⟩
theorem back_in (F : Fence) (n : Nat) (h6 : F.fn 89) (hro : F.round = none) (a : Option Addr) (len cap : Nat) (w : World) :
    CallsIn F n Try.prog 89 #[.slice a len cap] w fun e w' => e = .returned (.func (.func 100) #[] #[.pointer (some ⟨w.heap.size, 0, none⟩)]) ∧ w' = w.alloc (.cells #[.slice a len cap] 22) := by
  refine callsIn_of_wp Try.func89 rfl h6 ?_ hro
  simp only [Try.ntmps89, List.size_toArray, List.length_cons, List.length_nil, Nat.reduceAdd, Nat.reduceSub, Array.replicate_succ, Array.replicate_zero, List.push_toArray, List.append_toArray, List.nil_append, List.cons_append]
  gi_wp2
  go_ret
  exact ⟨rfl, rfl⟩
/-- slices.Backward(s): all numbers with their indices, from the end on. -/
theorem back_stops (F : Fence) (n : Nat) (h8 : F.fn 100) (hro : F.round = none) (hn : 1 ≤ n) (Bs n₀ : Nat) (A : Option Addr) (len cap : Nat) (f : Nat → Int) (hreach : len ≤ 1048576) (w : World) (hn₀ : n₀ ≤ w.heap.size)
    (hb : Boxed w Bs 22 (.slice A len cap)) (hc : Cells w A len (fun i => .int .i64 (f i))) (hbl : ∀ x, A = some x → 0 < len → x.block < n₀) :
    SeqStopsK F n Try.prog 100 #[.pointer (some ⟨Bs, 0, none⟩)] (fun x : Nat × Int => #[Value.int .i64 (x.1 : Int), Value.int .i64 x.2]) (KpB 22 Bs n₀) (fun ys => ys = bk f len 0)
      (fun pre => ∃ r, r ≤ len ∧ pre = bk f len r) len w := fun l J Jx W hW _ _ hY h0 => by
  have hb' : Boxed W Bs 22 (.slice A len cap) := (hW.block Bs hb.lt).trans hb
  exact back1_in F n h8 hro hn l Bs n₀ A len cap f hreach J Jx hY W hb' (hc.below hW) hbl h0
end Go.Proofs.Ytgbiablibfbilaa
