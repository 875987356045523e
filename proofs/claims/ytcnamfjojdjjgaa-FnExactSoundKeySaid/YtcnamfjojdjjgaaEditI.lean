/- Least edits: the program's side. -/
import Derived.Test.YtcnamfjojdjjgaaTexts
import Derived.Test.YtcnamfjojdjjgaaEditM
import Derived.Test.YtcnamfjojdjjgaaAppend
import Derived.Test.YtcnamfjojdjjgaaStep
import Derived.Deep.QuietTactic
import Derived.Deep.RegionWith
import Derived.Deep.RegionHeld3
import Derived.BigQuiet
set_option linter.unusedVariables false
namespace Go.Proofs.Ytcnamfjojdjjgaa
open Go.RowKit

theorem infoE : (Try.prog.info? 82).map (fun i => (i.zero, i.size, i.bytes)) = some (some (.agg #[.int .u8 0, .int .i64 0]), 2, 16) := by kernel_rfl
/-- Offers as cells. -/
def offC (q : Nat → Nat × Int) (t : Nat) : Value := if t % 2 = 0 then .int .u8 (q (t / 2)).1 else .int .i64 (q (t / 2)).2
theorem own_keepH {w w' : World} {base size n : Nat} {e : TypeId} {v : Value} {xs : List Value} (h : w.ownsRow base e size v n xs) (b : ∀ g, v.ownBlock = some g → w'.heap[g]? = w.heap[g]?) : w'.ownsRow base e size v n xs := by
  refine ⟨h.1, ?_⟩
  rcases h.2 with k | ⟨g, cap, cur, hv, hb, hh, rest⟩
  · exact .inl k
  · exact .inr ⟨g, cap, cur, hv, hb, by rw [b g (by rw [hv]; simp [Value.ownBlock])]; exact hh, rest⟩
theorem pair_cells {w : World} {B : Nat} {x y : Value} {t : TypeId} (h : w.heap.size = B) : Cells (w.alloc (.cells #[x, y] t)) (some ⟨B, 0, none⟩) (1 * 2) (fun i => if i = 0 then x else y) := fun k hk => by
  subst h
  refine ⟨_, rfl, ?_⟩
  rw [add0]
  rcases (show k = 0 ∨ k = 1 by omega) with rfl | rfl <;> simp [go_sem]
theorem list_pair (q : Nat → Nat × Int) (k : Nat) : listV (k * 2) (offC q) ++ listV (1 * 2) (fun i => if i = 0 then .int .u8 (q k).1 else .int .i64 (q k).2) = listV ((k + 1) * 2) (offC q) := by
  unfold listV
  rw [Nat.add_mul, List.range_add, List.map_append, List.map_map]
  congr 1
  refine List.map_congr_left fun j hj => ?_
  have hj2 : j < 1 * 2 := List.mem_range.1 hj
  rcases (show j = 0 ∨ j = 1 by omega) with rfl | rfl
  · simp [offC]
  · have e1 : (k * 2 + 1) % 2 = 1 := by omega
    have e2 : (k * 2 + 1) / 2 = k := by omega
    simp [offC, e1, e2]

/-- The offers so far, in a variable of their own. -/
structure OffS (w : World) (P base k : Nat) (q : Nat → Nat × Int) : Prop where
  at_ : ∃ v, w.cell? ⟨P, 0, none⟩ = some v ∧ w.ownsRow base 82 2 v k (listV (k * 2) (offC q)) ∧ v.ownBlock ≠ some P
  fr : w.frozen? ⟨P, 0, none⟩ = false
theorem own_slice {w : World} {base size n : Nat} {e : TypeId} {v : Value} {xs : List Value} (h : w.ownsRow base e size v n xs) : ∃ A c, v = .slice A n c := by
  obtain ⟨A, c, g, hv, -⟩ := OwnC.of_rowB h
  exact ⟨A, c, hv⟩
set_option maxRecDepth 20000 in
theorem offer_any (P base k : Nat) (q : Nat → Nat × Int) (x st : Nat) (u cost : Int) (w : World) (hs : OffS w P base k q) (hk : k ≤ 8) (hb : base ≤ w.heap.size) (hu : 0 ≤ u ∧ u ≤ 4000000) (hc : 0 ≤ cost ∧ cost ≤ 4000000) (hq : q k = (st, u + cost)) :
    Calls Try.prog 88 #[.int .u8 st, .agg #[.int .u8 x, .int .i64 u], .int .i64 cost, .pointer (some ⟨P, 0, none⟩)] w fun e w' => e = .returned (.tuple #[]) ∧ OffS w' P base (k + 1) q ∧ ∀ B, B ≤ P → B ≤ base → Below B w w' := by
  obtain ⟨i, hi, hz, hsz, hby⟩ := info_parts infoE
  obtain ⟨⟨v, hv, hown, hne⟩, hfr⟩ := hs
  obtain ⟨A, c, rfl⟩ := own_slice hown
  have hlt : P < w.heap.size := World.block_lt_of_cell? _ _ hv
  have HO := Lib.hid hown
  have HQ := Lib.hid hq
  have HNE := Lib.hid hne
  have c1 : ∀ o, (w.alloc o).cell? ⟨P, 0, none⟩ = some (.slice A k c) := fun o => by rw [World.cell?_alloc_lt w o _ hlt]; exact hv
  have HC2 := Lib.hid (show ∀ o o', ((w.alloc o).alloc o').cell? ⟨P, 0, none⟩ = some (.slice A k c) ∧ ((w.alloc o).alloc o').frozen? ⟨P, 0, none⟩ = false from fun o o' => ⟨by rw [World.cell?_alloc_lt _ o' _ (by simp; omega), c1], ((((Below.refl _ _).alloc (Nat.le_refl _) o).alloc (by simp) o').frozen (p := ⟨P, 0, none⟩) hlt).trans hfr⟩)
  clear hown hq hne
  go_enter Try.func88, Try.ntmps88
  go_wp2_with (first
    | (at_builtin
       refine wpList_append_cells _ rfl _ _ 83 rfl base 82 i (.agg #[.int .u8 0, .int .i64 0]) 2 16 Try.underlying83 hi hz hsz hby rfl (by decide) (.slice A k c) k _ rfl ((HO.out.alloc _).alloc _)
         (some ⟨w.heap.size + 1, 0, none⟩) 1 1 (fun i => if i = 0 then .int .u8 (q k).1 else .int .i64 (q k).2) rfl (by rw [HQ.out]; exact pair_cells (by simp)) (fun _ _ => by split <;> rfl) (by unfold maxLen; omega) (by omega) (by simp; omega) ?_
       intro v1 w2 hown2 hgrow2 hwhere2
       rw [list_pair] at hown2
       obtain ⟨A2, d2, rfl⟩ := own_slice hown2
       have hbk := hgrow2.block P (by simp; omega) HNE.out.symm
       have hcc := HC2.out (.cells #[.int .u8 x, .int .i64 u] 82) (.cells #[.int .u8 st, .int .i64 (u + cost)] 82)
       have c2 : w2.cell? ⟨P, 0, none⟩ = some (.slice A k c) := (World.cell?_of_block (a := ⟨P, 0, none⟩) hbk).trans hcc.1
       have f2 : w2.frozen? ⟨P, 0, none⟩ = false := (World.frozen?_of_block (a := ⟨P, 0, none⟩) hbk).trans hcc.2
       have HO2 := Lib.hid hown2
       have HB2 := Lib.hid (show ∀ B, B ≤ P → B ≤ base → Below B w w2 from fun B h1 h2 => Below.grown (Below.alloc (Below.alloc (Below.refl _ _) (by omega) _) (by simp; omega) _) hgrow2 (by simp; omega) (fun j hj => Nat.le_trans h2 (HO.out.lt j hj).1))
       have HW2 := Lib.hid (show Value.ownBlock (.slice A2 (k + 1) d2) ≠ some P from by
         rcases hwhere2 with h | h
         · rw [h]; exact HNE.out
         · rw [h]; intro e; injection e with e; simp at e; omega)
       clear hown2 hgrow2 hwhere2 hbk hcc)
    | go_in)
  go_end0
  refine ⟨rfl, ⟨⟨_, World.cell?_setCell_same _ _ _ c2, own_keepH HO2.out (fun g hg => ?_), HW2.out⟩, ?_⟩, fun B h1 h2 => (HB2.out B h1 h2).setCell h1 _⟩
  · exact Below.heap_setCell _ _ _ _ (fun e => HW2.out (by rw [hg, e]))
  · rw [World.frozen?_setCell]; exact f2
theorem add_pos {a : Addr} {j : Nat} (h : j ≠ 0) : a.add j = ⟨a.block, a.off + j, none⟩ := by unfold Addr.add; simp [h]
theorem Below.step {B : Nat} {w W u : World} (h : Below B w W) (hB : B ≤ w.heap.size) (k : Below W.heap.size W u) : Below B w u := h.trans (k.mono (Nat.le_trans hB h.size))
/-- Two cells of a block. -/
structure Box2 (w : World) (B : Nat) (u v : Value) : Prop where
  c0 : w.cell? ⟨B, 0, none⟩ = some u
  c1 : w.cell? ⟨B, 1, none⟩ = some v
theorem Box2.keep {w w' : World} {B : Nat} {u v : Value} (h : Box2 w B u v) (b : ∀ p : Addr, p.block < w.heap.size → w'.cell? p = w.cell? p) : Box2 w' B u v :=
  ⟨(b _ (World.block_lt_of_cell? _ _ h.c0)).trans h.c0, (b _ (World.block_lt_of_cell? _ _ h.c1)).trans h.c1⟩
theorem Box2.below {w w' : World} {B : Nat} {u v : Value} (h : Box2 w B u v) (b : Below w.heap.size w w') : Box2 w' B u v := h.keep fun p hp => b.cell hp
theorem box2_put {w : World} {B : Nat} {a b u v : Value} (h : Box2 w B a b) : Box2 ((w.setCell ⟨B, 0, none⟩ u).setCell ⟨B, 1, none⟩ v) B u v := by
  obtain ⟨k0, k1⟩ := h
  exact ⟨by simp [World.cell?_setCell_other, go_sem, k0], by simp [World.cell?_setCell_other, go_sem, k1]⟩
theorem box2_far {w : World} {B C : Nat} {a b u v : Value} (hC : C ≠ B) (h : Box2 w B a b) : Box2 ((w.setCell ⟨C, 0, none⟩ u).setCell ⟨C, 1, none⟩ v) B a b := by
  have e : ∀ (W : World) (j i : Nat) (x : Value), (W.setCell ⟨C, j, none⟩ x).cell? ⟨B, i, none⟩ = W.cell? ⟨B, i, none⟩ := fun W j i x => World.cell?_setCell_other _ _ _ _ (fun q => hC (congrArg Addr.block q))
  exact ⟨by rw [e, e]; exact h.c0, by rw [e, e]; exact h.c1⟩
/-- The first one of those that cost least, of the first k. -/
def leastF (q : Nat → Nat × Int) : Nat → Nat × Int
  | 0 => (0, 0)
  | 1 => q 0
  | k + 2 => betterO (leastF q (k + 1)) (q (k + 1))
theorem leastF_step (q : Nat → Nat × Int) (k : Nat) (hk : k ≠ 0) : leastF q (k + 1) = if (q k).2 < (leastF q k).2 then q k else leastF q k := by
  cases k with
  | zero => exact absurd rfl hk
  | succ k => rfl
theorem costOf_any (x : Nat) (u : Int) (w : World) : Calls Try.prog 90 #[.agg #[.int .u8 x, .int .i64 u]] w fun e w' => e = .returned (.int .i64 u) ∧ Below w.heap.size w w' := by
  go_enter Try.func90, Try.ntmps90
  go_wp2
  go_ret
  exact ⟨rfl, (by repeat (first | exact Below.refl _ _ | exact Hid.out (by assumption) | refine below_alloc ?_ _ | refine Below.setCell ?_ (by simp <;> omega) _ | refine Below.alloc ?_ (by simp <;> omega) _ | refine Below.drew ?_ | refine below_drewN ?_ _))⟩
set_option maxRecDepth 20000 in
theorem leastOf_any (A : Option Addr) (r c : Nat) (q : Nat → Nat × Int) (w : World) (hr : r ≤ 8) (hA : Cells w A (r * 2) (offC q)) :
    Calls Try.prog 89 #[.slice A r c, .func (.func 90) #[] #[]] w fun e w' => e = .returned (.agg #[.int .u8 (leastF q r).1, .int .i64 (leastF q r).2]) ∧ Below w.heap.size w w' := by
  have HA := Lib.hid hA
  have HCo := Lib.hid (fun x u W => costOf_any x u W)
  clear hA
  go_enter Try.func89, Try.ntmps89
  go_wp2_with fail
  go_loopw [10] (fun kk wr => ∃ k : Nat, k ≤ r ∧ kk = .int .i64 k ∧ Hid (Box2 wr w.heap.size (.int .u8 0) (.int .i64 0)) ∧ Hid (Box2 wr (w.heap.size + 1) (.int .u8 (leastF q k).1) (.int .i64 (leastF q k).2)) ∧ Hid (wr.frozen? ⟨w.heap.size, 0, none⟩ = false ∧ wr.frozen? ⟨w.heap.size, 1, none⟩ = false ∧ wr.frozen? ⟨w.heap.size + 1, 0, none⟩ = false ∧ wr.frozen? ⟨w.heap.size + 1, 1, none⟩ = false) ∧ Hid (Below w.heap.size w wr ∧ w.heap.size + 2 ≤ wr.heap.size)) (fun kk _ => r - (intOf kk).toNat)
  case atStart => exact ⟨0, Nat.zero_le _, rfl, ⟨by simp [go_sem], by simp [go_sem]⟩, ⟨by simp [go_sem, leastF], by simp [go_sem, leastF]⟩, ⟨by simp [go_sem], by simp [go_sem], by simp [go_sem], by simp [go_sem]⟩, ⟨(by repeat (first | exact Below.refl _ _ | exact Hid.out (by assumption) | refine below_alloc ?_ _ | refine Below.setCell ?_ (by simp <;> omega) _ | refine Below.alloc ?_ (by simp <;> omega) _ | refine Below.drew ?_ | refine below_drewN ?_ _)), by simp⟩⟩
  case round =>
    obtain ⟨k, hk, rfl, H0, H1, HF, HB⟩ := hrel
    by_cases hlt : k < r
    · have d1 : (k : Int) < r := by omega
      obtain ⟨y, rfl, hy0⟩ := HA.out (k * 2) (by omega)
      obtain ⟨y', hy', hy1⟩ := HA.out (k * 2 + 1) (by omega)
      cases hy'
      have e0 : offC q (k * 2) = .int .u8 (q k).1 := by unfold offC; rw [if_pos (by omega)]; rw [show k * 2 / 2 = k by omega]
      have e1 : offC q (k * 2 + 1) = .int .i64 (q k).2 := by unfold offC; rw [if_neg (by omega)]; rw [show (k * 2 + 1) / 2 = k by omega]
      have a0 := (HB.out.1.cell (World.block_lt_of_cell? _ _ hy0)).trans hy0
      have a1 := (HB.out.1.cell (World.block_lt_of_cell? _ _ hy1)).trans hy1
      have hyl : y.block < w.heap.size := by have := World.block_lt_of_cell? _ _ hy0; rwa [block_add] at this
      rw [e0] at a0
      rw [e1, ← add_add', add_pos (by omega)] at a1
      have HS := Lib.hid (leastF_step q k)
      have HZ := Lib.hid (show k = 0 → leastF q (k + 1) = q k from fun e => by subst e; rfl)
      have hsz := HB.out.2
      obtain ⟨b0, b1⟩ := H1.out
      obtain ⟨f0, f1, f2, f3⟩ := HF.out
      generalize hL : leastF q k = L at *
      clear hL hy0 hy1 e0 e1
      obtain ⟨l0, l1⟩ := L
      generalize hQ : q k = Q at *
      clear hQ
      obtain ⟨q0, q1⟩ := Q
      by_cases hk0 : k = 0
      · have HR := Lib.hid (HZ.out hk0)
        clear HS HZ
        subst hk0
        have c0 : wr.cell? y = some (.int .u8 q0) := by rw [Nat.zero_mul] at a0; exact a0
        have c1 : wr.cell? ⟨y.block, y.off + 1, none⟩ = some (.int .i64 q1) := by rw [Nat.zero_mul] at a1; exact a1
        clear a0 a1
        go_wp2_with fail
        obtain ⟨W0, hW0⟩ : ∃ W0, W0 = wr.alloc (.cells #[.int .u8 q0, .int .i64 q1] 82) := ⟨_, rfl⟩
        rw [← hW0]
        have N0 := Lib.hid (show Below wr.heap.size wr W0 by rw [hW0]; exact (Below.refl _ _).alloc (Nat.le_refl _) _)
        have I0 := Lib.hid (show Box2 W0 wr.heap.size (.int .u8 q0) (.int .i64 q1) by rw [hW0]; exact ⟨by simp [go_sem], by simp [go_sem]⟩)
        have hz0 : W0.heap.size = wr.heap.size + 1 := by rw [hW0]; simp
        clear hW0
        have HKeep := Lib.hid (show ∀ W, Below W0.heap.size W0 W → (W.cell? ⟨w.heap.size + 1, 0, none⟩ = some (.int .u8 l0) ∧ W.cell? ⟨w.heap.size + 1, 1, none⟩ = some (.int .i64 l1) ∧ W.cell? ⟨wr.heap.size, 0, none⟩ = some (.int .u8 q0) ∧ W.cell? ⟨wr.heap.size, 1, none⟩ = some (.int .i64 q1)) from fun W hW => by
          have X1 := (H1.out.below N0.out).below hW
          have X2 := I0.out.below hW
          exact ⟨X1.c0, X1.c1, X2.c0, X2.c1⟩)
        have HFro := Lib.hid (show ∀ W, Below W0.heap.size W0 W → (W.frozen? ⟨w.heap.size, 0, none⟩ = false ∧ W.frozen? ⟨w.heap.size, 1, none⟩ = false ∧ W.frozen? ⟨w.heap.size + 1, 0, none⟩ = false ∧ W.frozen? ⟨w.heap.size + 1, 1, none⟩ = false) from fun W hW => by
          have Y := N0.out.trans (hW.mono (by omega))
          obtain ⟨f0, f1, f2, f3⟩ := HF.out
          exact ⟨(Y.frozen (p := ⟨w.heap.size, 0, none⟩) (by simp; omega)).trans f0, (Y.frozen (p := ⟨w.heap.size, 1, none⟩) (by simp; omega)).trans f1, (Y.frozen (p := ⟨w.heap.size + 1, 0, none⟩) (by simp; omega)).trans f2, (Y.frozen (p := ⟨w.heap.size + 1, 1, none⟩) (by simp; omega)).trans f3⟩)
        go_quiet (fail)
        clear b0 b1 f0 f1 f2 f3
        have NU := Lib.hid (show Below W0.heap.size W0 (W0.drewN nq) from (below_drewN (Below.refl _ _) nq))
        obtain ⟨s0, s1, s2, s3⟩ := HKeep.out _ NU.out
        obtain ⟨f0, f1, f2, f3⟩ := HFro.out _ NU.out
        generalize (W0.drewN nq) = U at *
        have NT := Lib.hid (show Below w.heap.size w U from HB.out.1.trans ((N0.out.trans (NU.out.mono (by omega))).mono HB.out.1.size))
        have Z0 := Lib.hid (((H0.out.below N0.out).below NU.out))
        have hzU := NU.out.size
        go_wp2_with fail
        exact ⟨⟨0 + 1, by omega, by simp, box2_far (by omega) Z0.out, by rw [HR.out]; exact box2_put (a := .int .u8 l0) (b := .int .i64 l1) ⟨s0, s1⟩, ⟨by simp only [World.frozen?_setCell]; exact f0, by simp only [World.frozen?_setCell]; exact f1, by simp only [World.frozen?_setCell]; exact f2, by simp only [World.frozen?_setCell]; exact f3⟩, ⟨(NT.out.setCell (by simp) _).setCell (by simp) _, by simp; omega⟩⟩, by simp [intOf]; omega⟩
      · have d2 : ((k : Int) == 0) = false := by simp; omega
        have HR := Lib.hid (HS.out hk0)
        clear hk0 HS HZ
        go_wp2_with fail
        obtain ⟨W0, hW0⟩ : ∃ W0, W0 = wr.alloc (.cells #[.int .u8 q0, .int .i64 q1] 82) := ⟨_, rfl⟩
        rw [← hW0]
        have N0 := Lib.hid (show Below wr.heap.size wr W0 by rw [hW0]; exact (Below.refl _ _).alloc (Nat.le_refl _) _)
        have I0 := Lib.hid (show Box2 W0 wr.heap.size (.int .u8 q0) (.int .i64 q1) by rw [hW0]; exact ⟨by simp [go_sem], by simp [go_sem]⟩)
        have hz0 : W0.heap.size = wr.heap.size + 1 := by rw [hW0]; simp
        clear hW0
        have HKeep := Lib.hid (show ∀ W, Below W0.heap.size W0 W → (W.cell? ⟨w.heap.size + 1, 0, none⟩ = some (.int .u8 l0) ∧ W.cell? ⟨w.heap.size + 1, 1, none⟩ = some (.int .i64 l1) ∧ W.cell? ⟨wr.heap.size, 0, none⟩ = some (.int .u8 q0) ∧ W.cell? ⟨wr.heap.size, 1, none⟩ = some (.int .i64 q1)) from fun W hW => by
          have X1 := (H1.out.below N0.out).below hW
          have X2 := I0.out.below hW
          exact ⟨X1.c0, X1.c1, X2.c0, X2.c1⟩)
        have HFro := Lib.hid (show ∀ W, Below W0.heap.size W0 W → (W.frozen? ⟨w.heap.size, 0, none⟩ = false ∧ W.frozen? ⟨w.heap.size, 1, none⟩ = false ∧ W.frozen? ⟨w.heap.size + 1, 0, none⟩ = false ∧ W.frozen? ⟨w.heap.size + 1, 1, none⟩ = false) from fun W hW => by
          have Y := N0.out.trans (hW.mono (by omega))
          obtain ⟨f0, f1, f2, f3⟩ := HF.out
          exact ⟨(Y.frozen (p := ⟨w.heap.size, 0, none⟩) (by simp; omega)).trans f0, (Y.frozen (p := ⟨w.heap.size, 1, none⟩) (by simp; omega)).trans f1, (Y.frozen (p := ⟨w.heap.size + 1, 0, none⟩) (by simp; omega)).trans f2, (Y.frozen (p := ⟨w.heap.size + 1, 1, none⟩) (by simp; omega)).trans f3⟩)
        clear b0 b1 f0 f1 f2 f3
        obtain ⟨s0, s1, s2, s3⟩ := HKeep.out _ (Below.refl _ _)
        by_cases hq : q1 < l1
        · rw [if_pos hq] at HR
          have hd : decide (q1 < l1) = true := decide_eq_true hq
          clear hq
          go_region_held3 (fun W => W.cell? ⟨w.heap.size + 1, 0, none⟩ = some (.int .u8 l0) ∧ W.cell? ⟨w.heap.size + 1, 1, none⟩ = some (.int .i64 l1) ∧ W.cell? ⟨wr.heap.size, 0, none⟩ = some (.int .u8 q0) ∧ W.cell? ⟨wr.heap.size, 1, none⟩ = some (.int .i64 q1))
            (exact HKeep.out _ (by repeat (first | exact Below.refl _ _ | exact Hid.out (by assumption) | refine below_alloc ?_ _ | refine Below.setCell ?_ (by simp <;> omega) _ | refine Below.alloc ?_ (by simp <;> omega) _ | refine Below.drew ?_ | refine below_drewN ?_ _)))
            (first
              | (go_at_call 90
                 refine (HCo.out _ _ _).mono ?_
                 rintro e ua ⟨rfl, hb⟩
                 have PU := Lib.hid (Below.step (w := W0) (by repeat (first | exact Below.refl _ _ | exact Hid.out (by assumption) | refine below_alloc ?_ _ | refine Below.setCell ?_ (by simp <;> omega) _ | refine Below.alloc ?_ (by simp <;> omega) _ | refine Below.drew ?_ | refine below_drewN ?_ _)) (Nat.le_refl _) hb)
                 clear hb))
          clear s0 s1 s2 s3
          have NU := Lib.hid (show Below W0.heap.size W0 ua from PU.out)
          obtain ⟨s0, s1, s2, s3⟩ := HKeep.out _ NU.out
          obtain ⟨f0, f1, f2, f3⟩ := HFro.out _ NU.out
          generalize ua = U at *
          have NT := Lib.hid (show Below w.heap.size w U from HB.out.1.trans ((N0.out.trans (NU.out.mono (by omega))).mono HB.out.1.size))
          have Z0 := Lib.hid (((H0.out.below N0.out).below NU.out))
          have hzU := NU.out.size
          go_wp2_with fail
          exact ⟨⟨k + 1, by omega, by simp, box2_far (by omega) Z0.out, by rw [HR.out]; exact box2_put (a := .int .u8 l0) (b := .int .i64 l1) ⟨s0, s1⟩, ⟨by simp only [World.frozen?_setCell]; exact f0, by simp only [World.frozen?_setCell]; exact f1, by simp only [World.frozen?_setCell]; exact f2, by simp only [World.frozen?_setCell]; exact f3⟩, ⟨(NT.out.setCell (by simp) _).setCell (by simp) _, by simp; omega⟩⟩, by simp [intOf]; omega⟩
        · rw [if_neg hq] at HR
          have hd : decide (q1 < l1) = false := decide_eq_false hq
          clear hq
          go_region_held3 (fun W => W.cell? ⟨w.heap.size + 1, 0, none⟩ = some (.int .u8 l0) ∧ W.cell? ⟨w.heap.size + 1, 1, none⟩ = some (.int .i64 l1) ∧ W.cell? ⟨wr.heap.size, 0, none⟩ = some (.int .u8 q0) ∧ W.cell? ⟨wr.heap.size, 1, none⟩ = some (.int .i64 q1))
            (exact HKeep.out _ (by repeat (first | exact Below.refl _ _ | exact Hid.out (by assumption) | refine below_alloc ?_ _ | refine Below.setCell ?_ (by simp <;> omega) _ | refine Below.alloc ?_ (by simp <;> omega) _ | refine Below.drew ?_ | refine below_drewN ?_ _)))
            (first
              | (go_at_call 90
                 refine (HCo.out _ _ _).mono ?_
                 rintro e ua ⟨rfl, hb⟩
                 have PU := Lib.hid (Below.step (w := W0) (by repeat (first | exact Below.refl _ _ | exact Hid.out (by assumption) | refine below_alloc ?_ _ | refine Below.setCell ?_ (by simp <;> omega) _ | refine Below.alloc ?_ (by simp <;> omega) _ | refine Below.drew ?_ | refine below_drewN ?_ _)) (Nat.le_refl _) hb)
                 clear hb))
          clear s0 s1 s2 s3
          have NU := Lib.hid (show Below W0.heap.size W0 ua from PU.out)
          obtain ⟨s0, s1, s2, s3⟩ := HKeep.out _ NU.out
          obtain ⟨f0, f1, f2, f3⟩ := HFro.out _ NU.out
          generalize ua = U at *
          have NT := Lib.hid (show Below w.heap.size w U from HB.out.1.trans ((N0.out.trans (NU.out.mono (by omega))).mono HB.out.1.size))
          have Z0 := Lib.hid (((H0.out.below N0.out).below NU.out))
          have hzU := NU.out.size
          go_wp2_with fail
          exact ⟨⟨k + 1, by omega, by simp, Z0.out, by rw [HR.out]; exact ⟨s0, s1⟩, ⟨f0, f1, f2, f3⟩, ⟨NT.out, by omega⟩⟩, by simp [intOf]; omega⟩
    · have d1 : ¬ (k : Int) < r := by omega
      obtain rfl : r = k := by omega
      obtain ⟨z0, z1⟩ := H0.out
      obtain ⟨b0, b1⟩ := H1.out
      obtain ⟨f0, f1, f2, f3⟩ := HF.out
      go_wp2_with fail
      refine bodyPost_ret (v := .agg #[.int .u8 (leastF q r).1, .int .i64 (leastF q r).2]) (by simp [results, Try.results89, World.cell?_setCell_other, go_sem, z0, z1]) rfl ⟨rfl, (HB.out.1.setCell (by simp) _).setCell (by simp) _⟩
end Go.Proofs.Ytcnamfjojdjjgaa
