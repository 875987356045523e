/- A forward look: the reference's rows, one behind another; the chance of a word. -/
import Derived.Test.YtikgnpajjbjkcaaFwdS
import Derived.Test.YtikgnpajjbjkcaaHidI2
import Derived.Test.YtikgnpajjbjkcaaKeepApp
import Derived.Deep.RegionHeld3
set_option linter.unusedVariables false
namespace Go.Proofs.Ytikgnpajjbjkcaa
open Go.RowKit

theorem infoFF : (Try.prog.info? 22).map (fun i => (i.zero, i.size, i.bytes)) = some (some (.slice none 0 0), 1, 24) := by kernel_rfl
theorem own_below {w w' : World} {base size n : Nat} {e : TypeId} {v : Value} {xs : List Value} (h : w.ownsRow base e size v n xs) (b : Below w.heap.size w w') : w'.ownsRow base e size v n xs := by
  refine ⟨h.1, ?_⟩
  rcases h.2 with k | ⟨g, cap, cur, hv, hb, hh, rest⟩
  · exact .inl k
  · exact .inr ⟨g, cap, cur, hv, hb, by rw [b.block g (Array.getElem?_eq_some_iff.1 hh).1]; exact hh, rest⟩
theorem Cells.grown {w w' : World} {A : Option Addr} {n : Nat} {V : Nat → Value} {row : Option Nat} (h : Cells w A n V) (hg : w.grownBy w' row) (hne : ∀ x, A = some x → row ≠ some x.block) : Cells w' A n V := fun k hk => by
  obtain ⟨x, hx, hc⟩ := h k hk
  refine ⟨x, hx, ?_⟩
  rw [World.cell?_of_block (w := w) (hg.block _ (World.block_lt_of_cell? _ _ hc) (by rw [block_add]; exact fun e => hne x hx e.symm))]
  exact hc
theorem listV_congr {n : Nat} {U V : Nat → Value} (h : ∀ i, i < n → U i = V i) : listV n U = listV n V := by
  unfold listV
  exact List.map_congr_left fun i hi => h i (List.mem_range.1 hi)
/-- A slice of rows of floats. -/
def FRows (w w' : World) (e : Ending) (n N : Nat) (F : Nat → Nat → Nat) : Prop :=
  ∃ (A : Option Addr) (d : Nat) (R : Nat → Option Addr) (cp : Nat → Nat), e = .returned (.slice A n d) ∧ Cells w' A n (fun i => .slice (R i) N (cp i)) ∧ (∀ i, i < n → Cells w' (R i) N (fun j => .float .f32 (F i j))) ∧ Below w.heap.size w w'

set_option maxRecDepth 20000 in
set_option maxHeartbeats 8000000 in
theorem l03Forward_any (P N L : Nat) (A B C D : Option Addr) (n c m d o q p e : Nat) (f g h : Nat → Nat) (v : Nat → Int) (w : World) (N1 : 1 ≤ N) (N2 : N ≤ 5) (L2 : L ≤ 4) (hp : p ≤ 12) (hv : ∀ k, k < p → 0 ≤ v k ∧ (v k).toNat < L)
    (hf : ∀ i, i < N → S 149 (f i)) (hg : ∀ i, i < N * N → S 149 (g i)) (hh : ∀ i, i < N * L → S 149 (h i))
    (hA : Cells w A N (fun i => .float .f32 (f i))) (hB : Cells w B (N * N) (fun i => .float .f32 (g i))) (hC : Cells w C (N * L) (fun i => .float .f32 (h i))) (hD : Cells w D p (fun i => .int .i64 (v i)))
    (b : Box5 w P (.int .i64 N) (.int .i64 L) (.slice A N c) (.slice B (N * N) d) (.slice C (N * L) q)) :
    Calls Try.prog 72 #[.pointer (some ⟨P, 0, none⟩), .slice D p e] w fun e w' => FRows w w' e (p + 1) N (fwdR f g h N L v) := by
  obtain ⟨ri, hri, hrz, hrs, hrb⟩ := info_parts infoFF
  have HA := Lib.hid hA
  have HB := Lib.hid hB
  have HC := Lib.hid hC
  have HD := Lib.hid hD
  have X := Lib.hid b
  have HN := Lib.hid (fun k (hk : k < p) R rc W t1 t2 t3 t4 => l03Next_any P N L A B C R N c m d o q rc (v k).toNat (149 + 5 * k) g h (fwdR f g h N L v k) W N1 N2 L2 (hv k hk).2 (by omega) (fwdR_S N2 hp hf hg hh (fun k hk => (hv k hk).2) k (by omega)) hg hh t1 t2 t3 t4)
  have HV := Lib.hid hv
  clear hA hB hC hD hf hg hh hv
  obtain ⟨x0, x1, x2, x3, x4⟩ := X.out
  clear b
  go_enter Try.func72, Try.ntmps72
  go_wp2_with fail
  go_loopw [5, 6, 14] (fun out _ kk wr => ∃ (k : Nat) (R : Nat → Option Addr) (cp : Nat → Nat), k ≤ p ∧ kk = .int .i64 k ∧ Hid (wr.ownsRow w.heap.size 22 1 out (k + 1) (listV ((k + 1) * 1) (fun i => .slice (R i) N (cp i)))) ∧
    Hid (∀ i, i < k + 1 → Cells wr (R i) N (fun j => .float .f32 (fwdR f g h N L v i j)) ∧ ∀ x, R i = some x → out.ownBlock ≠ some x.block) ∧ Hid (Below w.heap.size w wr)) (fun _ _ kk _ => p - (intOf kk).toNat)
  case atStart =>
    refine ⟨0, fun _ => A, fun _ => c, Nat.zero_le _, rfl, World.ownsRow_lit w #[_] 1 (Nat.le_refl _) (by unfold maxLen; omega) rfl, fun i hi => ⟨?_, fun x hx => ?_⟩, (by repeat (first | exact Below.refl _ _ | exact Hid.out (by assumption) | refine below_alloc ?_ _ | refine Below.setCell ?_ (by simp <;> omega) _ | refine Below.alloc ?_ (by simp <;> omega) _ | refine Below.drew ?_ | refine below_drewN ?_ _))⟩
    · obtain rfl : i = 0 := by omega
      exact HA.out.below ((Below.refl _ _).alloc (Nat.le_refl _) _)
    · obtain ⟨y, hy, hc⟩ := HA.out 0 (by omega)
      rw [hy] at hx
      cases hx
      have := World.block_lt_of_cell? _ _ hc
      rw [block_add] at this
      simp [Value.ownBlock]
      omega
  case round =>
    obtain ⟨k, R, cp, hk, rfl, HO, HRs, HW⟩ := hrel
    clear x0 x1 x2 x3 x4
    have XR := Lib.hid (X.out.below HW.out)
    have HRk := Lib.hid (HRs.out k (by omega)).1
    obtain ⟨gb, cap, cur, rfl, hb1, hb2, -⟩ : ∃ gb cap cur, u5 = .slice (some ⟨gb, 0, none⟩) (k + 1) cap ∧ w.heap.size ≤ gb ∧ wr.heap[gb]? = some (.cells cur 22 (0, 0)) ∧ True := by
      rcases HO.out.2 with ⟨_, h0⟩ | ⟨g', cap, cur, e1, e2, e3, _⟩
      · omega
      · exact ⟨g', cap, cur, e1, e2, e3, trivial⟩
    have hgb : gb < wr.heap.size := (Array.getElem?_eq_some_iff.1 hb2).1
    clear hb2
    by_cases hlt : k < p
    · have d1 : (k : Int) < p := by omega
      have d2 : (k : Int) < (k : Int) + 1 := by omega
      obtain ⟨v1, v2⟩ := HV.out k hlt
      obtain ⟨zz, hzz⟩ : ∃ zz : Nat, v k = zz := ⟨(v k).toNat, by omega⟩
      obtain ⟨y, rfl, hy0⟩ := HD.out k hlt
      have k2 : wr.cell? (y.add k) = some (.int .i64 zz) := by rw [HW.out.cell (World.block_lt_of_cell? _ _ hy0), hy0, ← hzz]
      have k1 : wr.cell? ⟨gb, k, none⟩ = some (.slice (R k) N (cp k)) := by rw [HO.out.cellAt k (by omega)]; exact listV_get _ (by omega)
      have HNk := Lib.hid (HN.out k hlt (R k) (cp k))
      rw [hzz] at HNk
      have HFk := Lib.hid (show fwdR f g h N L v (k + 1) = nextR g h N L (fwdR f g h N L v k) zz by show nextR g h N L _ (v k).toNat = _; rw [hzz]; rfl)
      have HKeep := Lib.hid (show ∀ W, Below wr.heap.size wr W → (W.cell? ⟨gb, k, none⟩ = some (.slice (R k) N (cp k)) ∧ W.cell? (y.add k) = some (.int .i64 zz)) from fun W hW => ⟨(hW.cell (World.block_lt_of_cell? _ _ k1)).trans k1, (hW.cell (World.block_lt_of_cell? _ _ k2)).trans k2⟩)
      have HYB := Lib.hid (show y.block < w.heap.size by have := World.block_lt_of_cell? _ _ hy0; rwa [block_add] at this)
      clear hy0 hzz v1 v2
      rw [show ((zz : Int)).toNat = zz from rfl] at HNk
      go_wp2_with fail
      go_region_held3 (fun W => W.cell? ⟨gb, k, none⟩ = some (.slice (R k) N (cp k)) ∧ W.cell? (y.add k) = some (.int .i64 zz))
        (first
          | (exact HK5.out)
          | (exact HKeep.out _ (by repeat (first | exact Below.refl _ _ | exact Hid.out (by assumption) | refine below_alloc ?_ _ | refine Below.setCell ?_ (by simp <;> omega) _ | refine Below.alloc ?_ (by simp <;> omega) _ | refine Below.drew ?_ | refine below_drewN ?_ _))))
        (first
          | (go_at_call 79
             refine (HNk.out _ (HRk.out.below (by repeat (first | exact Below.refl _ _ | exact Hid.out (by assumption) | refine below_alloc ?_ _ | refine Below.setCell ?_ (by simp <;> omega) _ | refine Below.alloc ?_ (by simp <;> omega) _ | refine Below.drew ?_ | refine below_drewN ?_ _))) (HB.out.below (HW.out.trans (Below.mono (show Below wr.heap.size wr _ from (by repeat (first | exact Below.refl _ _ | exact Hid.out (by assumption) | refine below_alloc ?_ _ | refine Below.setCell ?_ (by simp <;> omega) _ | refine Below.alloc ?_ (by simp <;> omega) _ | refine Below.drew ?_ | refine below_drewN ?_ _))) HW.out.size))) (HC.out.below (HW.out.trans (Below.mono (show Below wr.heap.size wr _ from (by repeat (first | exact Below.refl _ _ | exact Hid.out (by assumption) | refine below_alloc ?_ _ | refine Below.setCell ?_ (by simp <;> omega) _ | refine Below.alloc ?_ (by simp <;> omega) _ | refine Below.drew ?_ | refine below_drewN ?_ _))) HW.out.size))) (XR.out.below (by repeat (first | exact Below.refl _ _ | exact Hid.out (by assumption) | refine below_alloc ?_ _ | refine Below.setCell ?_ (by simp <;> omega) _ | refine Below.alloc ?_ (by simp <;> omega) _ | refine Below.drew ?_ | refine below_drewN ?_ _)))).mono ?_
             rintro e u1 ⟨A2, d2, g2, rfl, h1, h2, h3, hb⟩
             have NU := Lib.hid (Below.step (w := wr) (by repeat (first | exact Below.refl _ _ | exact Hid.out (by assumption) | refine below_alloc ?_ _ | refine Below.setCell ?_ (by simp <;> omega) _ | refine Below.alloc ?_ (by simp <;> omega) _ | refine Below.drew ?_ | refine below_drewN ?_ _)) (Nat.le_refl _) hb)
             have O3 := Lib.hid h3
             have L3 := Lib.hid h2
             clear hb h1 h2 h3)
          | (refine step_append_keep _ rfl (.tmp 17) (.tmp 28) 72 rfl w.heap.size 22 ri (.slice none 0 0) 1 24 Try.underlying72 hri hrz hrs hrb rfl (by decide) gb cap (k + 1) _ rfl ((own_below HO.out NU.out).alloc _)
               ⟨u1.heap.size, 0, none⟩ 1 1 (litOne (.slice A2 N d2)) rfl (cells_lit1 rfl) (fun _ _ => rfl) (by unfold maxLen; omega) (by omega) (by have := NU.out.size; simp; omega) ?_
             intro v1 w2 hown hgrow hwhere hkeep
             have HOWN := Lib.hid hown
             have HGR := Lib.hid hgrow
             have HWH := Lib.hid hwhere
             have hlu := Nat.lt_of_lt_of_le hgb NU.out.size
             have HK5 := Lib.hid (show w2.cell? ⟨gb, k, none⟩ = some (.slice (R k) N (cp k)) ∧ w2.cell? (y.add k) = some (.int .i64 zz) from
               ⟨by rw [hkeep k (by omega)]; exact (HKeep.out _ (Below.alloc NU.out NU.out.size _)).1, by
                 have q := (HKeep.out _ (Below.alloc NU.out NU.out.size (.cells #[.slice A2 N d2] 22))).2
                 rw [World.cell?_of_block (hgrow.block _ (World.block_lt_of_cell? _ _ q) (by rw [block_add]; intro e; injection e with e; have := HYB.out; omega))]
                 exact q⟩)
             clear hown hgrow hwhere hkeep))
      all_goals (
        go_wp2_with fail
        have HROW : ∀ (A' : Option Addr) (V : Nat → Value), Cells u1 A' N V → (∀ x, A' = some x → x.block ≠ gb) → Cells w2 A' N V ∧ ∀ x, A' = some x → v1.ownBlock ≠ some x.block := fun A' V hc hne => by
          refine ⟨Cells.grown (hc.below (show Below u1.heap.size u1 _ from (by repeat (first | exact Below.refl _ _ | exact Hid.out (by assumption) | refine below_alloc ?_ _ | refine Below.setCell ?_ (by simp <;> omega) _ | refine Below.alloc ?_ (by simp <;> omega) _ | refine Below.drew ?_ | refine below_drewN ?_ _)))) HGR.out (fun x hx e => by injection e with e; exact hne x hx e.symm), fun x hx e => ?_⟩
          obtain ⟨y', hy', hc'⟩ := hc 0 (by omega)
          rw [hx] at hy'
          cases hy'
          have hlt' := World.block_lt_of_cell? _ _ hc'
          rw [block_add] at hlt'
          rcases HWH.out with h' | h'
          · rw [h'] at e; injection e with e; exact hne x hx e.symm
          · rw [h'] at e; injection e with e; simp at e; omega
        have hb : Below wr.heap.size wr u1 := NU.out
        refine ⟨⟨k + 1, fun i => if i < k + 1 then R i else A2, fun i => if i < k + 1 then cp i else d2, by omega, by simp, ?b1, fun i hi => ?b2, ?b3⟩, by simp [intOf]; omega⟩
        case b1 =>
          have h' := HOWN.out
          rw [listV_congr (n := (k + 1) * 1) (V := fun i => .slice (if i < k + 1 then R i else A2) N (if i < k + 1 then cp i else d2)) (fun i hi => by rw [if_pos (by omega), if_pos (by omega)]),
            list_lit1 (k + 1) (fun i => .slice (if i < k + 1 then R i else A2) N (if i < k + 1 then cp i else d2)) (.slice A2 N d2) (by rw [if_neg (by omega), if_neg (by omega)])] at h'
          exact h'
        case b2 =>
          show Cells w2 (if i < k + 1 then R i else A2) N _ ∧ ∀ x, (if i < k + 1 then R i else A2) = some x → _
          by_cases hi2 : i < k + 1
          · rw [if_pos hi2]
            exact HROW _ _ ((HRs.out i hi2).1.below hb) (fun x hx e => (HRs.out i hi2).2 x hx (by simp [Value.ownBlock, e]))
          · rw [if_neg hi2]
            obtain rfl : i = k + 1 := by omega
            rw [HFk.out]
            refine HROW _ _ O3.out.cells (fun x hx e => ?_)
            obtain ⟨y', hy', hg', -⟩ := O3.out 0 (by omega)
            rw [hx] at hy'
            cases hy'
            have := L3.out
            simp at this
            omega
        case b3 => exact Below.grown (Below.alloc (HW.out.trans (hb.mono HW.out.size)) (by have := HW.out.size; have := hb.size; omega) _) HGR.out (by have := HW.out.size; have := hb.size; simp; omega) (fun j hj => by cases hj; exact hb1))
    · have d1 : ¬ (k : Int) < p := by omega
      obtain rfl : p = k := by omega
      have HF := Lib.hid (show FRows w wr (.returned (.slice (some ⟨gb, 0, none⟩) (p + 1) cap)) (p + 1) N (fwdR f g h N L v) from ⟨_, _, R, cp, rfl, by
        obtain ⟨A2, c2, g2, e2, -, -, h3⟩ := own_cells HO.out
        cases e2
        exact h3.cells, fun i hi => (HRs.out i hi).1, HW.out⟩)
      go_wp2_with fail
      go_ret
      exact HF.out
end Go.Proofs.Ytikgnpajjbjkcaa
