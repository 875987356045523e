/- A forward look, and the chance of a word: the program's. -/
import Derived.Test.YtikgnpajjbjkcaaChanS
import Derived.Test.YtikgnpajjbjkcaaFwdI
set_option linter.unusedVariables false
namespace Go.Proofs.Ytikgnpajjbjkcaa
open Go.RowKit
/-- A call's result is a row that may grow. -/
def OwnRes (w w' : World) (e : Ending) (n : Nat) (V : Nat → Nat) : Prop := ∃ v, e = .returned v ∧ w'.ownsRow w.heap.size 36 1 v n (listV (n * 1) (fun i => .float .f32 (V i))) ∧ Below w.heap.size w w'
set_option maxRecDepth 20000 in
theorem cloneFo_any (a : Addr) (n c : Nat) (f : Nat → Nat) (w : World) (hn : n ≤ 1048576) (h : Cells w (some a) (n * 1) (fun i => .float .f32 (f i))) :
    Calls Try.prog 108 #[.slice (some a) n c] w fun e w' => OwnRes w w' e n f := by
  obtain ⟨i, hi, hz, hs, hb⟩ := info_parts infoF1
  have H := Lib.hid h
  clear h
  have hnil : (binOp .eql 22 (.slice (some a) n c) (.slice none 0 0)).run Try.prog w = .ok (.bool false) w := run_eql_slice_nil w 22 36 (some a) n c Try.underlying22
  go_enter Try.func108, Try.ntmps108
  go_wp2_with (first
    | (at_builtin; refine wpList_append_cells _ rfl _ _ 22 rfl w.heap.size 36 i (.float .f32 0) 1 4 Try.underlying22 hi hz hs hb rfl (by decide) (.slice (some ⟨w.heap.size, 0, none⟩) 0 0) 0 [] rfl (World.ownsRow_lit w #[] 0 (Nat.le_refl _) (by unfold maxLen; omega) rfl) (some a) n c (fun i => .float .f32 (f i)) rfl (H.out.below ((Below.refl _ _).alloc (Nat.le_refl _) _)) (fun _ _ => rfl) (by unfold maxLen; omega) (by omega) (by simp) ?_; intro v1 w1 hown1 hgrow1 hwhere1)
    | go_in)
  have hb1 : Below w.heap.size w w1 := ((Below.refl _ _).alloc (Nat.le_refl _) _).grown hgrow1 (by simp) (fun k hk => by cases hk; exact Nat.le_refl _)
  rw [Nat.zero_add, List.nil_append] at hown1
  have HF := Lib.hid (show OwnRes w w1 (.returned v1) n f from ⟨v1, rfl, hown1, hb1⟩)
  clear hown1 hgrow1 hwhere1 hb1
  go_ret
  exact HF.out

/-- Rows as one list. -/
def flatR (F : Nat → Nat → Nat) (N t : Nat) : Nat := F (t / N) (t % N)
theorem flat_at {F : Nat → Nat → Nat} {N k j : Nat} (hj : j < N) : flatR F N (k * N + j) = F k j := by
  unfold flatR
  rw [Nat.add_comm, Nat.add_mul_div_right _ _ (by omega), Nat.div_eq_of_lt hj, Nat.zero_add, Nat.add_mul_mod_self_right, Nat.mod_eq_of_lt hj]
theorem list_app {a b : Nat} {V W U : Nat → Value} (h1 : ∀ i, i < a → V i = U i) (h2 : ∀ j, j < b → W j = U (a + j)) : listV (a * 1) V ++ listV (b * 1) W = listV ((a + b) * 1) U := by
  rw [Nat.mul_one, Nat.mul_one, Nat.mul_one]
  unfold listV
  rw [List.range_add, List.map_append, List.map_map]
  congr 1
  · exact List.map_congr_left fun i hi => h1 i (List.mem_range.1 hi)
  · exact List.map_congr_left fun j hj => h2 j (List.mem_range.1 hj)

set_option maxRecDepth 20000 in
set_option maxHeartbeats 8000000 in
theorem forwardRows_any (N L : Nat) (A B C D : Option Addr) (c d q p e : Nat) (f g h : Nat → Nat) (v : Nat → Int) (w : World) (N1 : 1 ≤ N) (N2 : N ≤ 5) (L2 : L ≤ 4) (hp : p ≤ 12) (hv : ∀ k, k < p → 0 ≤ v k ∧ (v k).toNat < L)
    (hf : ∀ i, i < N → S 149 (f i)) (hg : ∀ i, i < N * N → S 149 (g i)) (hh : ∀ i, i < N * L → S 149 (h i))
    (hA : Cells w A N (fun i => .float .f32 (f i))) (hB : Cells w B (N * N) (fun i => .float .f32 (g i))) (hC : Cells w C (N * L) (fun i => .float .f32 (h i))) (hD : Cells w D p (fun i => .int .i64 (v i))) :
    Calls Try.prog 74 #[.agg #[.int .i64 N, .int .i64 L, .slice A N c, .slice B (N * N) d, .slice C (N * L) q], .slice D p e] w fun e w' => FRow w w' e ((p + 1) * N) (flatR (fwdR f g h N L v) N) := by
  obtain ⟨fi, hfi, hfz, hfs, hfb⟩ := info_parts infoF1
  have HB := Lib.hid hB
  have HC := Lib.hid hC
  have HD := Lib.hid hD
  have HN := Lib.hid (fun k (hk : k < p) R rc W t1 t2 t3 => rowBehind_any N L A B C R N c d q rc (v k).toNat (149 + 5 * k) g h (fwdR f g h N L v k) W N1 N2 L2 (hv k hk).2 (by omega) (fwdR_S N2 hp hf hg hh (fun k hk => (hv k hk).2) k (by omega)) hg hh t1 t2 t3)
  have HV := Lib.hid hv
  obtain ⟨ax, rfl, -⟩ := hA 0 (by omega)
  have HCl := Lib.hid (fun W t => cloneFo_any ax N c f W (by omega) t)
  have HA := Lib.hid hA
  have HF0 := Lib.hid (show fwdR f g h N L v 0 = f from rfl)
  clear hA hB hC hD hf hg hh hv
  go_enter Try.func74, Try.ntmps74
  go_wp2_with fail
  refine (HCl.out _ (by rw [Nat.mul_one]; exact HA.out.below (by repeat (first | exact Below.refl _ _ | exact Hid.out (by assumption) | refine below_alloc ?_ _ | refine Below.setCell ?_ (by simp <;> omega) _ | refine Below.alloc ?_ (by simp <;> omega) _ | refine Below.drew ?_ | refine below_drewN ?_ _)))).mono ?_
  rintro e w1 ⟨v1, rfl, hown, hb⟩
  have HO0 := Lib.hid hown
  have N1b := Lib.hid (show Below w.heap.size w w1 from Below.trans (by repeat (first | exact Below.refl _ _ | exact Hid.out (by assumption) | refine below_alloc ?_ _ | refine Below.setCell ?_ (by simp <;> omega) _ | refine Below.alloc ?_ (by simp <;> omega) _ | refine Below.drew ?_ | refine below_drewN ?_ _)) (hb.mono (by simp)))
  have X1 := Lib.hid (Box5.below (Box5.new w 27 (.int .i64 N) (.int .i64 L) (.slice (some ax) N c) (.slice B (N * N) d) (.slice C (N * L) q)) hb)
  have hz1 : w.heap.size < w1.heap.size := by have := hb.size; simp at this; omega
  clear hb hown
  go_wp2_with fail
  go_loopw [5, 6, 7, 13] (fun rv _ _ kk wr => ∃ k : Nat, k ≤ p ∧ kk = .int .i64 k ∧ Hid (wr.ownsRow (w.heap.size + 1) 36 1 rv ((k + 1) * N) (listV ((k + 1) * N * 1) (fun t => .float .f32 (flatR (fwdR f g h N L v) N t)))) ∧ Hid (Below (w.heap.size + 1) w1 wr)) (fun _ _ _ kk _ => p - (intOf kk).toNat)
  case atStart =>
    refine ⟨0, Nat.zero_le _, rfl, ?_, Below.refl _ _⟩
    have h' := HO0.out
    simp only [World.size_alloc] at h'
    rw [listV_congr (V := fun t => .float .f32 (flatR (fwdR f g h N L v) N t)) (fun t ht => by
      show Value.float .f32 (f t) = _
      have := flat_at (F := fwdR f g h N L v) (N := N) (k := 0) (j := t) (by omega)
      rw [Nat.zero_mul, Nat.zero_add, HF0.out] at this
      rw [this])] at h'
    rw [show (0 + 1) * N = N by omega]
    exact h'
  case round =>
    obtain ⟨k, hk, rfl, HO, HW⟩ := hrel
    have hzw := HW.out.size
    have XR := Lib.hid (show Box5 wr w.heap.size (.int .i64 N) (.int .i64 L) (.slice (some ax) N c) (.slice B (N * N) d) (.slice C (N * L) q) from
      ⟨(HW.out.cell (p := ⟨w.heap.size, 0, none⟩) (by simp)).trans X1.out.c0, (HW.out.cell (p := ⟨w.heap.size, 1, none⟩) (by simp)).trans X1.out.c1, (HW.out.cell (p := ⟨w.heap.size, 2, none⟩) (by simp)).trans X1.out.c2, (HW.out.cell (p := ⟨w.heap.size, 3, none⟩) (by simp)).trans X1.out.c3, (HW.out.cell (p := ⟨w.heap.size, 4, none⟩) (by simp)).trans X1.out.c4⟩)
    have NR := Lib.hid (show Below w.heap.size w wr from N1b.out.trans (HW.out.mono (by omega)))
    have hkN : 1 ≤ (k + 1) * N := Nat.mul_le_mul (show 1 ≤ k + 1 by omega) N1
    have hkb : (k + 1) * N ≤ 13 * 5 := Nat.mul_le_mul (by omega) N2
    obtain ⟨gb, cap, cur, rfl, hb1, hb2, hb3⟩ : ∃ gb cap cur, u5 = .slice (some ⟨gb, 0, none⟩) ((k + 1) * N) cap ∧ w.heap.size + 1 ≤ gb ∧ wr.heap[gb]? = some (.cells cur 36 (0, 0)) ∧ (k + 1) * N ≤ cap := by
      rcases HO.out.2 with ⟨_, h0⟩ | ⟨g', cap, cur, e1, e2, e3, e4, _⟩
      · omega
      · exact ⟨g', cap, cur, e1, e2, e3, e4⟩
    have hgb : gb < wr.heap.size := (Array.getElem?_eq_some_iff.1 hb2).1
    clear hb2
    by_cases hlt : k < p
    · have d1 : (k : Int) < p := by omega
      obtain ⟨v1', v2'⟩ := HV.out k hlt
      obtain ⟨zz, hzz⟩ : ∃ zz : Nat, v k = zz := ⟨(v k).toNat, by omega⟩
      obtain ⟨y, rfl, hy0⟩ := HD.out k hlt
      have k2 : wr.cell? (y.add k) = some (.int .i64 zz) := by rw [NR.out.cell (World.block_lt_of_cell? _ _ hy0), hy0, ← hzz]
      have HNk := Lib.hid (HN.out k hlt (some ⟨gb, k * N, none⟩) N)
      rw [hzz] at HNk
      have HFk := Lib.hid (show fwdR f g h N L v (k + 1) = nextR g h N L (fwdR f g h N L v k) zz by show nextR g h N L _ (v k).toNat = _; rw [hzz]; rfl)
      rw [show ((zz : Int)).toNat = zz from rfl] at HNk
      have hkk : k * N + N = (k + 1) * N := (Nat.succ_mul k N).symm
      have HRow := Lib.hid (show Cells wr (some ⟨gb, k * N, none⟩) N (fun j => .float .f32 (fwdR f g h N L v k j)) from by
        rw [← add0]
        exact (Cells.part (n := (k + 1) * N) (p := k * N) (z := N) (V := fun t => .float .f32 (flatR (fwdR f g h N L v) N t)) (by
          obtain ⟨A3, c3, g3, e3, -, -, h3⟩ := own_cells HO.out
          cases e3
          exact h3.cells) (by omega)).congr fun j hj => by rw [flat_at hj])
      have HRo := Lib.hid (fun W => show Calls Try.prog 69 #[.slice (some ⟨gb, 0, none⟩) ((k + 1) * N) cap, .int .i64 k, .int .i64 N] W fun e w' => e = .returned (.slice (some ⟨gb, k * N, none⟩) N N) ∧ W = w' by
        have q := rowOf_any ⟨gb, 0, none⟩ ((k + 1) * N) cap k N W (by omega) (by omega) (by omega)
        rw [add0] at q
        exact q)
      have HBr := Lib.hid (HB.out.below NR.out)
      have HCr := Lib.hid (HC.out.below NR.out)
      have HKeep := Lib.hid (show ∀ W, Below wr.heap.size wr W → (W.cell? ⟨w.heap.size, 0, none⟩ = some (.int .i64 N) ∧ W.cell? ⟨w.heap.size, 1, none⟩ = some (.int .i64 L) ∧ W.cell? ⟨w.heap.size, 2, none⟩ = some (.slice (some ax) N c) ∧ W.cell? ⟨w.heap.size, 3, none⟩ = some (.slice B (N * N) d) ∧ W.cell? ⟨w.heap.size, 4, none⟩ = some (.slice C (N * L) q)) from fun W hW => by
        have Y := XR.out.below hW
        exact ⟨Y.c0, Y.c1, Y.c2, Y.c3, Y.c4⟩)
      clear hy0 hzz v1' v2'
      obtain ⟨x0, x1, x2, x3, x4⟩ := XR.out
      go_wp2_with fail
      go_region_held3 (fun W => W.cell? ⟨w.heap.size, 0, none⟩ = some (.int .i64 N) ∧ W.cell? ⟨w.heap.size, 1, none⟩ = some (.int .i64 L) ∧ W.cell? ⟨w.heap.size, 2, none⟩ = some (.slice (some ax) N c) ∧ W.cell? ⟨w.heap.size, 3, none⟩ = some (.slice B (N * N) d) ∧ W.cell? ⟨w.heap.size, 4, none⟩ = some (.slice C (N * L) q))
        (first
          | (exact HK5.out)
          | (exact HKeep.out _ (by repeat (first | exact Below.refl _ _ | exact Hid.out (by assumption) | refine below_alloc ?_ _ | refine Below.setCell ?_ (by simp <;> omega) _ | refine Below.alloc ?_ (by simp <;> omega) _ | refine Below.drew ?_ | refine below_drewN ?_ _))))
        (first
          | (go_at_call 69
             refine (HRo.out _).mono ?_
             rintro e w' ⟨rfl, rfl⟩)
          | (go_at_call 83
             refine (HNk.out _ (HRow.out.below (by repeat (first | exact Below.refl _ _ | exact Hid.out (by assumption) | refine below_alloc ?_ _ | refine Below.setCell ?_ (by simp <;> omega) _ | refine Below.alloc ?_ (by simp <;> omega) _ | refine Below.drew ?_ | refine below_drewN ?_ _))) (HBr.out.below (by repeat (first | exact Below.refl _ _ | exact Hid.out (by assumption) | refine below_alloc ?_ _ | refine Below.setCell ?_ (by simp <;> omega) _ | refine Below.alloc ?_ (by simp <;> omega) _ | refine Below.drew ?_ | refine below_drewN ?_ _))) (HCr.out.below (by repeat (first | exact Below.refl _ _ | exact Hid.out (by assumption) | refine below_alloc ?_ _ | refine Below.setCell ?_ (by simp <;> omega) _ | refine Below.alloc ?_ (by simp <;> omega) _ | refine Below.drew ?_ | refine below_drewN ?_ _)))).mono ?_
             rintro e u1 ⟨A2, d2, g2, rfl, h1, h2, h3, hb⟩
             have NU := Lib.hid (Below.step (w := wr) (by repeat (first | exact Below.refl _ _ | exact Hid.out (by assumption) | refine below_alloc ?_ _ | refine Below.setCell ?_ (by simp <;> omega) _ | refine Below.alloc ?_ (by simp <;> omega) _ | refine Below.drew ?_ | refine below_drewN ?_ _)) (Nat.le_refl _) hb)
             obtain ⟨xx, rfl, -⟩ := h3 0 (by omega)
             have O3 := Lib.hid h3
             clear hb h1 h2 h3)
          | (refine step_append_keep _ rfl (.tmp 18) (.tmp 26) 22 rfl (w.heap.size + 1) 36 fi (.float .f32 0) 1 4 Try.underlying22 hfi hfz hfs hfb rfl (by decide) gb cap ((k + 1) * N) _ rfl (own_below HO.out NU.out)
               xx N d2 (fun j => .float .f32 (nextR g h N L (fwdR f g h N L v k) zz j)) rfl (by rw [Nat.mul_one]; exact O3.out.cells) (fun _ _ => rfl) (by unfold maxLen; omega) (by omega) (by have := NU.out.size; omega) ?_
             intro v1 w2 hown hgrow hwhere hkeep
             have HOWN := Lib.hid hown
             have HGR := Lib.hid hgrow
             have HWH := Lib.hid hwhere
             have hlu := Nat.lt_of_lt_of_le hgb NU.out.size
             have hwu := Nat.lt_of_lt_of_le (Nat.lt_of_lt_of_le hz1 hzw) NU.out.size
             have HBK := Lib.hid (show w2.heap[w.heap.size]? = u1.heap[w.heap.size]? from hgrow.block _ hwu (by intro e; injection e with e; omega))
             have HK5 := Lib.hid (show w2.cell? ⟨w.heap.size, 0, none⟩ = some (.int .i64 N) ∧ w2.cell? ⟨w.heap.size, 1, none⟩ = some (.int .i64 L) ∧ w2.cell? ⟨w.heap.size, 2, none⟩ = some (.slice (some ax) N c) ∧ w2.cell? ⟨w.heap.size, 3, none⟩ = some (.slice B (N * N) d) ∧ w2.cell? ⟨w.heap.size, 4, none⟩ = some (.slice C (N * L) q) from by
               obtain ⟨y0, y1, y2, y3, y4⟩ := HKeep.out _ NU.out
               exact ⟨(World.cell?_of_block (a := ⟨w.heap.size, 0, none⟩) HBK.out).trans y0, (World.cell?_of_block (a := ⟨w.heap.size, 1, none⟩) HBK.out).trans y1, (World.cell?_of_block (a := ⟨w.heap.size, 2, none⟩) HBK.out).trans y2, (World.cell?_of_block (a := ⟨w.heap.size, 3, none⟩) HBK.out).trans y3, (World.cell?_of_block (a := ⟨w.heap.size, 4, none⟩) HBK.out).trans y4⟩)
             clear hown hgrow hwhere hkeep))
      all_goals (
        go_wp2_with fail
        refine ⟨⟨k + 1, by omega, by simp, ?b1, ?b2⟩, by simp [intOf]; omega⟩
        case b1 =>
          have h' := HOWN.out
          rw [list_app (U := fun t => .float .f32 (flatR (fwdR f g h N L v) N t)) (fun _ _ => rfl) (fun j hj => by rw [flat_at hj, HFk.out])] at h'
          rw [Nat.succ_mul (k + 1) N]
          exact h'
        case b2 => exact Below.grown (HW.out.trans (NU.out.mono (by omega))) HGR.out (by have := NU.out.size; omega) (fun j hj => by cases hj; exact hb1))
    · have d1 : ¬ (k : Int) < p := by omega
      obtain rfl : p = k := by omega
      have HF := Lib.hid (show FRow w wr (.returned (.slice (some ⟨gb, 0, none⟩) ((p + 1) * N) cap)) ((p + 1) * N) (flatR (fwdR f g h N L v) N) from ⟨_, _, gb, rfl, hb3, by omega, by
        obtain ⟨A3, c3, g3, e3, -, -, h3⟩ := own_cells HO.out
        cases e3
        intro j hj
        obtain ⟨y', hy', q1, q2, q3⟩ := h3 j hj
        exact ⟨y', hy', by cases hy'; rfl, q2, q3⟩, NR.out⟩)
      go_wp2_with fail
      go_ret
      exact HF.out
end Go.Proofs.Ytikgnpajjbjkcaa
