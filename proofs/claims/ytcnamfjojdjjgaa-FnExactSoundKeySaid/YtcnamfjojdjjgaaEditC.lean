/- Least edits: their costs, as the program tells them. -/
import Derived.Test.YtcnamfjojdjjgaaEditF
set_option linter.unusedVariables false
set_option linter.unusedSimpArgs false
namespace Go.Proofs.Ytcnamfjojdjjgaa
open Go.RowKit
theorem GridK.keep {w w' : World} {G S i j : Nat} {E : Nat → Nat → Nat × Int} (h : GridK w G S E i j) (b : ∀ p : Addr, p.block < w.heap.size → w'.cell? p = w.cell? p) : GridK w' G S E i j := fun x y hy hlt => by
  obtain ⟨h1, h2⟩ := h x y hy hlt
  exact ⟨(b _ (World.block_lt_of_cell? _ _ h1)).trans h1, (b _ (World.block_lt_of_cell? _ _ h2)).trans h2⟩
set_option maxRecDepth 20000 in
theorem edits_any (a b : ByteArray) (p o c s : Int) (w : World) (hw : Weights p o c s) (ha : a.size ≤ 48) (hb : b.size ≤ 48) :
    Calls Try.prog 69 #[.agg #[.string a, .string b, .int .i64 p, .int .i64 o, .int .i64 c, .int .i64 s]] w fun e w' => GridRes a b p o c s w w' e := by
  have HFG := Lib.hid (fun W => filledGrid_any a b p o c s W hw ha hb)
  generalize hNN : (a.size + 1) * (b.size + 1) = NN
  go_enter Try.func69, Try.ntmps69
  go_wp2_with (first
    | (go_at_call 85
       refine (HFG.out _).mono ?_
       rintro e u1 ⟨G, rfl, hGl, hK, hbb⟩
       simp only [World.size_alloc] at hGl
       have HK := Lib.hid hK
       have HB := Lib.hid hbb
       have hs1 := hbb.size
       simp at hs1
       obtain ⟨z0, z1⟩ := Box2.below (w := (w.alloc (.cells #[.string a, .string b, .int .i64 p, .int .i64 o, .int .i64 c, .int .i64 s] 48)).alloc (.cells #[.slice none 0 0, .int .i64 0] 85)) (B := w.heap.size + 1) (u := .slice none 0 0) (v := .int .i64 0) ⟨by simp [go_sem], by simp [go_sem]⟩ hbb
       have f0 : u1.frozen? ⟨w.heap.size + 1, 0, none⟩ = false := (hbb.frozen (p := ⟨w.heap.size + 1, 0, none⟩) (by simp)).trans (by simp [go_sem])
       have f1 : u1.frozen? ⟨w.heap.size + 1, 1, none⟩ = false := (hbb.frozen (p := ⟨w.heap.size + 1, 1, none⟩) (by simp)).trans (by simp [go_sem])
       clear hK hbb))
  refine bodyPost_ret (v := .agg #[.slice (some ⟨G, 0, none⟩) NN NN, .int .i64 ((b.size : Int) + 1)]) (by simp [results, Try.results69, World.cell?_setCell_other, go_sem, z0, z1]) rfl ⟨G, by rw [hNN], by omega, ?_, ?_⟩
  · intro x y hy hlt
    obtain ⟨h1, h2⟩ := HK.out x y hy hlt
    have e : ∀ (W : World) (i j : Nat) (v : Value), (W.setCell ⟨w.heap.size + 1, i, none⟩ v).cell? ⟨G, j, none⟩ = W.cell? ⟨G, j, none⟩ := fun W i j v => World.cell?_setCell_other _ _ _ _ (fun q => by have := congrArg Addr.block q; simp at this; omega)
    exact ⟨by rw [e, e]; exact h1, by rw [e, e]; exact h2⟩
  · refine Below.setCell (Below.setCell (Below.trans ?_ (HB.out.mono (by simp; omega))) (by simp) _) (by simp) _
    exact (by repeat (first | exact Below.refl _ _ | exact Hid.out (by assumption) | refine below_alloc ?_ _ | refine Below.setCell ?_ (by simp <;> omega) _ | refine Below.alloc ?_ (by simp <;> omega) _ | refine Below.drew ?_ | refine below_drewN ?_ _))
theorem Below.step' {B : Nat} {w W u : World} (h : Below B w W) (hB : B ≤ w.heap.size) (k : Below W.heap.size W u) : Below B w u := h.trans (k.mono (Nat.le_trans hB h.size))
set_option maxRecDepth 20000 in
set_option maxHeartbeats 4000000 in
theorem cost_any (a b : ByteArray) (p o c s : Int) (w : World) (hw : Weights p o c s) (ha : a.size ≤ 48) (hb : b.size ≤ 48) :
    Calls Try.prog 42 #[.agg #[.string a, .string b, .int .i64 p, .int .i64 o, .int .i64 c, .int .i64 s]] w fun e w' => e = .returned (.int .i64 (costE (bx a) (bx b) p o c s a.size b.size)) ∧ Below w.heap.size w w' := by
  have HED := Lib.hid (fun W => edits_any a b p o c s W hw ha hb)
  obtain ⟨NN, hNN⟩ : ∃ NN, NN = (a.size + 1) * (b.size + 1) := ⟨_, rfl⟩
  have hsm : NN ≤ 2401 := by rw [hNN]; exact grid_small ha hb
  have HRo := Lib.hid (fun G W => rowE_any G NN NN a.size (b.size + 1) W (by rw [hNN]; exact grid_row (Nat.le_refl _)) (by omega) (by have := grid_row (n := b.size) (Nat.le_refl a.size); rw [← hNN] at this; omega))
  have HN := Lib.hid hNN
  have hcst := Lib.hid (editE_cost (x := bx a) (y := bx b) (p := p) (o := o) (c := c) (s := s) a.size b.size)
  have d1 : (b.size : Int) < (b.size : Int) + 1 := by omega
  clear hNN hw
  go_enter Try.func42, Try.ntmps42
  go_wp2_with fail
  obtain ⟨W0, hW0⟩ : ∃ W0, W0 = w.alloc (.cells #[.string a, .string b, .int .i64 p, .int .i64 o, .int .i64 c, .int .i64 s] 48) := ⟨_, rfl⟩
  rw [← hW0]
  have N0 := Lib.hid (show Below w.heap.size w W0 by rw [hW0]; exact (Below.refl _ _).alloc (Nat.le_refl _) _)
  have S0 : let W := W0; (W.cell? ⟨w.heap.size, 0, none⟩ = some (.string a) ∧ W.cell? ⟨w.heap.size, 1, none⟩ = some (.string b) ∧ W.cell? ⟨w.heap.size, 2, none⟩ = some (.int .i64 p) ∧ W.cell? ⟨w.heap.size, 3, none⟩ = some (.int .i64 o) ∧ W.cell? ⟨w.heap.size, 4, none⟩ = some (.int .i64 c) ∧ W.cell? ⟨w.heap.size, 5, none⟩ = some (.int .i64 s)) := by rw [hW0]; exact ⟨by simp [go_sem], by simp [go_sem], by simp [go_sem], by simp [go_sem], by simp [go_sem], by simp [go_sem]⟩
  have HKeep := Lib.hid (show ∀ W, Below W0.heap.size W0 W → (W.cell? ⟨w.heap.size, 0, none⟩ = some (.string a) ∧ W.cell? ⟨w.heap.size, 1, none⟩ = some (.string b) ∧ W.cell? ⟨w.heap.size, 2, none⟩ = some (.int .i64 p) ∧ W.cell? ⟨w.heap.size, 3, none⟩ = some (.int .i64 o) ∧ W.cell? ⟨w.heap.size, 4, none⟩ = some (.int .i64 c) ∧ W.cell? ⟨w.heap.size, 5, none⟩ = some (.int .i64 s)) from fun W hW => by
    obtain ⟨x0, x1, x2, x3, x4, x5⟩ := S0
    exact ⟨(hW.cell (World.block_lt_of_cell? _ _ x0)).trans x0, (hW.cell (World.block_lt_of_cell? _ _ x1)).trans x1, (hW.cell (World.block_lt_of_cell? _ _ x2)).trans x2, (hW.cell (World.block_lt_of_cell? _ _ x3)).trans x3, (hW.cell (World.block_lt_of_cell? _ _ x4)).trans x4, (hW.cell (World.block_lt_of_cell? _ _ x5)).trans x5⟩)
  clear S0 hW0
  refine wp_region_held_drew (S := fun W => W.cell? ⟨w.heap.size, 0, none⟩ = some (.string a) ∧ W.cell? ⟨w.heap.size, 1, none⟩ = some (.string b) ∧ W.cell? ⟨w.heap.size, 2, none⟩ = some (.int .i64 p) ∧ W.cell? ⟨w.heap.size, 3, none⟩ = some (.int .i64 o) ∧ W.cell? ⟨w.heap.size, 4, none⟩ = some (.int .i64 c) ∧ W.cell? ⟨w.heap.size, 5, none⟩ = some (.int .i64 s)) (by kernel_rfl) ?_ (fun hHeld => ?_)
  · (try dsimp only)
    exact HKeep.out _ (by repeat (first | exact Below.refl _ _ | exact Hid.out (by assumption) | refine below_alloc ?_ _ | refine Below.setCell ?_ (by simp <;> omega) _ | refine Below.alloc ?_ (by simp <;> omega) _ | refine Below.drew ?_ | refine below_drewN ?_ _))
  refine wpAnyH_take (i := 0) (v := ?_) rfl (by kernel_rfl) (by kernel_rfl) (by kernel_rfl) (fun _ _ _ h => h) (Or.inl ⟨by rfl, ?_⟩) (by assumption) ?_
  rotate_left 1
  focus ((intro w hSw; (try dsimp only at hSw); (try simp only [Act.put, List.getElem_toArray, List.getElem_cons_succ, List.getElem_cons_zero, List.setIfInBounds_toArray, List.set_cons_zero, List.set_cons_succ]); go_simp; (try with_reducible rfl)); done)
  (try simp only [Act.put, List.getElem_toArray, List.getElem_cons_succ, List.getElem_cons_zero, List.setIfInBounds_toArray, List.set_cons_zero, List.set_cons_succ])
  refine wpAnyH_take (i := 2) (v := ?_) rfl (by kernel_rfl) (by kernel_rfl) (by kernel_rfl) (fun _ _ _ h => h) (Or.inl ⟨by rfl, ?_⟩) (by assumption) ?_
  rotate_left 1
  focus ((intro w hSw; (try dsimp only at hSw); (try simp only [Act.put, List.getElem_toArray, List.getElem_cons_succ, List.getElem_cons_zero, List.setIfInBounds_toArray, List.set_cons_zero, List.set_cons_succ]); go_simp; (try with_reducible rfl)); done)
  (try simp only [Act.put, List.getElem_toArray, List.getElem_cons_succ, List.getElem_cons_zero, List.setIfInBounds_toArray, List.set_cons_zero, List.set_cons_succ])
  refine wpAnyH_take (i := 3) (v := ?_) rfl (by kernel_rfl) (by kernel_rfl) (by kernel_rfl) (fun _ _ _ h => h) (Or.inl ⟨by rfl, ?_⟩) (by assumption) ?_
  rotate_left 1
  focus ((intro w hSw; (try dsimp only at hSw); (try simp only [Act.put, List.getElem_toArray, List.getElem_cons_succ, List.getElem_cons_zero, List.setIfInBounds_toArray, List.set_cons_zero, List.set_cons_succ]); go_simp; (try with_reducible rfl)); done)
  (try simp only [Act.put, List.getElem_toArray, List.getElem_cons_succ, List.getElem_cons_zero, List.setIfInBounds_toArray, List.set_cons_zero, List.set_cons_succ])
  refine wpAnyH_take (i := 4) (v := ?_) rfl (by kernel_rfl) (by kernel_rfl) (by kernel_rfl) (fun _ _ _ h => h) (Or.inl ⟨by rfl, ?_⟩) (by assumption) ?_
  rotate_left 1
  focus ((intro w hSw; (try dsimp only at hSw); (try simp only [Act.put, List.getElem_toArray, List.getElem_cons_succ, List.getElem_cons_zero, List.setIfInBounds_toArray, List.set_cons_zero, List.set_cons_succ]); go_simp; (try with_reducible rfl)); done)
  (try simp only [Act.put, List.getElem_toArray, List.getElem_cons_succ, List.getElem_cons_zero, List.setIfInBounds_toArray, List.set_cons_zero, List.set_cons_succ])
  refine wpAnyH_take (i := 6) (v := ?_) rfl (by kernel_rfl) (by kernel_rfl) (by kernel_rfl) (fun _ _ _ h => h) (Or.inl ⟨by rfl, ?_⟩) (by assumption) ?_
  rotate_left 1
  focus ((intro w hSw; (try dsimp only at hSw); (try simp only [Act.put, List.getElem_toArray, List.getElem_cons_succ, List.getElem_cons_zero, List.setIfInBounds_toArray, List.set_cons_zero, List.set_cons_succ]); go_simp; (try with_reducible rfl)); done)
  (try simp only [Act.put, List.getElem_toArray, List.getElem_cons_succ, List.getElem_cons_zero, List.setIfInBounds_toArray, List.set_cons_zero, List.set_cons_succ])
  refine wpAnyH_take (i := 7) (v := ?_) rfl (by kernel_rfl) (by kernel_rfl) (by kernel_rfl) (fun _ _ _ h => h) (Or.inl ⟨by rfl, ?_⟩) (by assumption) ?_
  rotate_left 1
  focus ((intro w hSw; (try dsimp only at hSw); (try simp only [Act.put, List.getElem_toArray, List.getElem_cons_succ, List.getElem_cons_zero, List.setIfInBounds_toArray, List.set_cons_zero, List.set_cons_succ]); go_simp; (try with_reducible rfl)); done)
  (try simp only [Act.put, List.getElem_toArray, List.getElem_cons_succ, List.getElem_cons_zero, List.setIfInBounds_toArray, List.set_cons_zero, List.set_cons_succ])
  refine wpAnyH_take (i := 8) (v := ?_) rfl (by kernel_rfl) (by kernel_rfl) (by kernel_rfl) (fun _ _ _ h => h) (Or.inl ⟨by rfl, ?_⟩) (by assumption) ?_
  rotate_left 1
  focus ((intro w hSw; (try dsimp only at hSw); (try simp only [Act.put, List.getElem_toArray, List.getElem_cons_succ, List.getElem_cons_zero, List.setIfInBounds_toArray, List.set_cons_zero, List.set_cons_succ]); go_simp; (try with_reducible rfl)); done)
  (try simp only [Act.put, List.getElem_toArray, List.getElem_cons_succ, List.getElem_cons_zero, List.setIfInBounds_toArray, List.set_cons_zero, List.set_cons_succ])
  refine wpAnyH_ready (rs := [1]) (by kernel_rfl) (by simp) ?_
  refine AllReadyH.cons rfl (fun K hK => ?_) AllReadyH.nil
  simp only [Act.put, List.getElem_toArray, List.getElem_cons_succ, List.getElem_cons_zero, List.setIfInBounds_toArray, List.set_cons_zero, List.set_cons_succ]
  go_simp
  refine (HED.out _).mono ?_
  rintro e u1 ⟨G, rfl, hGl, hK, hbb⟩
  rw [← HN.out]
  have HK := Lib.hid hK
  have PU := Lib.hid (Below.step' (w := W0) (by repeat (first | exact Below.refl _ _ | exact Hid.out (by assumption) | refine below_alloc ?_ _ | refine Below.setCell ?_ (by simp <;> omega) _ | refine Below.alloc ?_ (by simp <;> omega) _ | refine Below.drew ?_ | refine below_drewN ?_ _)) (Nat.le_refl _) hbb)
  clear hK hbb hGl
  go_wp2_with fail
  refine hK.out _ _ ?_ (fun hHeld => ?_)
  · (try dsimp only)
    exact HKeep.out _ PU.out
  clear hK K
  (try simp only [Act.put, List.getElem_toArray, List.getElem_cons_succ, List.getElem_cons_zero, List.setIfInBounds_toArray, List.set_cons_zero, List.set_cons_succ])
  obtain ⟨xr, hxr⟩ : ∃ xr : Addr, xr = ⟨G, a.size * (b.size + 1) * 2, none⟩ := ⟨_, rfl⟩
  have HR2 := Lib.hid (HRo.out G)
  rw [← hxr] at HR2
  have HX := Lib.hid hxr
  clear hxr
  have HR3 := Lib.hid (show ∀ W, Calls Try.prog 70 #[.agg #[.slice (some ⟨G, 0, none⟩) NN NN, .int .i64 ((b.size : Int) + 1)], .int .i64 a.size] W fun e w' => e = .returned (.slice (some xr) (b.size + 1) (b.size + 1)) ∧ Below W.heap.size W w' from fun W => by have := HR2.out W; rwa [Int.natCast_add] at this)
  clear HR2
  refine wpAnyH_ready (rs := [5]) (by kernel_rfl) (by simp) ?_
  refine AllReadyH.cons rfl (fun K hK => ?_) AllReadyH.nil
  simp only [Act.put, List.getElem_toArray, List.getElem_cons_succ, List.getElem_cons_zero, List.setIfInBounds_toArray, List.set_cons_zero, List.set_cons_succ]
  go_simp
  refine (HR3.out _).mono ?_
  rintro e u2 ⟨rfl, hbb⟩
  have PU2 := Lib.hid (Below.step' (w := W0) PU.out (Nat.le_refl _) hbb)
  have hcell : u2.cell? ⟨(xr.add (b.size * 2)).block, (xr.add (b.size * 2)).off + 1, none⟩ = some (.int .i64 (costE (bx a) (bx b) p o c s a.size b.size)) := by
    have h2 := (HK.out a.size b.size (by omega) (.inl (by omega))).2
    rw [hcst.out] at h2
    rw [HX.out, add_at, ← Nat.add_mul]
    exact (hbb.cell (World.block_lt_of_cell? _ _ h2)).trans h2
  clear hbb
  go_wp2_with fail
  refine hK.out _ _ ?_ (fun hHeld => ?_)
  · (try dsimp only)
    exact HKeep.out _ PU2.out
  clear hK K
  (try simp only [Act.put, List.getElem_toArray, List.getElem_cons_succ, List.getElem_cons_zero, List.setIfInBounds_toArray, List.set_cons_zero, List.set_cons_succ])
  refine wpAnyH_take (i := 9) (v := ?_) rfl (by kernel_rfl) (by kernel_rfl) (by kernel_rfl) (fun _ _ _ h => h) (Or.inl ⟨by rfl, ?_⟩) (by assumption) ?_
  rotate_left 1
  focus ((intro w hSw; (try dsimp only at hSw); (try simp only [Act.put, List.getElem_toArray, List.getElem_cons_succ, List.getElem_cons_zero, List.setIfInBounds_toArray, List.set_cons_zero, List.set_cons_succ]); go_simp; (try with_reducible rfl)); done)
  (try simp only [Act.put, List.getElem_toArray, List.getElem_cons_succ, List.getElem_cons_zero, List.setIfInBounds_toArray, List.set_cons_zero, List.set_cons_succ])
  refine wpAnyH_take (i := 10) (v := ?_) rfl (by kernel_rfl) (by kernel_rfl) (by kernel_rfl) (fun _ _ _ h => h) (Or.inl ⟨by rfl, ?_⟩) (by assumption) ?_
  rotate_left 1
  focus ((intro w hSw; (try dsimp only at hSw); (try simp only [Act.put, List.getElem_toArray, List.getElem_cons_succ, List.getElem_cons_zero, List.setIfInBounds_toArray, List.set_cons_zero, List.set_cons_succ]); go_simp; (try with_reducible rfl)); done)
  (try simp only [Act.put, List.getElem_toArray, List.getElem_cons_succ, List.getElem_cons_zero, List.setIfInBounds_toArray, List.set_cons_zero, List.set_cons_succ])
  refine wpAnyH_ready (rs := [11]) (by kernel_rfl) (by simp) ?_
  refine AllReadyH.cons rfl (fun K hK => ?_) AllReadyH.nil
  simp only [Act.put, List.getElem_toArray, List.getElem_cons_succ, List.getElem_cons_zero, List.setIfInBounds_toArray, List.set_cons_zero, List.set_cons_succ]
  go_simp
  go_wp2_with fail
  refine hK.out _ _ ?_ (fun hHeld => ?_)
  · (try dsimp only)
    exact HKeep.out _ PU2.out
  clear hK K
  (try simp only [Act.put, List.getElem_toArray, List.getElem_cons_succ, List.getElem_cons_zero, List.setIfInBounds_toArray, List.set_cons_zero, List.set_cons_succ])
  refine wpAnyH_ready (rs := [12]) (by kernel_rfl) (by simp) ?_
  refine AllReadyH.cons rfl (fun K hK => ?_) AllReadyH.nil
  simp only [Act.put, List.getElem_toArray, List.getElem_cons_succ, List.getElem_cons_zero, List.setIfInBounds_toArray, List.set_cons_zero, List.set_cons_succ]
  go_simp
  go_wp2_with fail
  refine hK.out _ _ ?_ (fun hHeld => ?_)
  · (try dsimp only)
    exact HKeep.out _ PU2.out
  clear hK K
  (try simp only [Act.put, List.getElem_toArray, List.getElem_cons_succ, List.getElem_cons_zero, List.setIfInBounds_toArray, List.set_cons_zero, List.set_cons_succ])
  refine wpAnyH_done (by kernel_rfl) ?_ _
  go_wp2_with fail
  go_ret
  exact ⟨rfl, N0.out.trans (PU2.out.mono N0.out.size)⟩
end Go.Proofs.Ytcnamfjojdjjgaa
