/- A plain machine of its own: spec.l02OwnPlain. -/
import Derived.Test.YtgkmdbbdfjgggaaStep
import Derived.Test.YtgkmdbbdfjgggaaClone
import Derived.Test.YtgkmdbbdfjgggaaBoxP
import Derived.Deep.RegionHeldLaw
import Derived.Deep.CutRange
set_option linter.unusedVariables false
namespace Go.Proofs.Ytgkmdbbdfjgggaa
open Go.RowKit

set_option maxRecDepth 20000 in
set_option maxHeartbeats 4000000 in
theorem l02OwnPlain_any (P : Nat) (s l : Int) (A B : Option Addr) (n c m d : Nat) (f : Nat → Int) (g : Nat → Bool) (w : World) (hn : n ≤ 1048576) (hm : m ≤ 1048576) (hA : Cells w A n (fun i => .int .i64 (f i))) (hB : Cells w B m (fun i => .bool (g i)))
    (b : Box4 w P (.int .i64 s) (.int .i64 l) (.slice A n c) (.slice B m d)) :
    Calls Try.prog 59 #[.pointer (some ⟨P, 0, none⟩)] w fun e w' => ∃ (A2 : Option Addr) (c2 : Nat) (B2 : Option Addr) (d2 ga gb : Nat), e = .returned (.agg #[.int .i64 s, .int .i64 l, .slice A2 n c2, .slice B2 m d2]) ∧
      (w.heap.size ≤ ga ∧ w.heap.size ≤ gb) ∧ ga ≠ gb ∧ OwnC w' ga A2 n (fun i => .int .i64 (f i)) ∧ OwnC w' gb B2 m (fun i => .bool (g i)) ∧ Below w.heap.size w w' := by
  obtain ⟨ii, hii, hzi, hsi, hbi⟩ := info_parts infoCI
  obtain ⟨ib, hib, hzb, hsb, hbb⟩ := info_parts infoCB
  have HA := Lib.hid hA
  have HB := Lib.hid hB
  have X := Lib.hid b
  clear hA hB b
  obtain ⟨x0, x1, x2, x3⟩ := X.out
  have NP := Lib.hid (show ∀ q, w.heap.size ≤ q → q ≠ P from fun q hq e => by have := X.out.lt; omega)
  go_enter Try.func59, Try.ntmps59
  go_upto_region 1 with fail
  go_cut [3] from 4 to 18 (fun s3 wx => ∃ (p : Nat) (A2 : Option Addr) (c2 ga : Nat), s3 = .pointer (some ⟨p, 0, none⟩) ∧ p ≠ w.heap.size ∧ w.heap.size < p ∧ Box4 wx p (.int .i64 s) (.int .i64 l) (.slice A2 n c2) (.slice none 0 0) ∧ (∀ j, wx.frozen? ⟨p, j, none⟩ = false) ∧
    (∀ j, j < 4 → ∃ u, wx.cell? ⟨w.heap.size, j, none⟩ = some u) ∧ (∀ j, wx.frozen? ⟨w.heap.size, j, none⟩ = false) ∧ w.heap.size < ga ∧ (0 < n → ga ≠ p) ∧ OwnC wx ga A2 n (fun i => .int .i64 (f i)) ∧ Below w.heap.size w wx)
  case first =>
    go_region_held_law (fun w' => w'.cell? ⟨P, 0, none⟩ = some (.int .i64 s) ∧ w'.cell? ⟨P, 1, none⟩ = some (.int .i64 l) ∧ w'.cell? ⟨P, 2, none⟩ = some (.slice A n c))
      (first
        | (with_reducible exact ⟨X.out.c0, X.out.c1, X.out.c2⟩)
        | (with_reducible exact ⟨(X.out.alloc _).c0, (X.out.alloc _).c1, (X.out.alloc _).c2⟩)
        | (with_reducible exact ⟨((X.out.alloc _).alloc _).c0, ((X.out.alloc _).alloc _).c1, ((X.out.alloc _).alloc _).c2⟩)
        | (with_reducible exact ⟨(((X.out.alloc _).alloc _).alloc _).c0, (((X.out.alloc _).alloc _).alloc _).c1, (((X.out.alloc _).alloc _).alloc _).c2⟩)
        | (with_reducible exact ⟨X.out.drew.c0, X.out.drew.c1, X.out.drew.c2⟩)
        | (with_reducible exact ⟨(X.out.alloc _).drew.c0, (X.out.alloc _).drew.c1, (X.out.alloc _).drew.c2⟩)
        | (with_reducible exact ⟨((X.out.alloc _).alloc _).drew.c0, ((X.out.alloc _).alloc _).drew.c1, ((X.out.alloc _).alloc _).drew.c2⟩)
        | (with_reducible exact ⟨(((X.out.alloc _).alloc _).alloc _).drew.c0, (((X.out.alloc _).alloc _).alloc _).drew.c1, (((X.out.alloc _).alloc _).alloc _).drew.c2⟩)
        | (with_reducible exact ⟨X2.out.c0, X2.out.c1, X2.out.c2⟩)
        | (with_reducible exact ⟨(X2.out.alloc _).c0, (X2.out.alloc _).c1, (X2.out.alloc _).c2⟩)
        | (with_reducible exact ⟨(X2.out.far4 (NP.out _ (by omega))).c0, (X2.out.far4 (NP.out _ (by omega))).c1, (X2.out.far4 (NP.out _ (by omega))).c2⟩)
        | (with_reducible exact ⟨((X2.out.alloc _).far4 (NP.out _ (by omega))).c0, ((X2.out.alloc _).far4 (NP.out _ (by omega))).c1, ((X2.out.alloc _).far4 (NP.out _ (by omega))).c2⟩)
        | (trace_state; fail))
      (first
        | (refine step_append_cells _ rfl (.tmp 12) (.tmp 16) 22 rfl (w.heap.size + 1) 2 ii (.int .i64 0) 1 8 Try.underlying22 hii hzi hsi hbi rfl (by decide) (.slice (some ⟨w.heap.size + 1, 0, none⟩) 0 0) 0 [] rfl (lit0 (by first | exact lit_last (by simp) | exact lit_prev (by simp)) (by omega))
             A n c (fun i => .int .i64 (f i)) rfl (by rw [Nat.mul_one]; exact HA.out.below (by repeat (first | exact Below.refl _ _ | exact Hid.out (by assumption) | refine below_alloc ?_ _ | refine Below.setCell ?_ (by simp <;> omega) _ | refine Below.alloc ?_ (by simp <;> omega) _ | refine Below.drew ?_ | refine below_drewN ?_ _))) (fun _ _ => rfl) (by unfold maxLen; omega) (by omega) (by simp <;> omega) ?_
           intro v2 w2 hown hgrow hwhere
           have N2 := Lib.hid (show Below w.heap.size w w2 from Below.grown (by repeat (first | exact Below.refl _ _ | exact Hid.out (by assumption) | refine below_alloc ?_ _ | refine Below.setCell ?_ (by simp <;> omega) _ | refine Below.alloc ?_ (by simp <;> omega) _ | refine Below.drew ?_ | refine below_drewN ?_ _)) hgrow (by simp <;> omega) (fun j hj => by cases hj; first | omega | (simp; done) | (simp; omega)))
           have X2 := Lib.hid (X.out.below N2.out)
           obtain ⟨hk1, hk2⟩ := grown_cell hgrow
           have hs2 := hgrow.size
           obtain ⟨A2, c2, ga, rfl, hga, hgb, ho⟩ := OwnC.of_rowB hown
           have O2 := Lib.hid (show OwnC w2 ga A2 n (fun i => .int .i64 (f i)) by
             rw [Nat.zero_add, Nat.mul_one] at ho
             exact ho.congr fun j hj => by simp only [List.nil_append]; exact listV_getD _ (by omega))
           have HG := Lib.hid hga
           have HW := Lib.hid (And.intro hgb hwhere)
           have HR := Lib.hid (show ∀ j, j < 4 → ∃ u, w2.cell? ⟨w.heap.size, j, none⟩ = some u from fun j hj => by
             rw [hk1 _ _ (by simp <;> omega) (by omega)]
             have : j = 0 ∨ j = 1 ∨ j = 2 ∨ j = 3 := by omega
             rcases this with rfl | rfl | rfl | rfl <;> simp [go_sem])
           have HRF := Lib.hid (show ∀ j, w2.frozen? ⟨w.heap.size, j, none⟩ = false from fun j => by rw [hk2 _ _ (by simp <;> omega) (by omega)]; simp [go_sem])
           have HB2 := Lib.hid (show 0 < n → ga < w2.heap.size from O2.out.lt)
           rw [Nat.zero_add]
           clear hown hgrow hga ho hgb hwhere)
        | (refine step_append_cells _ rfl (.tmp 12) (.tmp 16) 22 rfl (w.heap.size + 1) 2 ii (.int .i64 0) 1 8 Try.underlying22 hii hzi hsi hbi rfl (by decide) (.slice (some ⟨w.heap.size + 1 + 1, 0, none⟩) 0 0) 0 [] rfl (lit0 (by first | exact lit_last (by simp) | exact lit_prev (by simp)) (by omega))
             A n c (fun i => .int .i64 (f i)) rfl (by rw [Nat.mul_one]; exact HA.out.below (by repeat (first | exact Below.refl _ _ | exact Hid.out (by assumption) | refine below_alloc ?_ _ | refine Below.setCell ?_ (by simp <;> omega) _ | refine Below.alloc ?_ (by simp <;> omega) _ | refine Below.drew ?_ | refine below_drewN ?_ _))) (fun _ _ => rfl) (by unfold maxLen; omega) (by omega) (by simp <;> omega) ?_
           intro v2 w2 hown hgrow hwhere
           have N2 := Lib.hid (show Below w.heap.size w w2 from Below.grown (by repeat (first | exact Below.refl _ _ | exact Hid.out (by assumption) | refine below_alloc ?_ _ | refine Below.setCell ?_ (by simp <;> omega) _ | refine Below.alloc ?_ (by simp <;> omega) _ | refine Below.drew ?_ | refine below_drewN ?_ _)) hgrow (by simp <;> omega) (fun j hj => by cases hj; first | omega | (simp; done) | (simp; omega)))
           have X2 := Lib.hid (X.out.below N2.out)
           obtain ⟨hk1, hk2⟩ := grown_cell hgrow
           have hs2 := hgrow.size
           obtain ⟨A2, c2, ga, rfl, hga, hgb, ho⟩ := OwnC.of_rowB hown
           have O2 := Lib.hid (show OwnC w2 ga A2 n (fun i => .int .i64 (f i)) by
             rw [Nat.zero_add, Nat.mul_one] at ho
             exact ho.congr fun j hj => by simp only [List.nil_append]; exact listV_getD _ (by omega))
           have HG := Lib.hid hga
           have HW := Lib.hid (And.intro hgb hwhere)
           have HR := Lib.hid (show ∀ j, j < 4 → ∃ u, w2.cell? ⟨w.heap.size, j, none⟩ = some u from fun j hj => by
             rw [hk1 _ _ (by simp <;> omega) (by omega)]
             have : j = 0 ∨ j = 1 ∨ j = 2 ∨ j = 3 := by omega
             rcases this with rfl | rfl | rfl | rfl <;> simp [go_sem])
           have HRF := Lib.hid (show ∀ j, w2.frozen? ⟨w.heap.size, j, none⟩ = false from fun j => by rw [hk2 _ _ (by simp <;> omega) (by omega)]; simp [go_sem])
           have HB2 := Lib.hid (show 0 < n → ga < w2.heap.size from O2.out.lt)
           rw [Nat.zero_add]
           clear hown hgrow hga ho hgb hwhere))
    all_goals (
      go_wp2_with fail
      go_meet
      first
        | (refine ⟨w2.heap.size, A2, c2, ga, rfl, ?a1, ?a2, Box4.new _ _ _ _ _ _, fun j => by simp [go_sem], fun j hj => ?a3, fun j => ?a4, ?a5, fun hn0 => ?a6, O2.out.below ((Below.refl _ _).alloc (Nat.le_refl _) _), (by repeat (first | exact Below.refl _ _ | exact Hid.out (by assumption) | refine below_alloc ?_ _ | refine Below.setCell ?_ (by simp <;> omega) _ | refine Below.alloc ?_ (by simp <;> omega) _ | refine Below.drew ?_ | refine below_drewN ?_ _))⟩
           case a1 => have := N2.out.size; simp at hs2; omega
           case a2 => have := N2.out.size; simp at hs2; omega
           case a3 =>
             obtain ⟨u, hu⟩ := HR.out j hj
             exact ⟨u, by rw [World.cell?_alloc_lt _ _ _ (World.block_lt_of_cell? _ _ hu)]; exact hu⟩
           case a4 =>
             obtain ⟨u, hu⟩ := HR.out 0 (by omega)
             have hlt : w.heap.size < w2.heap.size := World.block_lt_of_cell? _ _ hu
             rw [((Below.refl _ _).alloc (Nat.le_refl _) _ : Below w2.heap.size w2 (w2.alloc _)).frozen (p := ⟨w.heap.size, j, none⟩) hlt]
             exact HRF.out j
           case a5 => have := HG.out; omega
           case a6 => have := HB2.out hn0; omega)
        | (refine ⟨w.heap.size + 1 + 1, A2, c2, ga, rfl, by omega, by omega, box_put4 fun j hj => ?b1, fun j => ?b2, fun j hj => ?b3, fun j => ?b4, ?b5, ?b6, own_set4P O2.out ?b6, (by repeat (first | exact Below.refl _ _ | exact Hid.out (by assumption) | refine below_alloc ?_ _ | refine Below.setCell ?_ (by simp <;> omega) _ | refine Below.alloc ?_ (by simp <;> omega) _ | refine Below.drew ?_ | refine below_drewN ?_ _))⟩
           case b1 =>
             rw [hk1 _ _ (by simp <;> omega) (by omega)]
             have : j = 0 ∨ j = 1 ∨ j = 2 ∨ j = 3 := by omega
             rcases this with rfl | rfl | rfl | rfl <;> simp [go_sem]
           case b2 => rw [set4_frozen, hk2 _ _ (by simp <;> omega) (by omega)]; simp [go_sem]
           case b3 =>
             obtain ⟨u, hu⟩ := HR.out j hj
             exact ⟨u, by rw [far4_cell (by omega)]; exact hu⟩
           case b4 => rw [set4_frozen]; exact HRF.out j
           case b5 => have := HG.out; omega
           case b6 =>
             intro hn0
             obtain ⟨q1, q2⟩ := HW.out
             rw [q1 (by omega)] at q2
             simp [Value.ownBlock] at q2
             omega)
        | (refine ⟨w.heap.size + 1, A2, c2, ga, rfl, by omega, by omega, box_put4 fun j hj => ?b1, fun j => ?b2, fun j hj => ?b3, fun j => ?b4, ?b5, ?b6, own_set4P O2.out ?b6, (by repeat (first | exact Below.refl _ _ | exact Hid.out (by assumption) | refine below_alloc ?_ _ | refine Below.setCell ?_ (by simp <;> omega) _ | refine Below.alloc ?_ (by simp <;> omega) _ | refine Below.drew ?_ | refine below_drewN ?_ _))⟩
           case b1 =>
             rw [hk1 _ _ (by simp <;> omega) (by omega)]
             have : j = 0 ∨ j = 1 ∨ j = 2 ∨ j = 3 := by omega
             rcases this with rfl | rfl | rfl | rfl <;> simp [go_sem]
           case b2 => rw [set4_frozen, hk2 _ _ (by simp <;> omega) (by omega)]; simp [go_sem]
           case b3 =>
             obtain ⟨u, hu⟩ := HR.out j hj
             exact ⟨u, by rw [far4_cell (by omega)]; exact hu⟩
           case b4 => rw [set4_frozen]; exact HRF.out j
           case b5 => have := HG.out; omega
           case b6 =>
             intro hn0
             obtain ⟨q1, q2⟩ := HW.out
             rw [q1 (by omega)] at q2
             simp [Value.ownBlock] at q2
             omega))
  case rest =>
  obtain ⟨p, A2, c2, ga, rfl, hp1, hp2, hbox, hfz, hres, hrf, hga, hgap, ho, hb⟩ := hcut
  have NB := Lib.hid hb
  have O1 := Lib.hid ho
  have BX := Lib.hid hbox
  have FZ := Lib.hid hfz
  have RS := Lib.hid hres
  have RF := Lib.hid hrf
  have GP := Lib.hid hgap
  have XC := Lib.hid (X.out.below hb)
  have a3 := XC.out.a3
  have hpl : p < wc.heap.size := hbox.lt
  clear hb ho hbox hfz hres hrf hgap x0 x1 x2 x3
  go_wp2_with (first
    | (at_builtin
       refine wpList_append_cells _ rfl _ _ 23 rfl wc.heap.size 4 ib (.bool false) 1 1 Try.underlying23 hib hzb hsb hbb rfl (by decide) (.slice (some ⟨wc.heap.size, 0, none⟩) 0 0) 0 [] rfl (World.ownsRow_lit wc #[] 0 (Nat.le_refl _) (by unfold maxLen; omega) rfl)
         B m d (fun i => .bool (g i)) rfl (by rw [Nat.mul_one]; exact HB.out.below (Below.alloc NB.out NB.out.size _)) (fun _ _ => rfl) (by unfold maxLen; omega) (by omega) (by simp) ?_
       intro v2 w2 hown hgrow hwhere
       have N2 := Lib.hid (show Below wc.heap.size wc w2 from ((Below.refl _ _).alloc (Nat.le_refl _) _).grown hgrow (by simp) (fun j hj => by cases hj; exact Nat.le_refl _))
       obtain ⟨B2, d2, gb, rfl, hgb, ho2⟩ := OwnC.of_rowV hown
       have O2 := Lib.hid (show OwnC w2 gb B2 m (fun i => .bool (g i)) by
         rw [Nat.zero_add, Nat.mul_one] at ho2
         exact ho2.congr fun j hj => by simp only [List.nil_append]; exact listV_getD _ (by omega))
       have L2 := Lib.hid (show wc.heap.size ≤ gb from hgb)
       have B2x := Lib.hid (BX.out.below N2.out)
       have F2 := Lib.hid (show ∀ j, w2.frozen? ⟨p, j, none⟩ = false from fun j => (N2.out.frozen (p := ⟨p, j, none⟩) hpl).trans (FZ.out j))
       have R2 := Lib.hid (show ∀ j, j < 4 → ∃ u, w2.cell? ⟨w.heap.size, j, none⟩ = some u from fun j hj => by
         obtain ⟨u, hu⟩ := RS.out j hj
         exact ⟨u, (N2.out.cell (World.block_lt_of_cell? _ _ hu)).trans hu⟩)
       have RF2 := Lib.hid (show ∀ j, w2.frozen? ⟨w.heap.size, j, none⟩ = false from fun j => (N2.out.frozen (p := ⟨w.heap.size, j, none⟩) (show w.heap.size < wc.heap.size by omega)).trans (RF.out j))
       have Q1 := Lib.hid (O1.out.below N2.out)
       have GL := Lib.hid (show 0 < n → ga < wc.heap.size from O1.out.lt)
       obtain ⟨y0, y1, y2, y3⟩ := B2x.out
       obtain ⟨u0, k0⟩ := R2.out 0 (by omega)
       obtain ⟨u1, k1⟩ := R2.out 1 (by omega)
       obtain ⟨u2, k2⟩ := R2.out 2 (by omega)
       obtain ⟨u3, k3⟩ := R2.out 3 (by omega)
       have z3 := F2.out 3
       have e0 := RF2.out 0
       have e1 := RF2.out 1
       have e2 := RF2.out 2
       have e3 := RF2.out 3
       have n1 : ¬ p = w.heap.size := hp1
       have n2 : ¬ w.heap.size = p := fun e => hp1 e.symm
       rw [Nat.zero_add]
       clear hown hgrow hwhere hgb ho2)
    | go_in)
  refine bodyPost_ret (v := .agg #[.int .i64 s, .int .i64 l, .slice A2 n c2, .slice B2 m d2]) ?r1 rfl ?r2
  case r1 => simp [results, Try.results59, go_sem, k0, k1, k2, k3]
  case r2 =>
    have NW := Lib.hid (show Below w.heap.size w w2 from NB.out.trans (N2.out.mono NB.out.size))
    obtain ⟨ga', gb', h1, h2, q1, q2⟩ := rows_apart2 (lo := w.heap.size + 1) (W := w2.heap.size) (g1 := ga) (g2 := gb) (n1 := n) (n2 := m) (by have := NW.out.size; have := N2.out.size; omega) (by omega) (by have := L2.out; omega) Q1.out.lt O2.out.lt (fun hn0 _ => by have := GL.out hn0; have := L2.out; omega)
      (own_setP' (q := p) (j := 3) (u := .slice B2 m d2) Q1.out GP.out) (own_setP' (q := p) (j := 3) (u := .slice B2 m d2) O2.out (fun _ => by have := L2.out; omega)) (by simp)
    exact ⟨A2, c2, B2, d2, ga', gb', rfl, ⟨by omega, by omega⟩, h2, own_set4P q1 (fun _ => by omega), own_set4P q2 (fun _ => by omega), (by repeat (first | exact Below.refl _ _ | exact Hid.out (by assumption) | refine below_alloc ?_ _ | refine Below.setCell ?_ (by simp <;> omega) _ | refine Below.alloc ?_ (by simp <;> omega) _ | refine Below.drew ?_ | refine below_drewN ?_ _))⟩
end Go.Proofs.Ytgkmdbbdfjgggaa
