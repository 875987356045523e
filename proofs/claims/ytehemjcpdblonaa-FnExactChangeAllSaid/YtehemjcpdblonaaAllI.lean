/- A word changed at all places: impl's. -/
import Derived.Test.YtehemjcpdblonaaFitE
import Derived.Test.YtehemjcpdblonaaAllS
import Derived.Deep.LoopGhost
import Derived.Test.YtehemjcpdblonaaWhole
set_option linter.unusedVariables false
namespace Go.Proofs.Ytehemjcpdblonaa
open Go.RowKit
theorem Cells.grown {w w' : World} {A : Option Addr} {n : Nat} {V : Nat → Value} {row : Option Nat} (h : Cells w A n V) (hg : w.grownBy w' row) (hne : ∀ x, A = some x → row ≠ some x.block) : Cells w' A n V := fun k hk => by
  obtain ⟨x, hx, hc⟩ := h k hk
  refine ⟨x, hx, hg.cell hc ?_⟩
  intro e
  exact hne x hx (by rw [← e]; unfold Addr.add; split <;> rfl)
/-- The cells of a finder, what it looks for being told. -/
def finV (A B C D : Option Addr) (n c m d o q p t : Nat) (S : Nat → Int) (L j : Nat) : Value :=
  if j = 0 then .slice A n c else if j = 1 then .slice B m d else if j = 2 then .slice C o q else if j = 3 then .slice D p t else if j = 16 then .int .i64 L else .int .i64 (S (j - 4))
theorem finder_load {w : World} {gX a : Nat} {A B C D : Option Addr} {n c m d o q p t : Nat} {S : Nat → Int} {L : Nat} (hi : (Try.prog.info? 72).map (·.size) = some 17) (h : ∀ j, j < 17 → w.cell? ⟨gX, a + j, none⟩ = some (finV A B C D n c m d o q p t S L j)) :
    (Instr.loadAt 72 (.pointer (some ⟨gX, a, none⟩))).run Try.prog w = .ok (.agg #[.slice A n c, .slice B m d, .slice C o q, .slice D p t, .int .i64 (S 0), .int .i64 (S 1), .int .i64 (S 2), .int .i64 (S 3), .int .i64 (S 4), .int .i64 (S 5), .int .i64 (S 6), .int .i64 (S 7), .int .i64 (S 8), .int .i64 (S 9), .int .i64 (S 10), .int .i64 (S 11), .int .i64 L]) w := by
  refine run_loadAt_cells w _ _ [.slice A n c, .slice B m d, .slice C o q, .slice D p t, .int .i64 (S 0), .int .i64 (S 1), .int .i64 (S 2), .int .i64 (S 3), .int .i64 (S 4), .int .i64 (S 5), .int .i64 (S 6), .int .i64 (S 7), .int .i64 (S 8), .int .i64 (S 9), .int .i64 (S 10), .int .i64 (S 11), .int .i64 L] _ Try.underlying72 hi (fun j v hv => ?_)
  have hj : j < 17 := by have := (List.getElem?_eq_some_iff.1 hv).1; simpa using this
  rw [add_off, h j hj, ← hv]
  have : j = 0 ∨ j = 1 ∨ j = 2 ∨ j = 3 ∨ j = 4 ∨ j = 5 ∨ j = 6 ∨ j = 7 ∨ j = 8 ∨ j = 9 ∨ j = 10 ∨ j = 11 ∨ j = 12 ∨ j = 13 ∨ j = 14 ∨ j = 15 ∨ j = 16 := by omega
  rcases this with rfl | rfl | rfl | rfl | rfl | rfl | rfl | rfl | rfl | rfl | rfl | rfl | rfl | rfl | rfl | rfl | rfl <;> rfl
theorem run_loadAt_box (w : World) (cs : Array Value) (hi : (Try.prog.info? 72).map (·.size) = some 17) (hc : cs.size = 17) :
    (Instr.loadAt 72 (.pointer (some ⟨w.heap.size, 0, none⟩))).run Try.prog (w.alloc (.cells cs 72)) = .ok (.agg cs) (w.alloc (.cells cs 72)) := by
  have := run_loadAt_cells (P := Try.prog) (w.alloc (.cells cs 72)) 72 ⟨w.heap.size, 0, none⟩ cs.toList _ Try.underlying72 (by rw [hi, Array.length_toList, hc]) (fun j v hv => by
    rw [add_off, Nat.zero_add, World.cell?_alloc_new]
    simpa using hv)
  simpa using this
set_option maxRecDepth 20000 in
set_option maxHeartbeats 4000000 in
theorem doneAtAll_one (gX a cX : Nat) (A B C D : Option Addr) (n c m d o q p t : Nat) (h : Nat → Int) (S : Nat → Int) (L : Nat) (E : Option Addr) (r i : Nat) (v : Nat → Int) (w : World)
    (hn : n ≤ 4) (hm : m ≤ 4) (ho : o ≤ 4) (hL : L ≤ 12) (hr : r ≤ 1000) (h1 : 0 < m) (hC : Cells w C o (fun i => .int .i64 (h i))) (hE : Cells w E r (fun i => .int .i64 (v i)))
    (hX : ∀ j, j < 17 → w.cell? ⟨gX, a + j, none⟩ = some (finV A B C D n c m d o q p t S L j))
    (L0 : List Int) (hL0 : L0 = allOf (fitsI n r L v S) ((List.range o).map h) m v r 0) :
    Calls Try.prog 95 #[.slice (some ⟨gX, a, none⟩) 1 cX, .slice E r i] w fun e w' => (∃ y, e = .returned y ∧ w'.ownsRow w.heap.size 2 1 y L0.length (valsI L0)) ∧ Below w.heap.size w w' := by
  obtain ⟨ii, hii, hzi, hsi, hbi⟩ := info_parts infoI
  have hfs := Lib.hid (show (Try.prog.info? 72).map (·.size) = some 17 by kernel_rfl)
  have HP := Lib.hid (fun W k => padded_any E r i v W (by omega) k)
  have HF := Lib.hid (fun gp cp k W k1 k2 k3 k4 => fits_any A B C D n c m d o q p t S L gp r cp v k W hn hL (by omega) k1 k2 k3 k4)
  have HC := Lib.hid hC
  have HE := Lib.hid hE
  have HX := Lib.hid hX
  have HM := Lib.hid h1
  have HL0 := Lib.hid hL0
  clear hC hE hX hL0 h1
  generalize fitsI n r L v S = fb at *
  go_enter Try.func95, Try.ntmps95
  go_wp2_with fail
  go_step3
  go_wp2_with fail
  refine (HP.out _ (HE.out.below (by repeat (first | exact Below.refl _ _ | exact Hid.out (by assumption) | refine below_alloc ?_ _ | refine Below.setCell ?_ (by simp <;> omega) _ | refine Below.alloc ?_ (by simp <;> omega) _ | refine Below.drew ?_ | refine below_drewN ?_ _)))).mono ?_
  rintro e w1 ⟨⟨gp, cp, rfl, q1, q2, q3, q4⟩, hb⟩
  have N1 := Lib.hid (show Below w.heap.size w w1 from Below.trans (by repeat (first | exact Below.refl _ _ | exact Hid.out (by assumption) | refine below_alloc ?_ _ | refine Below.setCell ?_ (by simp <;> omega) _ | refine Below.alloc ?_ (by simp <;> omega) _ | refine Below.drew ?_ | refine below_drewN ?_ _)) (hb.mono (by simp)))
  have PC := Lib.hid (show Cells w1 (some ⟨gp, 0, none⟩) (r + 12) (fun i => .int .i64 (padF v r i)) from q4.cells)
  have M0 := Lib.hid (show w1.heap[w.heap.size]? = some (.cells #[] 2) from (hb.block w.heap.size (by simp)).trans (lit_last rfl))
  have hgp : w.heap.size ≠ gp := by simp at q3; omega
  have HQ := Lib.hid (And.intro q1 q2)
  clear hb q1 q2 q3 q4
  go_wp2_with fail
  go_step3
  go_wp2_with fail
  go_loopg [5, 7] (r + 4) (fun gg row j wr => ∃ (k : Nat) (y : Value) (LS : List Int), k + gg = r + 4 ∧ y = row ∧ j = .int .i64 k ∧ LS.length ≤ 4 * k ∧ y.ownBlock ≠ some gp ∧ Hid (L0 = LS ++ allOf fb ((List.range o).map h) m v r k) ∧ Hid (wr.ownsRow w.heap.size 2 1 y LS.length (valsI LS)) ∧ Hid (Cells wr (some ⟨gp, 0, none⟩) (r + 12) (fun i => .int .i64 (padF v r i))) ∧ Hid (Below w.heap.size w wr))
  case atStart => exact ⟨0, _, [], by omega, rfl, rfl, by simp, (by simp [Value.ownBlock]; exact hgp), (by unfold Hid; exact HL0.out), (by unfold Hid; exact lit0 M0.out (Nat.le_refl _)), PC, N1⟩
  case round =>
    obtain ⟨k, y, LS, hk, rfl, rfl, hlen, hne, HL, HO, HPC, HB0⟩ := hrel
    obtain ⟨wo, hwo⟩ : ∃ W, W = wr := ⟨_, rfl⟩
    subst hwo
    obtain ⟨go, hgo⟩ : ∃ W, W = gk := ⟨_, rfl⟩
    subst hgo
    have HNE := Lib.hid hne
    clear hne
    by_cases hlt : k < r
    · have d1 : (k : Int) < r := by omega
      have HY0 := Lib.hid (fun e => allOf_yes (b := fb) (h := (List.range o).map h) (v := v) HM.out hlt e)
      have HN0 := Lib.hid (fun e => allOf_no (b := fb) (h := (List.range o).map h) (v := v) HM.out hlt e)
      have HX0 := Lib.hid (HE.out k hlt)
      have HZ := Lib.hid (show ∀ j, j < 17 → wo.cell? ⟨gX, a + j, none⟩ = some (finV A B C D n c m d o q p t S L j) from fun j hj => by
        exact (HB0.out.cell (World.block_lt_of_cell? _ _ (HX.out j hj))).trans (HX.out j hj))
      generalize hfk : fb k = rb at *
      have HFK := Lib.hid hfk
      clear hfk
      go_wp2_with fail
      go_loopg [5, 7, 19] 1 (fun g2 s5 s7 s19 wy => ∃ (j : Nat), j + g2 = 1 ∧ y = s5 ∧ s7 = .int .i64 k ∧ s19 = .int .i64 j ∧ Hid (0 < j → rb = false) ∧ Hid (Below wo.heap.size wo wy))
      case atStart => exact ⟨0, rfl, rfl, rfl, rfl, fun h => absurd h (by omega), Below.refl _ _⟩
      case round =>
        obtain ⟨j, hj, rfl, rfl, rfl, hff, hbw⟩ := hrel
        have NB2 := Lib.hid (show Below w.heap.size w wr from HB0.out.trans (hbw.out.mono HB0.out.size))
        have HO2 := Lib.hid (own_below HO.out hbw.out)
        have HPC2 := Lib.hid (HPC.out.below hbw.out)
        have hgs : gp < wr.heap.size := by
          obtain ⟨x, e, q⟩ := HPC2.out 0 (by omega)
          cases e
          exact World.block_lt_of_cell? _ _ q
        have HGS := Lib.hid hgs
        clear hgs
        cases gk with
        | zero =>
          obtain rfl : j = 1 := by omega
          have hN := Lib.hid (HN0.out (hff.out (by omega)))
          obtain ⟨x, rfl, hx⟩ := HX0.out
          have y1 := (NB2.out.cell (World.block_lt_of_cell? _ _ hx)).trans hx
          clear hx hj hbw hff
          go_wp2_with (first
            | (at_builtin
               refine wpList_append_cells _ rfl _ _ 22 rfl w.heap.size 2 ii (.int .i64 0) 1 8 Try.underlying22 hii hzi hsi hbi rfl (by decide) y _ _ rfl (HO2.out.alloc _)
                 (some ⟨wr.heap.size, 0, none⟩) 1 1 (fun _ => .int .i64 (v k)) rfl (cells_lit1 rfl) (fun j _ => rfl) (by unfold maxLen; omega) (by omega) (by have := NB2.out.size; simp <;> omega) ?_
               intro v1 w2 hown hgrow hwhere
               have HO3 := Lib.hid (show w2.ownsRow w.heap.size 2 1 v1 (LS ++ [v k]).length (valsI (LS ++ [v k])) by rw [List.length_append, ← valsI_add]; exact hown)
               have HB3 := Lib.hid (show Below w.heap.size w w2 from Below.grown (Below.alloc NB2.out NB2.out.size _) hgrow (by have := NB2.out.size; simp; omega) (fun j hj => (HO2.out.lt j hj).1))
               have HP3 := Lib.hid ((HPC2.out.below (show Below wr.heap.size wr (wr.alloc _) from (by repeat (first | exact Below.refl _ _ | exact Hid.out (by assumption) | refine below_alloc ?_ _ | refine Below.setCell ?_ (by simp <;> omega) _ | refine Below.alloc ?_ (by simp <;> omega) _ | refine Below.drew ?_ | refine below_drewN ?_ _)))).grown hgrow (fun x hx => by cases hx; exact HNE.out))
               have HN3 := Lib.hid (show v1.ownBlock ≠ some gp from by
                 rcases hwhere with h | h
                 · rw [h]; exact HNE.out
                 · rw [h]; intro e; cases e; have := HGS.out; simp at this; omega)
               clear hown hgrow hwhere)
            | go_in)
          go_roundg (go - 1)
          case measure => omega
          case rel => exact ⟨k + 1, v1, LS ++ [v k], by omega, rfl, by simp, by simp; omega, HN3.out, (by unfold Hid; rw [HL.out, hN.out]; simp), HO3.out, HP3.out, HB3.out⟩
        | succ g2 =>
          obtain rfl : j = 0 := by omega
          have HZ2 := Lib.hid (show ∀ j, j < 17 → wr.cell? ⟨gX, a + j, none⟩ = some (finV A B C D n c m d o q p t S L j) from fun j hj => by
            exact (hbw.out.cell (World.block_lt_of_cell? _ _ (HZ.out j hj))).trans (HZ.out j hj))
          have HLD := Lib.hid (finder_load hfs.out HZ2.out)
          have HLB := Lib.hid (run_loadAt_box wr #[.slice A n c, .slice B m d, .slice C o q, .slice D p t, .int .i64 (S 0), .int .i64 (S 1), .int .i64 (S 2), .int .i64 (S 3), .int .i64 (S 4), .int .i64 (S 5), .int .i64 (S 6), .int .i64 (S 7), .int .i64 (S 8), .int .i64 (S 9), .int .i64 (S 10), .int .i64 (S 11), .int .i64 L] hfs.out rfl)
          have HST := Lib.hid (run_storeAt_new (P := Try.prog) wr 72 #[.slice none 0 0, .slice none 0 0, .slice none 0 0, .slice none 0 0, .int .i64 0, .int .i64 0, .int .i64 0, .int .i64 0, .int .i64 0, .int .i64 0, .int .i64 0, .int .i64 0, .int .i64 0, .int .i64 0, .int .i64 0, .int .i64 0, .int .i64 0] #[.slice A n c, .slice B m d, .slice C o q, .slice D p t, .int .i64 (S 0), .int .i64 (S 1), .int .i64 (S 2), .int .i64 (S 3), .int .i64 (S 4), .int .i64 (S 5), .int .i64 (S 6), .int .i64 (S 7), .int .i64 (S 8), .int .i64 (S 9), .int .i64 (S 10), .int .i64 (S 11), .int .i64 L] hfs.out rfl (by simp; repeat (first | constructor | rfl)))
          have HFC := Lib.hid (fun W (b : Below wr.heap.size wr W) => HF.out gp cp k W HQ.out.1 HQ.out.2 hlt (HPC2.out.below b))
          clear hj hff
          go_wp2_with (first
            | (refine wpList_load_at rfl (.tmp 21) 72 rfl (.pointer (some ⟨gX, a, none⟩)) (by simp [go_sem]; done) _ HLD.out ?_)
            | (refine wpList_store_at rfl (.tmp 9) (.tmp 22) 72 rfl (.pointer (some ⟨wr.heap.size, 0, none⟩)) _ (by simp [go_sem]; done) (by simp [go_sem]; rfl) HST.out ?_)
            | (refine wpList_load_at rfl (.tmp 9) 72 rfl (.pointer (some ⟨wr.heap.size, 0, none⟩)) (by simp [go_sem]; done) _ HLB.out ?_)
            | fail)
          refine (HFC.out _ (by repeat (first | exact Below.refl _ _ | exact Hid.out (by assumption) | refine below_alloc ?_ _ | refine Below.setCell ?_ (by simp <;> omega) _ | refine Below.alloc ?_ (by simp <;> omega) _ | refine Below.drew ?_ | refine below_drewN ?_ _))).mono ?_
          rintro e w2 ⟨rfl, hb2⟩
          have HB2 := Lib.hid hb2
          have NB3 := Lib.hid (show Below wr.heap.size wr w2 from Below.trans (show Below wr.heap.size wr (wr.alloc _) from (by repeat (first | exact Below.refl _ _ | exact Hid.out (by assumption) | refine below_alloc ?_ _ | refine Below.setCell ?_ (by simp <;> omega) _ | refine Below.alloc ?_ (by simp <;> omega) _ | refine Below.drew ?_ | refine below_drewN ?_ _))) (hb2.mono (by simp)))
          have k1 : w2.cell? ⟨wr.heap.size, 1, none⟩ = some (.slice B m d) := (hb2.cell (p := ⟨wr.heap.size, 1, none⟩) (by simp)).trans (World.cell?_alloc_new _ _ _ _)
          have k2 : w2.cell? ⟨wr.heap.size, 2, none⟩ = some (.slice C o q) := (hb2.cell (p := ⟨wr.heap.size, 2, none⟩) (by simp)).trans (World.cell?_alloc_new _ _ _ _)
          have HO4 := Lib.hid (own_below HO2.out NB3.out)
          have HPC4 := Lib.hid (HPC2.out.below NB3.out)
          have NB4 := Lib.hid (show Below w.heap.size w w2 from NB2.out.trans (NB3.out.mono NB2.out.size))
          have hfk := HFK.out
          rw [hfk]
          clear hb2 hfk HST HLD HLB
          cases rb
          · go_wp2_with fail
            go_roundg 0
            case measure => omega
            case rel => exact ⟨1, rfl, by first | rfl | trivial, by first | rfl | trivial, by first | rfl | trivial, (by first | exact fun _ => rfl | exact fun _ => trivial), hbw.out.trans (NB3.out.mono hbw.out.size)⟩
          · have hY := Lib.hid (HY0.out rfl)
            have hm1 := HM.out
            go_wp2_with (first
              | (at_builtin
                 refine wpList_append_cells _ rfl _ _ 22 rfl w.heap.size 2 ii (.int .i64 0) 1 8 Try.underlying22 hii hzi hsi hbi rfl (by decide) y _ _ rfl HO4.out
                   C o q (fun i => .int .i64 (h i)) rfl (by rw [Nat.mul_one]; exact HC.out.below NB4.out) (fun j _ => rfl) (by unfold maxLen; omega) (by omega) NB4.out.size ?_
                 intro v1 w3 hown hgrow hwhere
                 have HO5 := Lib.hid (show w3.ownsRow w.heap.size 2 1 v1 (LS ++ (List.range o).map h).length (valsI (LS ++ (List.range o).map h)) by rw [List.length_append, List.length_map, List.length_range, ← valsI_cells]; exact hown)
                 have HB5 := Lib.hid (show Below w.heap.size w w3 from Below.grown NB4.out hgrow NB4.out.size (fun j hj => (HO4.out.lt j hj).1))
                 have HP5 := Lib.hid (HPC4.out.grown hgrow (fun x hx => by cases hx; exact HNE.out))
                 have HN5 := Lib.hid (show v1.ownBlock ≠ some gp from by
                   rcases hwhere with h | h
                   · rw [h]; exact HNE.out
                   · rw [h]; intro e; cases e; have := HGS.out; have := NB3.out.size; omega)
                 have k1' : w3.cell? ⟨wr.heap.size, 1, none⟩ = some (.slice B m d) := hgrow.cell k1 (fun e => Nat.lt_irrefl _ (HO2.out.lt _ e.symm).2)
                 clear hown hgrow hwhere)
              | go_in)
            go_roundg (go - m)
            case measure => omega
            case rel => exact ⟨k + m, v1, LS ++ (List.range o).map h, by omega, rfl, by simp, by simp; omega, HN5.out, (by unfold Hid; rw [HL.out, hY.out]; simp), HO5.out, HP5.out, HB5.out⟩
    · have d1 : ¬ (k : Int) < r := by omega
      have e0 : L0 = LS := by rw [HL.out, allOf_end hlt, List.append_nil]
      subst e0
      go_wp2_with fail
      try rw [Exit.noGoto_ret]
      go_ret
      exact ⟨⟨_, rfl, HO.out⟩, HB0.out⟩
end Go.Proofs.Ytehemjcpdblonaa
