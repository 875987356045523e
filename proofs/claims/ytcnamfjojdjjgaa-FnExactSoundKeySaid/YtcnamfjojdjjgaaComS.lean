/- The longest common text: the reference's lengths. -/
import Derived.Test.YtcnamfjojdjjgaaStepA
import Derived.Test.YtcnamfjojdjjgaaLocS
import Derived.Test.YtcnamfjojdjjgaaEditT
import Derived.Test.YtcnamfjojdjjgaaComM
import Derived.Deep.RegionHeldLaw
set_option linter.unusedVariables false
namespace Go.Proofs.Ytcnamfjojdjjgaa
open Go.RowKit
/-- How the reference tells lengths. -/
structure TellsC (x y : Nat → Nat) (F : Nat → Nat → Int) : Prop where
  r0 : ∀ k, F 0 k = 0
  c0 : ∀ i, F i 0 = 0
  ss : ∀ i k, F (i + 1) (k + 1) = if x i = y k then F i k + 1 else max (F i (k + 1)) (F (i + 1) k)
  bd : ∀ i k, i ≤ 48 → 0 ≤ F i k ∧ F i k ≤ 48
theorem tells_lcs {x y : Nat → Nat} : TellsC x y (lcsE x y) :=
  ⟨lcsE_0j, lcsE_i0, lcsE_ss, fun i k hi => by have := lcsE_bd (x := x) (y := y) i k; omega⟩
set_option maxRecDepth 20000 in
set_option maxHeartbeats 8000000 in
theorem l04Commons_any (a b : ByteArray) (F : Nat → Nat → Int) (w : World) (hF : TellsC (bx a) (bx b) F) (ha : a.size ≤ 48) (hb : b.size ≤ 48) :
    Calls Try.prog 54 #[.string a, .string b] w fun e w' => IRowsRes w w' e (a.size + 1) (b.size + 1) F := by
  obtain ⟨ci, hci, hcz, hcs, hcb⟩ := info_parts infoI64
  obtain ⟨ri, hri, hrz, hrs, hrb⟩ := info_parts infoII64
  have HF := Lib.hid hF
  have HM := Lib.hid (fun x y W => l00Max_any x y W)
  clear hF
  go_enter Try.func54, Try.ntmps54
  go_wp2_with fail
  go_loopw [5, 6] (fun rows ii wr => ∃ (m : Nat) (R : Nat → Option Addr) (cp : Nat → Nat), m ≤ a.size + 1 ∧ ii = .int .i64 m ∧ Hid (IRows w.heap.size wr rows m (b.size + 1) F R cp) ∧ Hid (Below w.heap.size w wr)) (fun _ ii _ => a.size + 1 - (intOf ii).toNat)
  case atStart => exact ⟨0, fun _ => none, fun _ => 0, Nat.zero_le _, rfl, ⟨World.ownsRow_lit w #[] 0 (Nat.le_refl _) (by unfold maxLen; omega) rfl, fun i hi => by omega, fun i hi => by omega⟩, (by repeat (first | exact Below.refl _ _ | exact Hid.out (by assumption) | refine below_alloc ?_ _ | refine Below.setCell ?_ (by simp <;> omega) _ | refine Below.alloc ?_ (by simp <;> omega) _ | refine Below.drew ?_ | refine below_drewN ?_ _))⟩
  case round =>
    obtain ⟨m, R, cp, hm, rfl, HR, HW⟩ := hrel
    obtain ⟨wo, rfl⟩ : ∃ wo : World, wo = wr := ⟨_, rfl⟩
    by_cases hlt : m < a.size + 1
    · have d1 : (m : Int) ≤ a.size := by omega
      rcases Nat.eq_zero_or_pos m with hm0 | hm0
      · have HM0 := Lib.hid hm0
        have d0 : ((m : Int) == 0) = true := by simp; omega
        clear hm0
        go_wp2_with fail
        go_loopw [7, 8] (fun row kk wr => ∃ k : Nat, k ≤ b.size + 1 ∧ kk = .int .i64 k ∧ Hid (wr.ownsRow wo.heap.size 2 1 row k (listV (k * 1) (fun j => .int .i64 (F m j)))) ∧ Hid (Below wo.heap.size wo wr)) (fun _ kk _ => b.size + 1 - (intOf kk).toNat)
        case atStart => exact ⟨0, Nat.zero_le _, rfl, World.ownsRow_lit wo #[] 0 (Nat.le_refl _) (by unfold maxLen; omega) rfl, (by repeat (first | exact Below.refl _ _ | exact Hid.out (by assumption) | refine below_alloc ?_ _ | refine Below.setCell ?_ (by simp <;> omega) _ | refine Below.alloc ?_ (by simp <;> omega) _ | refine Below.drew ?_ | refine below_drewN ?_ _))⟩
        case round =>
          obtain ⟨k, hk, rfl, HO, HB⟩ := hrel
          by_cases hlt2 : k < b.size + 1
          · have d2 : (k : Int) ≤ b.size := by omega
            go_wp2_with (first
              |
                (at_builtin
                 refine wpList_append_cells _ rfl _ _ 42 rfl wo.heap.size 2 ci (.int .i64 0) 1 8 Try.underlying42 hci hcz hcs hcb rfl (by decide) _ k _ rfl (HO.out.alloc _)
                   (some ⟨wr.heap.size, 0, none⟩) 1 1 (litOne (.int .i64 0)) rfl (cells_lit1 rfl) (fun _ _ => rfl) (by unfold maxLen; omega) (by omega) (by have := HB.out.size; simp; omega) ?_
                 intro v1 w2 hown hgrow hwhere
                 rw [list_lit1 k (fun j => .int .i64 (F m j)) _ (by rw [HM0.out, HF.out.r0])] at hown
                 have HO2 := Lib.hid hown
                 have HB2 := Lib.hid (show Below wo.heap.size wo w2 from Below.grown (Below.alloc HB.out HB.out.size _) hgrow (by have := HB.out.size; simp; omega) (fun j hj => (HO.out.lt j hj).1))
                 clear hown hgrow hwhere)
              )
            exact ⟨⟨k + 1, by omega, by simp, HO2.out, HB2.out⟩, by simp [intOf]; omega⟩
          · have d2 : ¬ (k : Int) ≤ b.size := by omega
            obtain rfl : k = b.size + 1 := by omega
            obtain ⟨A2, c2, g2, rfl, h1, h2, h3⟩ := own_cells HO.out
            have O3 := Lib.hid h3
            have HRk := Lib.hid (HR.out.below HB.out)
            have HFar := Lib.hid (show u5.ownBlock ≠ some g2 from fun e => by have := (HR.out.own.lt g2 e).2; omega)
            clear h1 h2 h3
            go_wp2_with (first
              | (at_builtin
                 refine wpList_append_cells _ rfl _ _ 43 rfl w.heap.size 42 ri (.slice none 0 0) 1 24 Try.underlying43 hri hrz hrs hrb rfl (by decide) _ (m) _ rfl (HRk.out.own.alloc _)
                   (some ⟨wr.heap.size, 0, none⟩) 1 1 (litOne (.slice A2 (b.size + 1) c2)) rfl (cells_lit1 rfl) (fun _ _ => rfl) (by unfold maxLen; omega) (by omega) (by have := HB.out.size; have := HW.out.size; simp; omega) ?_
                 intro v1 w2 hown hgrow hwhere
                 have HP := Lib.hid (IRows.put (HRk.out.below ((Below.refl _ _).alloc (Nat.le_refl _) _)) (by omega) (O3.out.below ((Below.refl _ _).alloc (Nat.le_refl _) _)) HFar.out hown hgrow (hwhere.imp id (fun h => ⟨_, h, Nat.le_refl _⟩)))
                 have HB2 := Lib.hid (show Below w.heap.size w w2 from Below.grown (Below.alloc (HW.out.trans (HB.out.mono HW.out.size)) (by have := HB.out.size; have := HW.out.size; omega) _) hgrow (by have := HB.out.size; have := HW.out.size; simp; omega) (fun j hj => (HRk.out.own.lt j hj).1))
                 clear hown hgrow hwhere))
            exact ⟨⟨m + 1, _, _, by omega, by simp, HP.out, HB2.out⟩, by simp [intOf]; omega⟩
      · obtain ⟨M, hM⟩ : ∃ M, m = M + 1 := ⟨m - 1, by omega⟩
        have HM0 := Lib.hid hM
        have d0 : ((m : Int) == 0) = false := by simp; omega
        have dM : IntKind.i64.wrap ((m : Int) - 1) = (M : Int) := by rw [IntKind.wrap_i64]; omega
        have dM2 : (M : Int) < m := by omega
        have dM3 : M < a.size := by omega
        clear hm0 hM
        go_wp2_with fail
        go_loopw [7, 8] (fun row kk wr => ∃ k : Nat, k ≤ b.size + 1 ∧ kk = .int .i64 k ∧ Hid (wr.ownsRow wo.heap.size 2 1 row k (listV (k * 1) (fun j => .int .i64 (F m j)))) ∧ Hid (Below wo.heap.size wo wr)) (fun _ kk _ => b.size + 1 - (intOf kk).toNat)
        case atStart => exact ⟨0, Nat.zero_le _, rfl, World.ownsRow_lit wo #[] 0 (Nat.le_refl _) (by unfold maxLen; omega) rfl, (by repeat (first | exact Below.refl _ _ | exact Hid.out (by assumption) | refine below_alloc ?_ _ | refine Below.setCell ?_ (by simp <;> omega) _ | refine Below.alloc ?_ (by simp <;> omega) _ | refine Below.drew ?_ | refine below_drewN ?_ _))⟩
        case round =>
          obtain ⟨k, hk, rfl, HO, HB⟩ := hrel
          by_cases hlt2 : k < b.size + 1
          · have d2 : (k : Int) ≤ b.size := by omega
            rcases Nat.eq_zero_or_pos k with hk0 | hk0
            · have HK0 := Lib.hid hk0
              have e0 : ((k : Int) == 0) = true := by simp; omega
              clear hk0
              go_wp2_with (first
                |
                  (at_builtin
                   refine wpList_append_cells _ rfl _ _ 42 rfl wo.heap.size 2 ci (.int .i64 0) 1 8 Try.underlying42 hci hcz hcs hcb rfl (by decide) _ k _ rfl (HO.out.alloc _)
                     (some ⟨wr.heap.size, 0, none⟩) 1 1 (litOne (.int .i64 0)) rfl (cells_lit1 rfl) (fun _ _ => rfl) (by unfold maxLen; omega) (by omega) (by have := HB.out.size; simp; omega) ?_
                   intro v1 w2 hown hgrow hwhere
                   rw [list_lit1 k (fun j => .int .i64 (F m j)) _ (by rw [HK0.out, HF.out.c0])] at hown
                   have HO2 := Lib.hid hown
                   have HB2 := Lib.hid (show Below wo.heap.size wo w2 from Below.grown (Below.alloc HB.out HB.out.size _) hgrow (by have := HB.out.size; simp; omega) (fun j hj => (HO.out.lt j hj).1))
                   clear hown hgrow hwhere)
                )
              exact ⟨⟨k + 1, by omega, by simp, HO2.out, HB2.out⟩, by simp [intOf]; omega⟩
            · obtain ⟨K, hK⟩ : ∃ K, k = K + 1 := ⟨k - 1, by omega⟩
              have HK0 := Lib.hid hK
              have e0 : ((k : Int) == 0) = false := by simp; omega
              have eK : IntKind.i64.wrap ((k : Int) - 1) = (K : Int) := by rw [IntKind.wrap_i64]; omega
              have eK2 : (K : Int) < k := by omega
              have eK3 : K < b.size := by omega
              have eK4 : (K : Int) < (b.size : Int) + 1 := by omega
              have eK5 : (k : Int) < (b.size : Int) + 1 := by omega
              clear hk0 hK
              have HRw := Lib.hid (HR.out.below HB.out)
              obtain ⟨gb, cap, hu5, hcells⟩ := HRw.out.at (by have := HM0.out; omega)
              have r1 := hcells M (by omega)
              clear hcells
              obtain ⟨y, hy, k1'⟩ := HRw.out.rows M (by omega) K (by omega)
              obtain ⟨y', hy', k2'⟩ := HRw.out.rows M (by omega) k (by omega)
              rw [hy] at hy'
              cases hy'
              have k1 : wr.cell? (y.add K) = some (.int .i64 (F M K)) := k1'
              have k2 : wr.cell? (y.add k) = some (.int .i64 (F M k)) := k2'
              clear k1' k2'
              rw [hy] at r1
              obtain ⟨g13, c13, rfl⟩ : ∃ g13 c13, u7 = .slice (some ⟨g13, 0, none⟩) k c13 := by
                rcases HO.out.2 with ⟨_, h0⟩ | ⟨g', cap', cur, e1, e2, e3, e4⟩
                · have := HK0.out; omega
                · exact ⟨g', cap', e1⟩
              have k3 : wr.cell? ⟨g13, K, none⟩ = some (.int .i64 (F m K)) := by
                rw [HO.out.cellAt K (by have := HK0.out; omega)]
                exact listV_get _ (by have := HK0.out; omega)
              have HU := Lib.hid hu5
              have HEQ := Lib.hid (show F m k = if bx a M = bx b K then F M K + 1 else max (F M k) (F m K) by rw [HM0.out, HK0.out]; exact HF.out.ss M K)
              have g1 := HF.out.bd M K (by omega)
              have g2 := HF.out.bd M k (by omega)
              have g3 := HF.out.bd m K (by omega)
              generalize hFm : F m k = fk at *
              have HFK := Lib.hid hFm
              have hyb : y.block < wo.heap.size := by
                obtain ⟨y0, hy0, hc0⟩ := HR.out.rows M (by have := HM0.out; omega) 0 (by omega)
                rw [hy] at hy0
                cases hy0
                have := World.block_lt_of_cell? _ _ hc0
                rwa [block_add] at this
              have HYB := Lib.hid hyb
              clear hFm hy hyb
              generalize F M K = f1 at *
              generalize F M k = f2 at *
              generalize F m K = f3 at *
              by_cases hxy : bx a M = bx b K
              · rw [if_pos hxy] at HEQ
                have hbq : ((a[M].toNat : Int) == (b[K].toNat : Int)) = true := by rw [bx_eq dM3, bx_eq eK3, hxy]; simp
                have w1' : IntKind.i64.wrap (f1 + 1) = fk := by rw [IntKind.wrap_i64, HEQ.out]; omega
                clear hxy HEQ
                subst hu5
                go_wp2_with fail
                go_quiet (fail)
                obtain ⟨wd, hwd⟩ : ∃ wd, wd = wr.drewN nq := ⟨_, rfl⟩
                rw [← hwd]
                have r1' : wd.cell? ⟨gb, M, none⟩ = some (.slice (some y) (b.size + 1) (cp M)) := by rw [hwd]; exact r1
                have k1' : wd.cell? (y.add K) = some (.int .i64 f1) := by rw [hwd]; exact k1
                have k2' : wd.cell? (y.add k) = some (.int .i64 f2) := by rw [hwd]; exact k2
                have k3' : wd.cell? ⟨g13, K, none⟩ = some (.int .i64 f3) := by rw [hwd]; exact k3
                have HO' := Lib.hid (show wd.ownsRow wo.heap.size 2 1 _ k (listV (k * 1) (fun j => .int .i64 (F m j))) by rw [hwd]; exact HO.out)
                have HB' := Lib.hid (show Below wo.heap.size wo wd by rw [hwd]; exact below_drewN HB.out nq)
                clear r1 k1 k2 k3 HO HB hwd HRw
                have HO := HO'
                have HB := HB'
                clear HO' HB'
                go_wp2_with (first
                  |
                    (at_builtin
                     refine wpList_append_cells _ rfl _ _ 42 rfl wo.heap.size 2 ci (.int .i64 0) 1 8 Try.underlying42 hci hcz hcs hcb rfl (by decide) _ k _ rfl (HO.out.alloc _)
                       (some ⟨wd.heap.size, 0, none⟩) 1 1 (litOne (.int .i64 fk)) rfl (cells_lit1 rfl) (fun _ _ => rfl) (by unfold maxLen; omega) (by omega) (by have := HB.out.size; simp; omega) ?_
                     intro v1 w2 hown hgrow hwhere
                     rw [list_lit1 k (fun j => .int .i64 (F m j)) _ (by rw [HFK.out])] at hown
                     have HO2 := Lib.hid hown
                     have HB2 := Lib.hid (show Below wo.heap.size wo w2 from Below.grown (Below.alloc HB.out HB.out.size _) hgrow (by have := HB.out.size; simp; omega) (fun j hj => (HO.out.lt j hj).1))
                     clear hown hgrow hwhere)
                  )
                exact ⟨⟨k + 1, by omega, by simp, HO2.out, HB2.out⟩, by simp [intOf]; omega⟩
              · rw [if_neg hxy] at HEQ
                have hbq : ((a[M].toNat : Int) == (b[K].toNat : Int)) = false := by rw [bx_eq dM3, bx_eq eK3]; simp; omega
                have HM1 := Lib.hid (fun W => HM.out f2 f3 W)
                rw [← HEQ.out] at HM1
                clear hxy HEQ
                subst hu5
                go_wp2_with fail
                go_quiet (fail)
                obtain ⟨wd, hwd⟩ : ∃ wd, wd = wr.drewN nq := ⟨_, rfl⟩
                rw [← hwd]
                have r1' : wd.cell? ⟨gb, M, none⟩ = some (.slice (some y) (b.size + 1) (cp M)) := by rw [hwd]; exact r1
                have k1' : wd.cell? (y.add K) = some (.int .i64 f1) := by rw [hwd]; exact k1
                have k2' : wd.cell? (y.add k) = some (.int .i64 f2) := by rw [hwd]; exact k2
                have k3' : wd.cell? ⟨g13, K, none⟩ = some (.int .i64 f3) := by rw [hwd]; exact k3
                have HO' := Lib.hid (show wd.ownsRow wo.heap.size 2 1 _ k (listV (k * 1) (fun j => .int .i64 (F m j))) by rw [hwd]; exact HO.out)
                have HB' := Lib.hid (show Below wo.heap.size wo wd by rw [hwd]; exact below_drewN HB.out nq)
                clear r1 k1 k2 k3 HO HB hwd HRw
                have HO := HO'
                have HB := HB'
                clear HO' HB'
                go_wp2_with fail
                have HKeep := Lib.hid (show ∀ W, Below wd.heap.size wd W → (W.cell? ⟨gb, M, none⟩ = some (.slice (some y) (b.size + 1) (cp M)) ∧ W.cell? (y.add k) = some (.int .i64 f2) ∧ W.cell? ⟨g13, K, none⟩ = some (.int .i64 f3)) from fun W hW => ⟨(hW.cell (World.block_lt_of_cell? _ _ r1')).trans r1', (hW.cell (World.block_lt_of_cell? _ _ k2')).trans k2', (hW.cell (World.block_lt_of_cell? _ _ k3')).trans k3'⟩)
                have hgb := (HR.out.own.lt gb (by simp [Value.ownBlock])).2
                have hg13 := (HO.out.lt g13 (by simp [Value.ownBlock])).1
                have HG := Lib.hid (And.intro hgb hg13)
                clear hgb hg13 r1' k1' k2' k3'
                go_region_held_law (fun W => W.cell? ⟨gb, M, none⟩ = some (.slice (some y) (b.size + 1) (cp M)) ∧ W.cell? (y.add k) = some (.int .i64 f2) ∧ W.cell? ⟨g13, K, none⟩ = some (.int .i64 f3))
                  (first
                    | exact HS2.out
                    | exact HKeep.out _ (by repeat (first | exact Below.refl _ _ | exact Hid.out (by assumption) | refine below_alloc ?_ _ | refine Below.setCell ?_ (by simp <;> omega) _ | refine Below.alloc ?_ (by simp <;> omega) _ | refine Below.drew ?_ | refine below_drewN ?_ _)))
                  (first
                    | (go_at_call 47
                       refine (HM1.out _).mono ?_
                       rintro e w' ⟨rfl, rfl⟩)
                    | (refine step_append_one _ rfl (.tmp 23) (.tmp 38) 42 rfl wo.heap.size 2 ci (.int .i64 0) 1 8 Try.underlying42 hci hcz hcs hcb rfl (by decide) g13 k c13 _ rfl (own_below HO.out (by repeat (first | exact Below.refl _ _ | exact Hid.out (by assumption) | refine below_alloc ?_ _ | refine Below.setCell ?_ (by simp <;> omega) _ | refine Below.alloc ?_ (by simp <;> omega) _ | refine Below.drew ?_ | refine below_drewN ?_ _)))
                         _ 1 1 (litOne (.int .i64 fk)) rfl (cells_lit1 rfl) (fun _ _ => rfl) (by unfold maxLen; omega) (by omega) (by have := HB.out.size; simp; omega) ?_
                       intro v1 w2 hown hgrow hwhere hkeep
                       rw [list_lit1 k (fun j => .int .i64 (F m j)) _ (by rw [HFK.out])] at hown
                       have HO2 := Lib.hid hown
                       have HB2 := Lib.hid (show Below wo.heap.size wo w2 from Below.grown (B := wo.heap.size) (a := wo) (by repeat (first | exact Below.refl _ _ | exact Hid.out (by assumption) | refine below_alloc ?_ _ | refine Below.setCell ?_ (by simp <;> omega) _ | refine Below.alloc ?_ (by simp <;> omega) _ | refine Below.drew ?_ | refine below_drewN ?_ _)) hgrow (by have := HB.out.size; simp; omega) (fun j hj => by cases hj; exact HG.out.2))
                       have HS2 := Lib.hid (show (let W := w2; (W.cell? ⟨gb, M, none⟩ = some (.slice (some y) (b.size + 1) (cp M)) ∧ W.cell? (y.add k) = some (.int .i64 f2) ∧ W.cell? ⟨g13, K, none⟩ = some (.int .i64 f3))) from ⟨hgrow.cell (HKeep.out _ (by repeat (first | exact Below.refl _ _ | exact Hid.out (by assumption) | refine below_alloc ?_ _ | refine Below.setCell ?_ (by simp <;> omega) _ | refine Below.alloc ?_ (by simp <;> omega) _ | refine Below.drew ?_ | refine below_drewN ?_ _))).1 (by have := HG.out; simp; omega), hgrow.cell (HKeep.out _ (by repeat (first | exact Below.refl _ _ | exact Hid.out (by assumption) | refine below_alloc ?_ _ | refine Below.setCell ?_ (by simp <;> omega) _ | refine Below.alloc ?_ (by simp <;> omega) _ | refine Below.drew ?_ | refine below_drewN ?_ _))).2.1 (by have := HG.out; have := HYB.out; rw [block_add]; simp; omega), (hkeep K (by have := HK0.out; omega)).trans (HKeep.out _ (by repeat (first | exact Below.refl _ _ | exact Hid.out (by assumption) | refine below_alloc ?_ _ | refine Below.setCell ?_ (by simp <;> omega) _ | refine Below.alloc ?_ (by simp <;> omega) _ | refine Below.drew ?_ | refine below_drewN ?_ _))).2.2⟩)
                       clear hown hgrow hwhere hkeep))
                go_wp2_with fail
                exact ⟨⟨k + 1, by omega, by simp, HO2.out, HB2.out⟩, by simp [intOf]; omega⟩
          · have d2 : ¬ (k : Int) ≤ b.size := by omega
            obtain rfl : k = b.size + 1 := by omega
            obtain ⟨A2, c2, g2, rfl, h1, h2, h3⟩ := own_cells HO.out
            have O3 := Lib.hid h3
            have HRk := Lib.hid (HR.out.below HB.out)
            have HFar := Lib.hid (show u5.ownBlock ≠ some g2 from fun e => by have := (HR.out.own.lt g2 e).2; omega)
            clear h1 h2 h3
            go_wp2_with (first
              | (at_builtin
                 refine wpList_append_cells _ rfl _ _ 43 rfl w.heap.size 42 ri (.slice none 0 0) 1 24 Try.underlying43 hri hrz hrs hrb rfl (by decide) _ (m) _ rfl (HRk.out.own.alloc _)
                   (some ⟨wr.heap.size, 0, none⟩) 1 1 (litOne (.slice A2 (b.size + 1) c2)) rfl (cells_lit1 rfl) (fun _ _ => rfl) (by unfold maxLen; omega) (by omega) (by have := HB.out.size; have := HW.out.size; simp; omega) ?_
                 intro v1 w2 hown hgrow hwhere
                 have HP := Lib.hid (IRows.put (HRk.out.below ((Below.refl _ _).alloc (Nat.le_refl _) _)) (by omega) (O3.out.below ((Below.refl _ _).alloc (Nat.le_refl _) _)) HFar.out hown hgrow (hwhere.imp id (fun h => ⟨_, h, Nat.le_refl _⟩)))
                 have HB2 := Lib.hid (show Below w.heap.size w w2 from Below.grown (Below.alloc (HW.out.trans (HB.out.mono HW.out.size)) (by have := HB.out.size; have := HW.out.size; omega) _) hgrow (by have := HB.out.size; have := HW.out.size; simp; omega) (fun j hj => (HRk.out.own.lt j hj).1))
                 clear hown hgrow hwhere))
            exact ⟨⟨m + 1, _, _, by omega, by simp, HP.out, HB2.out⟩, by simp [intOf]; omega⟩
    · have d1 : ¬ (m : Int) ≤ a.size := by omega
      obtain rfl : m = a.size + 1 := by omega
      have HFin := Lib.hid (show IRowsRes w wo (.returned u5) (a.size + 1) (b.size + 1) F from ⟨_, R, cp, rfl, HR.out, HW.out⟩)
      go_wp2_with fail
      go_ret
      exact HFin.out
end Go.Proofs.Ytcnamfjojdjjgaa
