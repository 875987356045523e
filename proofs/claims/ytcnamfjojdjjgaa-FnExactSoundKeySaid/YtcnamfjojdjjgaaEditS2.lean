/- Least edits: the reference's costs. -/
import Derived.Test.YtcnamfjojdjjgaaEditS
set_option linter.unusedVariables false
namespace Go.Proofs.Ytcnamfjojdjjgaa
open Go.RowKit
/-- How the reference tells costs. -/
structure TellsE (x y : Nat → Nat) (p o c : Int) (F : Nat → Nat → Int) : Prop where
  r0 : ∀ k, k ≤ 48 → F 0 k = (k : Int) * p
  c0 : ∀ i, i ≤ 48 → F i 0 = (i : Int) * o
  ss : ∀ i k, i < 48 → k < 48 → F (i + 1) (k + 1) = min (min (F i k + if x i = y k then 0 else c) (F i (k + 1) + o)) (F (i + 1) k + p)
  bd : ∀ i k, i ≤ 48 → k ≤ 48 → 0 ≤ F i k ∧ F i k ≤ 1000000
theorem tells_costE {x y : Nat → Nat} {p o c : Int} (hp : 0 ≤ p ∧ p ≤ 1000) (ho : 0 ≤ o ∧ o ≤ 1000) (hc : 0 ≤ c) : TellsE x y p o c (costE x y p o c 1000000) := by
  have hbd := costE_bd (x := x) (y := y) (s := 1000000) hp ho hc (by omega)
  refine ⟨fun k hk => ?_, fun i hi => ?_, fun i k hi hk => ?_, fun i k hi hk => by have := hbd i k; omega⟩
  · clear hk
    induction k with
    | zero => rw [costE_00]; simp
    | succ k ih => rw [costE_0j, ih, Int.natCast_add, Int.add_mul]; omega
  · clear hi
    induction i with
    | zero => rw [costE_00]; simp
    | succ i ih => rw [costE_i0, ih, Int.natCast_add, Int.add_mul]; omega
  · rw [costE_ss]
    simp only
    have h1 := hbd (i + 1) k
    have h2 := hbd (i - 1) (k - 1)
    split
    · have : ∀ z : Int, min z (costE x y p o c 1000000 (i + 1) k + p) ≤ costE x y p o c 1000000 (i + 1) k + p := fun z => by omega
      have := this (min (costE x y p o c 1000000 i k + if x i = y k then 0 else c) (costE x y p o c 1000000 i (k + 1) + o))
      omega
    · rfl
set_option maxRecDepth 20000 in
set_option maxHeartbeats 8000000 in
theorem l04Edits_any (a b : ByteArray) (p o c : Int) (F : Nat → Nat → Int) (w : World) (hF : TellsE (bx a) (bx b) p o c F) (ha : a.size ≤ 48) (hb : b.size ≤ 48) (hp : 0 ≤ p ∧ p ≤ 1000) (ho : 0 ≤ o ∧ o ≤ 1000) (hc : 0 ≤ c ∧ c ≤ 1000) :
    Calls Try.prog 39 #[.string a, .string b, .int .i64 p, .int .i64 o, .int .i64 c] w fun e w' => IRowsRes w w' e (a.size + 1) (b.size + 1) F := by
  obtain ⟨ci, hci, hcz, hcs, hcb⟩ := info_parts infoI64
  obtain ⟨ri, hri, hrz, hrs, hrb⟩ := info_parts infoII64
  have HF := Lib.hid hF
  have HM := Lib.hid (fun x y W => l00Min_any x y W)
  clear hF
  go_enter Try.func39, Try.ntmps39
  go_wp2_with fail
  go_loopw [11, 12] (fun rows ii wr => ∃ (m : Nat) (R : Nat → Option Addr) (cp : Nat → Nat), m ≤ a.size + 1 ∧ ii = .int .i64 m ∧ Hid (IRows w.heap.size wr rows m (b.size + 1) F R cp) ∧ Hid (Below w.heap.size w wr)) (fun _ ii _ => a.size + 1 - (intOf ii).toNat)
  case atStart => exact ⟨0, fun _ => none, fun _ => 0, Nat.zero_le _, rfl, ⟨World.ownsRow_lit w #[] 0 (Nat.le_refl _) (by unfold maxLen; omega) rfl, fun i hi => by omega, fun i hi => by omega⟩, (by repeat (first | exact Below.refl _ _ | exact Hid.out (by assumption) | refine below_alloc ?_ _ | refine Below.setCell ?_ (by simp <;> omega) _ | refine Below.alloc ?_ (by simp <;> omega) _ | refine Below.drew ?_ | refine below_drewN ?_ _))⟩
  case round =>
    obtain ⟨m, R, cp, hm, rfl, HR, HW⟩ := hrel
    obtain ⟨wo, rfl⟩ : ∃ wo : World, wo = wr := ⟨_, rfl⟩
    by_cases hlt : m < a.size + 1
    · have d1 : (m : Int) ≤ a.size := by omega
      rcases Nat.eq_zero_or_pos m with hm0 | hm0
      · have HM0 := Lib.hid hm0
        have d0 : ((m : Int) == 0) = true := by simp; omega
        clear hm0
        go_wp2_with fail
        go_loopw [13, 14] (fun row kk wr => ∃ k : Nat, k ≤ b.size + 1 ∧ kk = .int .i64 k ∧ Hid (wr.ownsRow wo.heap.size 2 1 row k (listV (k * 1) (fun j => .int .i64 (F m j)))) ∧ Hid (Below wo.heap.size wo wr)) (fun _ kk _ => b.size + 1 - (intOf kk).toNat)
        case atStart => exact ⟨0, Nat.zero_le _, rfl, World.ownsRow_lit wo #[] 0 (Nat.le_refl _) (by unfold maxLen; omega) rfl, (by repeat (first | exact Below.refl _ _ | exact Hid.out (by assumption) | refine below_alloc ?_ _ | refine Below.setCell ?_ (by simp <;> omega) _ | refine Below.alloc ?_ (by simp <;> omega) _ | refine Below.drew ?_ | refine below_drewN ?_ _))⟩
        case round =>
          obtain ⟨k, hk, rfl, HO, HB⟩ := hrel
          by_cases hlt2 : k < b.size + 1
          · have d2 : (k : Int) ≤ b.size := by omega
            have hb1 := HF.out.bd 0 k (by omega) (by omega)
            have hv : IntKind.i64.wrap ((k : Int) * p) = F m k := by rw [HM0.out, ← HF.out.r0 k (by omega), IntKind.wrap_i64]; omega
            clear hb1
            go_wp2_with (first
              |
                (at_builtin
                 refine wpList_append_cells _ rfl _ _ 42 rfl wo.heap.size 2 ci (.int .i64 0) 1 8 Try.underlying42 hci hcz hcs hcb rfl (by decide) _ k _ rfl (HO.out.alloc _)
                   (some ⟨wr.heap.size, 0, none⟩) 1 1 (litOne (.int .i64 (F m k))) rfl (cells_lit1 rfl) (fun _ _ => rfl) (by unfold maxLen; omega) (by omega) (by have := HB.out.size; simp; omega) ?_
                 intro v1 w2 hown hgrow hwhere
                 rw [list_lit1 k (fun j => .int .i64 (F m j)) _ rfl] at hown
                 have HO2 := Lib.hid hown
                 have HB2 := Lib.hid (show Below wo.heap.size wo w2 from Below.grown (Below.alloc HB.out HB.out.size _) hgrow (by have := HB.out.size; simp; omega) (fun j hj => (HO.out.lt j hj).1))
                 clear hown hgrow hwhere)
              )
            exact ⟨⟨k + 1, by omega, by simp, HO2.out, HB2.out⟩, by simp [intOf]; omega⟩
          · have d2 : ¬ (k : Int) ≤ b.size := by omega
            obtain rfl : k = b.size + 1 := by omega
            obtain ⟨A2, c2, g2, rfl, h1, h2, h3⟩ := own_cells HO.out
            have O3 := Lib.hid h3
            have HRk := Lib.hid (HR.out.below HB.out)
            have HFar := Lib.hid (show u11.ownBlock ≠ some g2 from fun e => by have := (HR.out.own.lt g2 e).2; omega)
            clear h1 h2 h3
            go_wp2_with (first
              | (at_builtin
                 refine wpList_append_cells _ rfl _ _ 43 rfl w.heap.size 42 ri (.slice none 0 0) 1 24 Try.underlying43 hri hrz hrs hrb rfl (by decide) _ (m) _ rfl (HRk.out.own.alloc _)
                   (some ⟨wr.heap.size, 0, none⟩) 1 1 (litOne (.slice A2 (b.size + 1) c2)) rfl (cells_lit1 rfl) (fun _ _ => rfl) (by unfold maxLen; omega) (by omega) (by have := HB.out.size; have := HW.out.size; simp; omega) ?_
                 intro v1 w2 hown hgrow hwhere
                 have HP := Lib.hid (IRows.put (HRk.out.below ((Below.refl _ _).alloc (Nat.le_refl _) _)) (by omega) (O3.out.below ((Below.refl _ _).alloc (Nat.le_refl _) _)) HFar.out hown hgrow (hwhere.imp id (fun h => ⟨_, h, Nat.le_refl _⟩)))
                 have HB2 := Lib.hid (show Below w.heap.size w w2 from Below.grown (Below.alloc (HW.out.trans (HB.out.mono HW.out.size)) (by have := HB.out.size; have := HW.out.size; omega) _) hgrow (by have := HB.out.size; have := HW.out.size; simp; omega) (fun j hj => (HRk.out.own.lt j hj).1))
                 clear hown hgrow hwhere))
            exact ⟨⟨m + 1, _, _, by omega, by simp, HP.out, HB2.out⟩, by simp [intOf]; omega⟩
      · obtain ⟨M, hM⟩ : ∃ M, m = M + 1 := ⟨m - 1, by omega⟩
        have HM0 := Lib.hid hM
        have d0 : ((m : Int) == 0) = false := by simp; omega
        have dM : IntKind.i64.wrap ((m : Int) - 1) = (M : Int) := by rw [IntKind.wrap_i64]; omega
        have dM2 : (M : Int) < m := by omega
        have dM3 : M < a.size := by omega
        clear hm0 hM
        go_wp2_with fail
        go_loopw [13, 14] (fun row kk wr => ∃ k : Nat, k ≤ b.size + 1 ∧ kk = .int .i64 k ∧ Hid (wr.ownsRow wo.heap.size 2 1 row k (listV (k * 1) (fun j => .int .i64 (F m j)))) ∧ Hid (Below wo.heap.size wo wr)) (fun _ kk _ => b.size + 1 - (intOf kk).toNat)
        case atStart => exact ⟨0, Nat.zero_le _, rfl, World.ownsRow_lit wo #[] 0 (Nat.le_refl _) (by unfold maxLen; omega) rfl, (by repeat (first | exact Below.refl _ _ | exact Hid.out (by assumption) | refine below_alloc ?_ _ | refine Below.setCell ?_ (by simp <;> omega) _ | refine Below.alloc ?_ (by simp <;> omega) _ | refine Below.drew ?_ | refine below_drewN ?_ _))⟩
        case round =>
          obtain ⟨k, hk, rfl, HO, HB⟩ := hrel
          by_cases hlt2 : k < b.size + 1
          · have d2 : (k : Int) ≤ b.size := by omega
            rcases Nat.eq_zero_or_pos k with hk0 | hk0
            · have HK0 := Lib.hid hk0
              have e0 : ((k : Int) == 0) = true := by simp; omega
              have hb1 := HF.out.bd m 0 (by omega) (by omega)
              have hv : IntKind.i64.wrap ((m : Int) * o) = F m k := by rw [HK0.out, ← HF.out.c0 m (by omega), IntKind.wrap_i64]; omega
              clear hb1 hk0
              go_wp2_with (first
                |
                  (at_builtin
                   refine wpList_append_cells _ rfl _ _ 42 rfl wo.heap.size 2 ci (.int .i64 0) 1 8 Try.underlying42 hci hcz hcs hcb rfl (by decide) _ k _ rfl (HO.out.alloc _)
                     (some ⟨wr.heap.size, 0, none⟩) 1 1 (litOne (.int .i64 (F m k))) rfl (cells_lit1 rfl) (fun _ _ => rfl) (by unfold maxLen; omega) (by omega) (by have := HB.out.size; simp; omega) ?_
                   intro v1 w2 hown hgrow hwhere
                   rw [list_lit1 k (fun j => .int .i64 (F m j)) _ rfl] at hown
                   have HO2 := Lib.hid hown
                   have HB2 := Lib.hid (show Below wo.heap.size wo w2 from Below.grown (Below.alloc HB.out HB.out.size _) hgrow (by have := HB.out.size; simp; omega) (fun j hj => (HO.out.lt j hj).1))
                   clear hown hgrow hwhere)
                )
              exact ⟨⟨k + 1, by omega, by simp, HO2.out, HB2.out⟩, by simp [intOf]; omega⟩
            · obtain ⟨K, hK⟩ : ∃ K, k = K + 1 := ⟨k - 1, by omega⟩
              have HK0 := Lib.hid hK
              have e0 : ((k : Int) == 0) = false := by simp; omega
              have eK : IntKind.i64.wrap ((k : Int) - 1) = (K : Int) := by rw [IntKind.wrap_i64]; omega
              have eK2 : (K : Int) < k := by omega
              have eK3 : K < b.size := by omega
              have eK4 : (K : Int) < (b.size : Int) + 1 := by omega
              have eK5 : (k : Int) < (b.size : Int) + 1 := by omega
              clear hk0 hK
              have HRw := Lib.hid (HR.out.below HB.out)
              obtain ⟨gb, cap, hu11, hcells⟩ := HRw.out.at (by have := HM0.out; omega)
              have r1 := hcells M (by omega)
              clear hcells
              obtain ⟨y, hy, k1'⟩ := HRw.out.rows M (by omega) K (by omega)
              obtain ⟨y', hy', k2'⟩ := HRw.out.rows M (by omega) k (by omega)
              rw [hy] at hy'
              cases hy'
              have k1 : wr.cell? (y.add K) = some (.int .i64 (F M K)) := k1'
              have k2 : wr.cell? (y.add k) = some (.int .i64 (F M k)) := k2'
              clear k1' k2'
              rw [hy] at r1
              obtain ⟨g13, c13, rfl⟩ : ∃ g13 c13, u13 = .slice (some ⟨g13, 0, none⟩) k c13 := by
                rcases HO.out.2 with ⟨_, h0⟩ | ⟨g', cap', cur, e1, e2, e3, e4⟩
                · have := HK0.out; omega
                · exact ⟨g', cap', e1⟩
              have k3 : wr.cell? ⟨g13, K, none⟩ = some (.int .i64 (F m K)) := by
                rw [HO.out.cellAt K (by have := HK0.out; omega)]
                exact listV_get _ (by have := HK0.out; omega)
              have HU := Lib.hid hu11
              have HEQ := Lib.hid (show F m k = min (min (F M K + if bx a M = bx b K then 0 else c) (F M k + o)) (F m K + p) by rw [HM0.out, HK0.out]; exact HF.out.ss M K (by omega) (by omega))
              have g1 := HF.out.bd M K (by omega) (by omega)
              have g2 := HF.out.bd M k (by omega) (by omega)
              have g3 := HF.out.bd m K (by omega) (by omega)
              generalize hFm : F m k = fk at *
              have HFK := Lib.hid hFm
              clear hFm hy
              generalize F M K = f1 at *
              generalize F M k = f2 at *
              generalize F m K = f3 at *
              have w2' : IntKind.i64.wrap (f2 + o) = f2 + o := by rw [IntKind.wrap_i64]; omega
              have w3' : IntKind.i64.wrap (f3 + p) = f3 + p := by rw [IntKind.wrap_i64]; omega
              have w1' : IntKind.i64.wrap (f1 + c) = f1 + c := by rw [IntKind.wrap_i64]; omega
              by_cases hxy : bx a M = bx b K
              · rw [if_pos hxy, Int.add_zero] at HEQ
                have hbq : ((a[M].toNat : Int) != (b[K].toNat : Int)) = false := by rw [bx_eq dM3, bx_eq eK3, hxy]; simp
                clear hxy
                subst hu11
                go_wp2_with fail
                go_quiet (fail)
                obtain ⟨wd, hwd⟩ : ∃ wd, wd = wr.drewN nq := ⟨_, rfl⟩
                rw [← hwd]
                have r1' : wd.cell? ⟨gb, M, none⟩ = some (.slice (some y) (b.size + 1) (cp M)) := by rw [hwd]; exact r1
                have k1' : wd.cell? (y.add K) = some (.int .i64 f1) := by rw [hwd]; exact k1
                have k2' : wd.cell? (y.add k) = some (.int .i64 f2) := by rw [hwd]; exact k2
                have k3' : wd.cell? ⟨g13, K, none⟩ = some (.int .i64 f3) := by rw [hwd]; exact k3
                have HO' := Lib.hid (show wd.ownsRow wo.heap.size 2 1 _ k (listV (k * 1) (fun j => .int .i64 (F m j))) by rw [hwd]; exact HO.out)
                have HB' := Lib.hid (show Below wo.heap.size wo wd by rw [hwd]; exact below_drewN HB.out nq)
                clear r1 k1 k2 k3 HO HB hwd HRw
                have HO := HO'
                have HB := HB'
                clear HO' HB'
                have HM1 := Lib.hid (fun W => l00Min_any f1 (f2 + o) W)
                generalize min f1 (f2 + o) = t1 at *
                have HM2 := Lib.hid (fun W => l00Min_any t1 (f3 + p) W)
                rw [← HEQ.out] at HM2
                clear HEQ
                go_wp2_with (first
                  | (go_at_call_of 64 (Value.int .i64 t1)
                     refine (HM2.out _).mono ?_
                     rintro e w' ⟨rfl, rfl⟩)
                  | (go_at_call_of 64 (Value.int .i64 f1)
                     refine (HM1.out _).mono ?_
                     rintro e w' ⟨rfl, rfl⟩)
                  |
                    (at_builtin
                     refine wpList_append_cells _ rfl _ _ 42 rfl wo.heap.size 2 ci (.int .i64 0) 1 8 Try.underlying42 hci hcz hcs hcb rfl (by decide) _ k _ rfl (HO.out.alloc _)
                       (some ⟨wd.heap.size, 0, none⟩) 1 1 (litOne (.int .i64 fk)) rfl (cells_lit1 rfl) (fun _ _ => rfl) (by unfold maxLen; omega) (by omega) (by have := HB.out.size; simp; omega) ?_
                     intro v1 w2 hown hgrow hwhere
                     rw [list_lit1 k (fun j => .int .i64 (F m j)) _ (by rw [HFK.out])] at hown
                     have HO2 := Lib.hid hown
                     have HB2 := Lib.hid (show Below wo.heap.size wo w2 from Below.grown (Below.alloc HB.out HB.out.size _) hgrow (by have := HB.out.size; simp; omega) (fun j hj => (HO.out.lt j hj).1))
                     clear hown hgrow hwhere)
                  )
                exact ⟨⟨k + 1, by omega, by simp, HO2.out, HB2.out⟩, by simp [intOf]; omega⟩
              · rw [if_neg hxy] at HEQ
                have hbq : ((a[M].toNat : Int) != (b[K].toNat : Int)) = true := by rw [bx_eq dM3, bx_eq eK3]; simp; omega
                clear hxy
                subst hu11
                go_wp2_with fail
                go_quiet (fail)
                obtain ⟨wd, hwd⟩ : ∃ wd, wd = wr.drewN nq := ⟨_, rfl⟩
                rw [← hwd]
                have r1' : wd.cell? ⟨gb, M, none⟩ = some (.slice (some y) (b.size + 1) (cp M)) := by rw [hwd]; exact r1
                have k1' : wd.cell? (y.add K) = some (.int .i64 f1) := by rw [hwd]; exact k1
                have k2' : wd.cell? (y.add k) = some (.int .i64 f2) := by rw [hwd]; exact k2
                have k3' : wd.cell? ⟨g13, K, none⟩ = some (.int .i64 f3) := by rw [hwd]; exact k3
                have HO' := Lib.hid (show wd.ownsRow wo.heap.size 2 1 _ k (listV (k * 1) (fun j => .int .i64 (F m j))) by rw [hwd]; exact HO.out)
                have HB' := Lib.hid (show Below wo.heap.size wo wd by rw [hwd]; exact below_drewN HB.out nq)
                clear r1 k1 k2 k3 HO HB hwd HRw
                have HO := HO'
                have HB := HB'
                clear HO' HB'
                have HM1 := Lib.hid (fun W => l00Min_any (f1 + c) (f2 + o) W)
                generalize min (f1 + c) (f2 + o) = t1 at *
                have HM2 := Lib.hid (fun W => l00Min_any t1 (f3 + p) W)
                rw [← HEQ.out] at HM2
                clear HEQ
                go_wp2_with (first
                  | (go_at_call_of 64 (Value.int .i64 t1)
                     refine (HM2.out _).mono ?_
                     rintro e w' ⟨rfl, rfl⟩)
                  | (go_at_call_of 64 (Value.int .i64 (f1 + c))
                     refine (HM1.out _).mono ?_
                     rintro e w' ⟨rfl, rfl⟩)
                  |
                    (at_builtin
                     refine wpList_append_cells _ rfl _ _ 42 rfl wo.heap.size 2 ci (.int .i64 0) 1 8 Try.underlying42 hci hcz hcs hcb rfl (by decide) _ k _ rfl (HO.out.alloc _)
                       (some ⟨wd.heap.size, 0, none⟩) 1 1 (litOne (.int .i64 fk)) rfl (cells_lit1 rfl) (fun _ _ => rfl) (by unfold maxLen; omega) (by omega) (by have := HB.out.size; simp; omega) ?_
                     intro v1 w2 hown hgrow hwhere
                     rw [list_lit1 k (fun j => .int .i64 (F m j)) _ (by rw [HFK.out])] at hown
                     have HO2 := Lib.hid hown
                     have HB2 := Lib.hid (show Below wo.heap.size wo w2 from Below.grown (Below.alloc HB.out HB.out.size _) hgrow (by have := HB.out.size; simp; omega) (fun j hj => (HO.out.lt j hj).1))
                     clear hown hgrow hwhere)
                  )
                exact ⟨⟨k + 1, by omega, by simp, HO2.out, HB2.out⟩, by simp [intOf]; omega⟩
          · have d2 : ¬ (k : Int) ≤ b.size := by omega
            obtain rfl : k = b.size + 1 := by omega
            obtain ⟨A2, c2, g2, rfl, h1, h2, h3⟩ := own_cells HO.out
            have O3 := Lib.hid h3
            have HRk := Lib.hid (HR.out.below HB.out)
            have HFar := Lib.hid (show u11.ownBlock ≠ some g2 from fun e => by have := (HR.out.own.lt g2 e).2; omega)
            clear h1 h2 h3
            go_wp2_with (first
              | (at_builtin
                 refine wpList_append_cells _ rfl _ _ 43 rfl w.heap.size 42 ri (.slice none 0 0) 1 24 Try.underlying43 hri hrz hrs hrb rfl (by decide) _ (m) _ rfl (HRk.out.own.alloc _)
                   (some ⟨wr.heap.size, 0, none⟩) 1 1 (litOne (.slice A2 (b.size + 1) c2)) rfl (cells_lit1 rfl) (fun _ _ => rfl) (by unfold maxLen; omega) (by omega) (by have := HB.out.size; have := HW.out.size; simp; omega) ?_
                 intro v1 w2 hown hgrow hwhere
                 have HP := Lib.hid (IRows.put (HRk.out.below ((Below.refl _ _).alloc (Nat.le_refl _) _)) (by omega) (O3.out.below ((Below.refl _ _).alloc (Nat.le_refl _) _)) HFar.out hown hgrow (hwhere.imp id (fun h => ⟨_, h, Nat.le_refl _⟩)))
                 have HB2 := Lib.hid (show Below w.heap.size w w2 from Below.grown (Below.alloc (HW.out.trans (HB.out.mono HW.out.size)) (by have := HB.out.size; have := HW.out.size; omega) _) hgrow (by have := HB.out.size; have := HW.out.size; simp; omega) (fun j hj => (HRk.out.own.lt j hj).1))
                 clear hown hgrow hwhere))
            exact ⟨⟨m + 1, _, _, by omega, by simp, HP.out, HB2.out⟩, by simp [intOf]; omega⟩
    · have d1 : ¬ (m : Int) ≤ a.size := by omega
      obtain rfl : m = a.size + 1 := by omega
      have HFin := Lib.hid (show IRowsRes w wo (.returned u11) (a.size + 1) (b.size + 1) F from ⟨_, R, cp, rfl, HR.out, HW.out⟩)
      go_wp2_with fail
      go_ret
      exact HFin.out
end Go.Proofs.Ytcnamfjojdjjgaa
