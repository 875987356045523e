/- LocalGain: the reference's answer. -/
import Derived.Test.YtcnamfjojdjjgaaLocK
set_option linter.unusedVariables false
namespace Go.Proofs.Ytcnamfjojdjjgaa
open Go.RowKit
theorem l00Max_any (x y : Int) (w : World) : Calls Try.prog 47 #[.int .i64 x, .int .i64 y] w fun e w' => e = .returned (.int .i64 (max x y)) ∧ w = w' := by
  by_cases h : y < x
  · rw [show max x y = x by omega]
    go_enter Try.func47, Try.ntmps47
    go_wp2
    go_ret
    exact ⟨rfl, rfl⟩
  · rw [show max x y = y by omega]
    go_enter Try.func47, Try.ntmps47
    go_wp2
    go_ret
    exact ⟨rfl, rfl⟩
/-- The greatest number so far: of all rows before m, and of the first k of row m. -/
def TopSo (F : Nat → Nat → Int) (m n k : Nat) (B : Int) : Prop := (∀ i j, i < m → j ≤ n → F i j ≤ B) ∧ (∀ j, j < k → F m j ≤ B) ∧ ∃ i j, i ≤ m ∧ j ≤ n ∧ B = F i j
theorem TopSo.step {F : Nat → Nat → Int} {m n k : Nat} {B : Int} (h : TopSo F m n k B) (hk : k ≤ n) : TopSo F m n (k + 1) (max B (F m k)) := by
  obtain ⟨h1, h2, i, j, hi, hj, he⟩ := h
  refine ⟨fun i j hi hj => by have := h1 i j hi hj; omega, fun j hj => ?_, ?_⟩
  · rcases Nat.lt_or_ge j k with h | h
    · have := h2 j h; omega
    · obtain rfl : j = k := by omega
      omega
  · by_cases hB : B ≤ F m k
    · exact ⟨m, k, Nat.le_refl _, hk, by omega⟩
    · exact ⟨i, j, hi, hj, by omega⟩
theorem TopSo.row {F : Nat → Nat → Int} {m n : Nat} {B : Int} (h : TopSo F m n (n + 1) B) : IsTop F m n B := by
  obtain ⟨h1, h2, h3⟩ := h
  refine ⟨fun i j hi hj => ?_, h3⟩
  rcases Nat.lt_or_ge i m with h | h
  · exact h1 i j h hj
  · obtain rfl : i = m := by omega
    exact h2 j (by omega)
theorem IsTop.next {F : Nat → Nat → Int} {m n : Nat} {B : Int} (h : IsTop F m n B) (h0 : F (m + 1) 0 ≤ B) : TopSo F (m + 1) n 1 B := by
  obtain ⟨h1, i, j, hi, hj, he⟩ := h
  refine ⟨fun i j hi hj => h1 i j (by omega) hj, fun j hj => ?_, i, j, by omega, hj, he⟩
  obtain rfl : j = 0 := by omega
  exact h0
set_option maxRecDepth 20000 in
set_option maxHeartbeats 8000000 in
theorem specLocalGain_law (a b : ByteArray) (p o c : Int) (w : World) (h0 : a.size ≤ 1048576) (h1 : b.size ≤ 1048576) :
    Calls Try.prog 25 #[.string a, .string b, .int .i64 p, .int .i64 o, .int .i64 c] w fun e w' => e = .returned (.tuple #[.int .i64 (vLocalGain0 a b p o c), .bool (vLocalGain1 a b p o c)]) ∧ Below w.heap.size w w' := by
  have HT := Lib.hid (fun W => l04Two_any a b W)
  have HV0 := Lib.hid (show vLocalGain0 a b p o c = if vLocalGain1 a b p o c then topLoc a b p o c else 0 from rfl)
  have HV1 := Lib.hid (show vLocalGain1 a b p o c = ((textB a && textB b) && (costB p && costB o && costB c)) from rfl)
  generalize vLocalGain0 a b p o c = v0 at *
  generalize vLocalGain1 a b p o c = v1 at *
  cases ht : (textB a && textB b)
  · rw [ht] at HT HV1
    clear ht
    go_enter Try.func25, Try.ntmps25
    go_wp2_with (first
      | (go_at_call 37
         refine (HT.out _).mono ?_
         rintro e u1 ⟨rfl, rfl⟩))
    go_ret2
    exact ⟨ret_ib (by rw [HV0.out, HV1.out]; rfl) (by rw [HV1.out]; rfl), (by repeat (first | exact Below.refl _ _ | exact Hid.out (by assumption) | refine below_alloc ?_ _ | refine Below.setCell ?_ (by simp <;> omega) _ | refine Below.alloc ?_ (by simp <;> omega) _ | refine Below.drew ?_ | refine below_drewN ?_ _))⟩
  · have hta : textB a = true := by revert ht; cases textB a <;> simp
    have htb : textB b = true := by revert ht; cases textB b <;> simp
    rw [ht] at HT HV1
    have HW := Lib.hid (fun W => l04Costs_any (some ⟨w.heap.size, 0, none⟩) 3 3 (row3 p o c) W (by omega))
    rw [costsB_3] at HW
    cases hc : (costB p && costB o && costB c)
    · rw [hc] at HW HV1
      clear ht hta htb hc
      go_enter Try.func25, Try.ntmps25
      go_wp2_with (first
        | (go_at_call 37
           refine (HT.out _).mono ?_
           rintro e u1 ⟨rfl, rfl⟩)
        | (go_at_call 38
           refine (HW.out _ (cells_3 (by simp))).mono ?_
           rintro e u2 ⟨rfl, rfl⟩))
      go_ret2
      exact ⟨ret_ib (by rw [HV0.out, HV1.out]; rfl) (by rw [HV1.out]; rfl), (by repeat (first | exact Below.refl _ _ | exact Hid.out (by assumption) | refine below_alloc ?_ _ | refine Below.setCell ?_ (by simp <;> omega) _ | refine Below.alloc ?_ (by simp <;> omega) _ | refine Below.drew ?_ | refine below_drewN ?_ _))⟩
    · have hcp : costB p = true := by revert hc; cases costB p <;> simp
      have hco : costB o = true := by revert hc; cases costB p <;> cases costB o <;> simp
      have hcc : costB c = true := by revert hc; cases costB p <;> cases costB o <;> cases costB c <;> simp
      rw [hc] at HW HV1
      have hp := costB_le hcp
      have ho := costB_le hco
      have hk := costB_le hcc
      have ha := textB_le hta
      have hb := textB_le htb
      obtain ⟨ci, hci, hcz, hcs, hcb⟩ := info_parts infoI64
      have HX := Lib.hid (fun x y W => l00Max_any x y W)
      have HBD := Lib.hid (fun i j => locE_bd (x := bx a) (y := bx b) hp ho hk i j)
      have HSS := Lib.hid (fun i j => locE_ss (x := bx a) (y := bx b) (sm := p) (df := o) (gap := c) i j)
      have HZ := Lib.hid (fun i => locE_i0 (x := bx a) (y := bx b) (sm := p) (df := o) (gap := c) i)
      have HTop := Lib.hid (show IsTop (locE (bx a) (bx b) p o c) a.size b.size (topLoc a b p o c) from top_grid _ _ _)
      have H00 := Lib.hid (fun j => locE_0j (x := bx a) (y := bx b) (sm := p) (df := o) (gap := c) j)
      generalize locE (bx a) (bx b) p o c = F at *
      generalize topLoc a b p o c = TT at *
      clear ht hta htb hc hcp hco hcc
      go_enter Try.func25, Try.ntmps25
      go_wp2_with (first
        | (go_at_call 37
           refine (HT.out _).mono ?_
           rintro e u1 ⟨rfl, rfl⟩)
        | (go_at_call 38
           refine (HW.out _ (cells_3 (by simp))).mono ?_
           rintro e u2 ⟨rfl, rfl⟩)
        | (at_make
           refine wpList_make_full _ rfl _ _ 42 rfl w.heap.size 2 ci (.int .i64 0) 1 Try.underlying42 hci hcz hcs .i64 .i64 _ _ (b.size + 1) rfl rfl (by omega) (by omega) (by rw [hcb]; omega) (by unfold maxLen; omega) (by simp) ?_
           intro w0 hown0 hgrow0
           have HO0 := Lib.hid hown0
           have HG0 := Lib.hid hgrow0
           clear hown0 hgrow0))
      have hg0 := HG0.out
      obtain ⟨A0, hA0⟩ : ∃ A0 : Addr, A0 = ⟨(w.alloc (.cells #[.int .i64 p, .int .i64 o, .int .i64 c] 2)).heap.size, 0, none⟩ := ⟨_, rfl⟩
      have HC0 := Lib.hid (show Cells w0 (some A0) (b.size + 1) (fun j => .int .i64 (F 0 j)) by
        rw [hA0]
        intro k hk
        have h := (OwnC.made HO0.out).2.cells k (by omega)
        obtain ⟨x, hx, hcx⟩ := h
        refine ⟨x, hx, hcx.trans ?_⟩
        simp [madeCells, Value.cells, List.getD, hk, Nat.mod_one, H00.out])
      have HB0 := Lib.hid (show Below w.heap.size w w0 from Below.grown (by repeat (first | exact Below.refl _ _ | exact Hid.out (by assumption) | refine below_alloc ?_ _ | refine Below.setCell ?_ (by simp <;> omega) _ | refine Below.alloc ?_ (by simp <;> omega) _ | refine Below.drew ?_ | refine below_drewN ?_ _)) hg0 (by simp) (fun j hj => by cases hj))
      simp only [World.size_alloc] at hA0
      rw [← hA0]
      clear hA0 hg0 HO0 HG0
      have HT0 : Hid (IsTop F 0 b.size 0) := ⟨fun i j hi hj => by rw [show i = 0 by omega, H00.out]; exact Int.le_refl _, 0, 0, Nat.le_refl _, Nat.zero_le _, (H00.out 0).symm⟩
      go_loopw [12, 13, 14] (fun best bf ii wr => ∃ (M : Nat) (A : Addr) (cp : Nat) (B : Int), M + 1 ≤ a.size + 1 ∧ ii = .int .i64 ((M : Int) + 1) ∧ bf = .slice (some A) (b.size + 1) cp ∧ best = .int .i64 B ∧ Hid (Cells wr (some A) (b.size + 1) (fun j => .int .i64 (F M j))) ∧ Hid (IsTop F M b.size B) ∧ Hid (Below w.heap.size w wr)) (fun _ _ ii _ => a.size + 1 - (intOf ii).toNat)
      case atStart => exact ⟨0, A0, b.size + 1, 0, by omega, rfl, rfl, rfl, HC0, HT0, HB0⟩
      case round =>
        obtain ⟨M, A, cp, B, hM, rfl, rfl, rfl, HA, HTp, HB⟩ := hrel
        obtain ⟨wo, rfl⟩ : ∃ wo : World, wo = wr := ⟨_, rfl⟩
        clear HC0 HB0 HT0
        by_cases hlt : M < a.size
        · have d1 : (M : Int) + 1 ≤ a.size := by omega
          have dM : IntKind.i64.wrap (M : Int) = (M : Int) := by rw [IntKind.wrap_i64]; omega
          have HF0 := Lib.hid (HZ.out (M + 1))
          have HNx := Lib.hid (HTp.out.next (by rw [HF0.out]; have := HBD.out M 0; obtain ⟨h1, -⟩ := HTp.out; have := h1 M 0 (Nat.le_refl _) (by omega); omega))
          go_wp2_with fail
          go_loopw [12, 15, 16] (fun best row kk wr => ∃ (K : Nat) (B : Int), K + 1 ≤ b.size + 1 ∧ kk = .int .i64 ((K : Int) + 1) ∧ best = .int .i64 B ∧ Hid (wr.ownsRow wo.heap.size 2 1 row (K + 1) (listV ((K + 1) * 1) (fun j => .int .i64 (F (M + 1) j)))) ∧ Hid (TopSo F (M + 1) b.size (K + 1) B) ∧ Hid (Below wo.heap.size wo wr)) (fun _ _ kk _ => b.size + 1 - (intOf kk).toNat)
          case atStart =>
            refine ⟨0, B, by omega, rfl, rfl, ?_, HNx, (by repeat (first | exact Below.refl _ _ | exact Hid.out (by assumption) | refine below_alloc ?_ _ | refine Below.setCell ?_ (by simp <;> omega) _ | refine Below.alloc ?_ (by simp <;> omega) _ | refine Below.drew ?_ | refine below_drewN ?_ _))⟩
            have := World.ownsRow_lit (base := wo.heap.size) (e := 2) (size := 1) wo #[.int .i64 0] 1 (Nat.le_refl _) (by unfold maxLen; omega) rfl
            have e : listV ((0 + 1) * 1) (fun j => Value.int .i64 (F (M + 1) j)) = [.int .i64 0] := by
              show [Value.int .i64 (F (M + 1) 0)] = _
              rw [HF0.out]
            rw [e]
            exact this
          case round =>
            obtain ⟨K, B1, hK, rfl, rfl, HO, HTs, HB1⟩ := hrel
            by_cases hlt2 : K < b.size
            · have d2 : (K : Int) + 1 ≤ b.size := by omega
              have d3 : (K : Int) < (b.size : Int) + 1 := by omega
              have d4 : (K : Int) + 1 < (b.size : Int) + 1 := by omega
              have d5 : (K : Int) < (K : Int) + 1 := by omega
              have d6 : ((K : Int) + 1).toNat = K + 1 := by omega
              have d7 : (0 : Int) ≤ (K : Int) + 1 := by omega
              have dK : IntKind.i64.wrap (K : Int) = (K : Int) := by rw [IntKind.wrap_i64]; omega
              have k1 : wr.cell? (A.add K) = some (.int .i64 (F M K)) := by
                obtain ⟨x, hx, hcx⟩ := HA.out.below HB1.out K (by omega)
                cases hx
                exact hcx
              have k2 : wr.cell? ⟨A.block, A.off + (K + 1), none⟩ = some (.int .i64 (F M (K + 1))) := by
                obtain ⟨x, hx, hcx⟩ := HA.out.below HB1.out (K + 1) (by omega)
                cases hx
                rw [add_pos (by omega)] at hcx
                exact hcx
              obtain ⟨g15, c15, rfl⟩ : ∃ g15 c15, u15 = .slice (some ⟨g15, 0, none⟩) (K + 1) c15 := by
                rcases HO.out.2 with ⟨_, h0⟩ | ⟨g', cap', cur, e1, e2, e3, e4⟩
                · omega
                · exact ⟨g', cap', e1⟩
              have k3 : wr.cell? ⟨g15, K, none⟩ = some (.int .i64 (F (M + 1) K)) := by
                rw [HO.out.cellAt K (by omega)]
                exact listV_get _ (by omega)
              have HEQ := Lib.hid (HSS.out M K)
              have g1 := HBD.out M K
              have g2 := HBD.out M (K + 1)
              have g3 := HBD.out (M + 1) K
              have HTn := Lib.hid (HTs.out.step (by omega))
              generalize hfk : F (M + 1) (K + 1) = fk at *
              have HFK := Lib.hid hfk
              clear hfk
              generalize F M K = f1 at *
              generalize F M (K + 1) = f2 at *
              generalize F (M + 1) K = f3 at *
              have w2 : IntKind.i64.wrap (f2 - c) = f2 - c := by rw [IntKind.wrap_i64]; omega
              have w3 : IntKind.i64.wrap (f3 - c) = f3 - c := by rw [IntKind.wrap_i64]; omega
              have HM4 := Lib.hid (fun W => HX.out B1 fk W)
              generalize max B1 fk = B2 at *
              by_cases hxy : bx a M = bx b K
              · have hbq : ((a[M].toNat : Int) == (b[K].toNat : Int)) = true := by rw [bx_eq hlt, bx_eq hlt2, hxy]; simp
                rw [show gainP (bx a) (bx b) p o M K = p by unfold gainP; rw [if_pos hxy]] at HEQ
                have w1 : IntKind.i64.wrap (f1 + p) = f1 + p := by rw [IntKind.wrap_i64]; omega
                clear hxy
                have HM1 := Lib.hid (fun W => HX.out (f1 + p) 0 W)
                have HM2 := Lib.hid (fun W => HX.out (f2 - c) (f3 - c) W)
                have he3 : max (max (f1 + p) 0) (max (f2 - c) (f3 - c)) = fk := by have := HEQ.out; omega
                have HM3 := Lib.hid (fun W => HX.out (max (f1 + p) 0) (max (f2 - c) (f3 - c)) W)
                rw [he3] at HM3
                clear he3 HEQ
                generalize max (f1 + p) 0 = t1 at *
                generalize max (f2 - c) (f3 - c) = t2 at *
                go_wp2_with fail
                go_quiet (fail)
                obtain ⟨wd, hwd⟩ : ∃ wd, wd = wr.drewN nq := ⟨_, rfl⟩
                rw [← hwd]
                have k2' : wd.cell? ⟨A.block, A.off + (K + 1), none⟩ = some (.int .i64 f2) := by rw [hwd]; exact k2
                have k3' : wd.cell? ⟨g15, K, none⟩ = some (.int .i64 f3) := by rw [hwd]; exact k3
                have HO' := Lib.hid (show wd.ownsRow wo.heap.size 2 1 _ (K + 1) (listV ((K + 1) * 1) (fun j => .int .i64 (F (M + 1) j))) by rw [hwd]; exact HO.out)
                have HB' := Lib.hid (show Below wo.heap.size wo wd by rw [hwd]; exact below_drewN HB1.out nq)
                clear k1 k2 k3 HO HB1 hwd
                go_wp2_with fail
                have HKeep := Lib.hid (show ∀ W, Below wd.heap.size wd W → (W.cell? ⟨A.block, A.off + (K + 1), none⟩ = some (.int .i64 f2) ∧ W.cell? ⟨g15, K, none⟩ = some (.int .i64 f3)) from fun W hW => ⟨(hW.cell (World.block_lt_of_cell? _ _ k2')).trans k2', (hW.cell (World.block_lt_of_cell? _ _ k3')).trans k3'⟩)
                go_region_held3 (fun W => W.cell? ⟨A.block, A.off + (K + 1), none⟩ = some (.int .i64 f2) ∧ W.cell? ⟨g15, K, none⟩ = some (.int .i64 f3))
                  (exact HKeep.out _ (by repeat (first | exact Below.refl _ _ | exact Hid.out (by assumption) | refine below_alloc ?_ _ | refine Below.setCell ?_ (by simp <;> omega) _ | refine Below.alloc ?_ (by simp <;> omega) _ | refine Below.drew ?_ | refine below_drewN ?_ _)))
                  (first
                    | (go_at_call_of 47 (Value.int .i64 t1)
                       refine (HM3.out _).mono ?_
                       rintro e w' ⟨rfl, rfl⟩)
                    | (go_at_call_of 47 (Value.int .i64 0)
                       refine (HM1.out _).mono ?_
                       rintro e w' ⟨rfl, rfl⟩)
                    | (go_at_call 47
                       refine (HM2.out _).mono ?_
                       rintro e w' ⟨rfl, rfl⟩))
                obtain ⟨we, hwe⟩ : ∃ we, we = wd.drew := ⟨_, rfl⟩
                rw [← hwe]
                have HO := Lib.hid (show we.ownsRow wo.heap.size 2 1 _ (K + 1) (listV ((K + 1) * 1) (fun j => .int .i64 (F (M + 1) j))) by rw [hwe]; exact HO'.out)
                have HB1 := Lib.hid (show Below wo.heap.size wo we by rw [hwe]; exact Below.drew HB'.out)
                clear k2' k3' HO' HB' hwe
                go_wp2_with (first
                  | (go_at_call 47
                     refine (HM4.out _).mono ?_
                     rintro e w' ⟨rfl, rfl⟩)
                  | (at_builtin
                     refine wpList_append_cells _ rfl _ _ 42 rfl wo.heap.size 2 ci (.int .i64 0) 1 8 Try.underlying42 hci hcz hcs hcb rfl (by decide) _ (K + 1) _ rfl (HO.out.alloc _)
                       (some ⟨we.heap.size, 0, none⟩) 1 1 (litOne (.int .i64 fk)) rfl (cells_lit1 rfl) (fun _ _ => rfl) (by unfold maxLen; omega) (by omega) (by have := HB1.out.size; simp; omega) ?_
                     intro v1 w2 hown hgrow hwhere
                     rw [list_lit1 (K + 1) (fun j => .int .i64 (F (M + 1) j)) _ (by rw [HFK.out])] at hown
                     have HO2 := Lib.hid hown
                     have HB2 := Lib.hid (show Below wo.heap.size wo w2 from Below.grown (Below.alloc HB1.out HB1.out.size _) hgrow (by have := HB1.out.size; simp; omega) (fun j hj => (HO.out.lt j hj).1))
                     clear hown hgrow hwhere))
                exact ⟨⟨K + 1, B2, by omega, by simp, rfl, HO2.out, HTn.out, HB2.out⟩, by simp [intOf]; omega⟩
              · have hbq : ((a[M].toNat : Int) == (b[K].toNat : Int)) = false := by rw [bx_eq hlt, bx_eq hlt2]; simp; omega
                rw [show gainP (bx a) (bx b) p o M K = -o by unfold gainP; rw [if_neg hxy]] at HEQ
                have w1 : IntKind.i64.wrap (f1 - o) = f1 - o := by rw [IntKind.wrap_i64]; omega
                clear hxy
                have HM1 := Lib.hid (fun W => HX.out (f1 - o) 0 W)
                have HM2 := Lib.hid (fun W => HX.out (f2 - c) (f3 - c) W)
                have he3 : max (max (f1 - o) 0) (max (f2 - c) (f3 - c)) = fk := by have := HEQ.out; omega
                have HM3 := Lib.hid (fun W => HX.out (max (f1 - o) 0) (max (f2 - c) (f3 - c)) W)
                rw [he3] at HM3
                clear he3 HEQ
                generalize max (f1 - o) 0 = t1 at *
                generalize max (f2 - c) (f3 - c) = t2 at *
                go_wp2_with fail
                go_quiet (fail)
                obtain ⟨wd, hwd⟩ : ∃ wd, wd = wr.drewN nq := ⟨_, rfl⟩
                rw [← hwd]
                have k2' : wd.cell? ⟨A.block, A.off + (K + 1), none⟩ = some (.int .i64 f2) := by rw [hwd]; exact k2
                have k3' : wd.cell? ⟨g15, K, none⟩ = some (.int .i64 f3) := by rw [hwd]; exact k3
                have HO' := Lib.hid (show wd.ownsRow wo.heap.size 2 1 _ (K + 1) (listV ((K + 1) * 1) (fun j => .int .i64 (F (M + 1) j))) by rw [hwd]; exact HO.out)
                have HB' := Lib.hid (show Below wo.heap.size wo wd by rw [hwd]; exact below_drewN HB1.out nq)
                clear k1 k2 k3 HO HB1 hwd
                go_wp2_with fail
                have HKeep := Lib.hid (show ∀ W, Below wd.heap.size wd W → (W.cell? ⟨A.block, A.off + (K + 1), none⟩ = some (.int .i64 f2) ∧ W.cell? ⟨g15, K, none⟩ = some (.int .i64 f3)) from fun W hW => ⟨(hW.cell (World.block_lt_of_cell? _ _ k2')).trans k2', (hW.cell (World.block_lt_of_cell? _ _ k3')).trans k3'⟩)
                go_region_held3 (fun W => W.cell? ⟨A.block, A.off + (K + 1), none⟩ = some (.int .i64 f2) ∧ W.cell? ⟨g15, K, none⟩ = some (.int .i64 f3))
                  (exact HKeep.out _ (by repeat (first | exact Below.refl _ _ | exact Hid.out (by assumption) | refine below_alloc ?_ _ | refine Below.setCell ?_ (by simp <;> omega) _ | refine Below.alloc ?_ (by simp <;> omega) _ | refine Below.drew ?_ | refine below_drewN ?_ _)))
                  (first
                    | (go_at_call_of 47 (Value.int .i64 t1)
                       refine (HM3.out _).mono ?_
                       rintro e w' ⟨rfl, rfl⟩)
                    | (go_at_call_of 47 (Value.int .i64 0)
                       refine (HM1.out _).mono ?_
                       rintro e w' ⟨rfl, rfl⟩)
                    | (go_at_call 47
                       refine (HM2.out _).mono ?_
                       rintro e w' ⟨rfl, rfl⟩))
                obtain ⟨we, hwe⟩ : ∃ we, we = wd.drew := ⟨_, rfl⟩
                rw [← hwe]
                have HO := Lib.hid (show we.ownsRow wo.heap.size 2 1 _ (K + 1) (listV ((K + 1) * 1) (fun j => .int .i64 (F (M + 1) j))) by rw [hwe]; exact HO'.out)
                have HB1 := Lib.hid (show Below wo.heap.size wo we by rw [hwe]; exact Below.drew HB'.out)
                clear k2' k3' HO' HB' hwe
                go_wp2_with (first
                  | (go_at_call 47
                     refine (HM4.out _).mono ?_
                     rintro e w' ⟨rfl, rfl⟩)
                  | (at_builtin
                     refine wpList_append_cells _ rfl _ _ 42 rfl wo.heap.size 2 ci (.int .i64 0) 1 8 Try.underlying42 hci hcz hcs hcb rfl (by decide) _ (K + 1) _ rfl (HO.out.alloc _)
                       (some ⟨we.heap.size, 0, none⟩) 1 1 (litOne (.int .i64 fk)) rfl (cells_lit1 rfl) (fun _ _ => rfl) (by unfold maxLen; omega) (by omega) (by have := HB1.out.size; simp; omega) ?_
                     intro v1 w2 hown hgrow hwhere
                     rw [list_lit1 (K + 1) (fun j => .int .i64 (F (M + 1) j)) _ (by rw [HFK.out])] at hown
                     have HO2 := Lib.hid hown
                     have HB2 := Lib.hid (show Below wo.heap.size wo w2 from Below.grown (Below.alloc HB1.out HB1.out.size _) hgrow (by have := HB1.out.size; simp; omega) (fun j hj => (HO.out.lt j hj).1))
                     clear hown hgrow hwhere))
                exact ⟨⟨K + 1, B2, by omega, by simp, rfl, HO2.out, HTn.out, HB2.out⟩, by simp [intOf]; omega⟩
            · have d2 : ¬ (K : Int) + 1 ≤ b.size := by omega
              obtain rfl : K = b.size := by omega
              obtain ⟨A2, c2, g2, rfl, h1, h2, h3⟩ := own_cells HO.out
              obtain ⟨x2, rfl, -⟩ := h3 0 (by omega)
              have O3 := Lib.hid h3.cells
              clear h1 h2 h3
              go_wp2_with fail
              exact ⟨⟨M + 1, x2, c2, B1, by omega, by simp, rfl, rfl, O3, HTs.out.row, HB.out.trans (HB1.out.mono HB.out.size)⟩, by simp [intOf]; omega⟩
        · have d1 : ¬ (M : Int) + 1 ≤ a.size := by omega
          obtain rfl : M = a.size := by omega
          have HE := Lib.hid (show B = TT from HTp.out.unique HTop.out)
          go_wp2_with fail
          go_ret2
          exact ⟨ret_ib (by rw [HV0.out, HV1.out, ← HE.out]; rfl) (by rw [HV1.out]; rfl), HB.out⟩
end Go.Proofs.Ytcnamfjojdjjgaa
