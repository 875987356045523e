/- CommonText: the reference's law. -/
import Derived.Test.YtcnamfjojdjjgaaComS
set_option linter.unusedVariables false
namespace Go.Proofs.Ytcnamfjojdjjgaa
open Go.RowKit
theorem extract_bx {a : ByteArray} {i : Nat} (h : i < a.size) : a.extract i (i + 1) = textL [bx a i] := by
  have hx : bx a i = (a[i]'h).toNat := by have := bx_eq h; omega
  rw [hx]
  unfold textL
  apply ByteArray.ext
  apply Array.ext
  · simp [ByteArray.size_data, ByteArray.data_extract]
    have : a.data.size = a.size := rfl
    omega
  · intro k h1 h2
    have hk : k = 0 := by simp at h2; omega
    subst hk
    simp [ByteArray.data_extract]
    rfl
theorem textL_app (l m : List Nat) : textL l ++ textL m = textL (l ++ m) := by
  unfold textL
  apply ByteArray.ext
  simp
set_option maxRecDepth 20000 in
set_option maxHeartbeats 8000000 in
theorem specCommonText_law (a b : ByteArray) (w : World) (h0 : a.size ≤ 1048576) (h1 : b.size ≤ 1048576) :
    Calls Try.prog 27 #[.string a, .string b] w fun e w' => e = .returned (.tuple #[.string (vCommonText0 a b), .bool (vCommonText1 a b)]) ∧ Below w.heap.size w w' := by
  have HT := Lib.hid (fun W => l04Two_any a b W)
  have HV0 := Lib.hid (show vCommonText0 a b = if vCommonText1 a b then textL (backC (bx a) (bx b) (a.size + b.size) a.size b.size).reverse else ⟨#[]⟩ from rfl)
  have HV1 := Lib.hid (show vCommonText1 a b = (textB a && textB b) from rfl)
  generalize vCommonText0 a b = v0 at *
  generalize vCommonText1 a b = v1 at *
  cases ht : (textB a && textB b)
  · rw [ht] at HT HV1
    clear ht
    go_enter Try.func27, Try.ntmps27
    go_wp2_with (first
      | (go_at_call 37
         refine (HT.out _).mono ?_
         rintro e u1 ⟨rfl, rfl⟩))
    go_ret2
    exact ⟨ret_sb (by rw [HV0.out, HV1.out]; rfl) (by rw [HV1.out]), (by repeat (first | exact Below.refl _ _ | exact Hid.out (by assumption) | refine below_alloc ?_ _ | refine Below.setCell ?_ (by simp <;> omega) _ | refine Below.alloc ?_ (by simp <;> omega) _ | refine Below.drew ?_ | refine below_drewN ?_ _))⟩
  · have hta : textB a = true := by revert ht; cases textB a <;> simp
    have htb : textB b = true := by revert ht; cases textB b <;> simp
    rw [ht] at HT HV1
    have ha := textB_le hta
    have hb := textB_le htb
    have HTe := Lib.hid (tells_lcs (x := bx a) (y := bx b))
    have HC := Lib.hid (fun W => l04Commons_any a b _ W HTe.out ha hb)
    have HBK := Lib.hid (show ∀ n i j : Nat, backC (bx a) (bx b) (n + 1) (i + 1) (j + 1) = if bx a i = bx b j then bx a i :: backC (bx a) (bx b) n i j else if lcsE (bx a) (bx b) i (j + 1) = lcsE (bx a) (bx b) (i + 1) (j + 1) then backC (bx a) (bx b) n i (j + 1) else backC (bx a) (bx b) n (i + 1) j from fun n i j => by
      rw [backC, if_neg (by omega)]
      rfl)
    obtain ⟨L, hL⟩ : ∃ L, L = backC (bx a) (bx b) (a.size + b.size) a.size b.size := ⟨_, rfl⟩
    rw [← hL] at HV0
    have HL := Lib.hid hL
    generalize lcsE (bx a) (bx b) = F at *
    clear ht hta htb hL
    go_enter Try.func27, Try.ntmps27
    go_wp2_with (first
      | (go_at_call 37
         refine (HT.out _).mono ?_
         rintro e u1 ⟨rfl, rfl⟩)
      | (go_at_call 54
         refine (HC.out _).mono ?_
         rintro e w1 ⟨v, R, cp, rfl, hr, hbb⟩
         obtain ⟨gb, cap, rfl, hcl⟩ := hr.at (by omega)
         have HR1 := Lib.hid hr
         have HCl := Lib.hid hcl
         have HB1 := Lib.hid hbb
         clear hr hbb hcl))
    go_loopw [7, 8, 9] (fun st ii kk wr => ∃ (i j n : Nat) (pre : List Nat), i ≤ a.size ∧ j ≤ b.size ∧ i + j ≤ n ∧ pre.length + n ≤ 96 ∧ ii = .int .i64 i ∧ kk = .int .i64 j ∧ st = .string (textL pre.reverse) ∧ Hid (pre ++ backC (bx a) (bx b) n i j = L) ∧ Hid (Below w1.heap.size w1 wr)) (fun _ ii kk _ => (intOf ii).toNat + (intOf kk).toNat)
    case atStart => exact ⟨a.size, b.size, a.size + b.size, [], Nat.le_refl _, Nat.le_refl _, Nat.le_refl _, by simp; omega, rfl, rfl, rfl, by show _ = _; rw [HL.out]; rfl, Below.refl _ _⟩
    case round =>
      obtain ⟨i, j, n, pre, hi, hj, hn, hpl, rfl, rfl, rfl, HP, HB⟩ := hrel
      have HRw := Lib.hid (HR1.out.below HB.out)
      have HCw := Lib.hid (show ∀ i, i < a.size + 1 → wr.cell? ⟨gb, i, none⟩ = some (.slice (R i) (b.size + 1) (cp i)) from fun i hi => by have := HCl.out i hi; exact (HB.out.cell (World.block_lt_of_cell? _ _ this)).trans this)
      rcases Nat.eq_zero_or_pos i with hi0 | hi0
      · have HE := Lib.hid (show pre = L by
          have := HP.out
          rw [back_of_0 (.inl hi0)] at this
          simpa using this)
        subst hi0
        go_wp2_with fail
        go_ret2
        exact ⟨ret_sb (by rw [HV0.out, HV1.out, ← HE.out]; rfl) (by rw [HV1.out]), HB1.out.trans (HB.out.mono HB1.out.size)⟩
      · have i1 : decide (0 < i) = true := decide_eq_true hi0
        have i2 : decide ((0 : Int) < (i : Int)) = true := decide_eq_true (by omega)
        rcases Nat.eq_zero_or_pos j with hj0 | hj0
        · have HE := Lib.hid (show pre = L by
            have := HP.out
            rw [back_of_0 (.inr hj0)] at this
            simpa using this)
          subst hj0
          go_wp2_with fail
          go_ret2
          exact ⟨ret_sb (by rw [HV0.out, HV1.out, ← HE.out]; rfl) (by rw [HV1.out]), HB1.out.trans (HB.out.mono HB1.out.size)⟩
        · have j1 : decide (0 < j) = true := decide_eq_true hj0
          have j2 : decide ((0 : Int) < (j : Int)) = true := decide_eq_true (by omega)
          obtain ⟨I, hI⟩ : ∃ I, i = I + 1 := ⟨i - 1, by omega⟩
          obtain ⟨J, hJ⟩ : ∃ J, j = J + 1 := ⟨j - 1, by omega⟩
          obtain ⟨N, hN⟩ : ∃ N, n = N + 1 := ⟨n - 1, by omega⟩
          have w1' : IntKind.i64.wrap ((i : Int) - 1) = (I : Int) := by rw [IntKind.wrap_i64]; omega
          have w2' : IntKind.i64.wrap ((j : Int) - 1) = (J : Int) := by rw [IntKind.wrap_i64]; omega
          have d1 : (I : Int) < (a.size : Int) + 1 := by omega
          have d2 : (i : Int) < (a.size : Int) + 1 := by omega
          have d3 : (j : Int) < (b.size : Int) + 1 := by omega
          have d4 : I < a.size := by omega
          have d5 : J < b.size := by omega
          have r1 := HCw.out I (by omega)
          have r2 := HCw.out i (by omega)
          obtain ⟨y1, hy1, k1'⟩ := HRw.out.rows I (by omega) j (by omega)
          obtain ⟨y2, hy2, k2'⟩ := HRw.out.rows i (by omega) j (by omega)
          have k1 : wr.cell? (y1.add j) = some (.int .i64 (F I j)) := k1'
          have k2 : wr.cell? (y2.add j) = some (.int .i64 (F i j)) := k2'
          rw [hy1] at r1
          rw [hy2] at r2
          have HS := HBK.out N I J
          rw [← hI, ← hJ] at HS
          have HJ := Lib.hid (show i = I + 1 ∧ j = J + 1 from ⟨hI, hJ⟩)
          have HN := Lib.hid hN
          have HP2 := HP.out
          rw [hN] at HP2
          by_cases hxy : bx a I = bx b J
          · have hbq : ((a[I].toNat : Int) == (b[J].toNat : Int)) = true := by rw [bx_eq d4, bx_eq d5, hxy]; simp
            rw [if_pos hxy] at HS
            have HP3 := Lib.hid (show (pre ++ [bx a I]) ++ backC (bx a) (bx b) N I J = L by rw [← HP2, HS]; simp)
            have hex : a.extract I i = textL [bx a I] := by rw [hI]; exact extract_bx d4
            have hadd := fun W => run_string_add_sum (P := Try.prog) W (a.extract I i) (textL pre.reverse) (by rw [hex, textL_size, textL_size, List.length_reverse]; simp; omega)
            have htx : a.extract I i ++ textL pre.reverse = textL (pre ++ [bx a I]).reverse := by rw [hex, textL_app, List.reverse_append]; rfl
            rw [htx] at hadd
            have q1 : (I : Int) ≤ (i : Int) := by omega
            have q2 : (i : Int) ≤ (a.size : Int) := by omega
            generalize textL pre.reverse = tx at *
            generalize hty : textL (pre ++ [bx a I]).reverse = ty at *
            have HTY := Lib.hid hty
            clear hty htx hex hxy HS HP2 HP HRw HCw hy1 hy2 hI hJ hN k1' k2' r1 r2 k1 k2 hi0 hj0
            go_wp2_with fail
            go_quiet (fail)
            go_wp2_with fail
            exact ⟨⟨I, J, N, pre ++ [bx a I], by omega, by omega, by have := HJ.out; have := HN.out; omega, by have := HJ.out; have := HN.out; simp; omega, by simp, by simp, by rw [HTY.out], HP3.out, below_drewN HB.out nq⟩, by have := HJ.out; simp [intOf]; omega⟩
          · have hbq : ((a[I].toNat : Int) == (b[J].toNat : Int)) = false := by rw [bx_eq d4, bx_eq d5]; simp; omega
            rw [if_neg hxy] at HS
            by_cases h2 : F I j = F i j
            · rw [if_pos h2] at HS
              have HP3 := Lib.hid (show pre ++ backC (bx a) (bx b) N I j = L by rw [← HP2, HS])
              have hc : (F I j == F i j) = true := by simp [h2]
              clear hxy HS HP2 HP HRw HCw hy1 hy2 hI hJ hN k1' k2' hi0 hj0 h2
              generalize F I j = f1 at *
              generalize F i j = f2 at *
              go_wp2_with fail
              go_quiet (fail)
              obtain ⟨wd, hwd⟩ : ∃ wz : World, wz = wr.drewN nq := ⟨_, rfl⟩
              rw [← hwd]
              have HB' := Lib.hid (show Below w1.heap.size w1 wd by rw [hwd]; exact below_drewN HB.out nq)
              have r1' : wd.cell? ⟨gb, I, none⟩ = some (.slice (some y1) (b.size + 1) (cp I)) := by rw [hwd]; exact r1
              have r2' : wd.cell? ⟨gb, i, none⟩ = some (.slice (some y2) (b.size + 1) (cp i)) := by rw [hwd]; exact r2
              have k1' : wd.cell? (y1.add j) = some (.int .i64 f1) := by rw [hwd]; exact k1
              have k2' : wd.cell? (y2.add j) = some (.int .i64 f2) := by rw [hwd]; exact k2
              clear HB r1 r2 k1 k2 hwd
              have HB := HB'
              have r1 := r1'
              have r2 := r2'
              have k1 := k1'
              have k2 := k2'
              clear HB' r1' r2' k1' k2'
              go_wp2_with fail
              go_quiet (fail)
              go_wp2_with fail
              exact ⟨⟨I, j, N, pre, by omega, by omega, by have := HJ.out; have := HN.out; omega, by have := HJ.out; have := HN.out; omega, by simp, by simp, rfl, HP3.out, below_drewN HB.out nq⟩, by have := HJ.out; simp [intOf]; omega⟩
            · rw [if_neg h2] at HS
              have HP3 := Lib.hid (show pre ++ backC (bx a) (bx b) N i J = L by rw [← HP2, HS])
              have hc : (F I j == F i j) = false := by simp [h2]
              clear hxy HS HP2 HP HRw HCw hy1 hy2 hI hJ hN k1' k2' hi0 hj0 h2
              generalize F I j = f1 at *
              generalize F i j = f2 at *
              go_wp2_with fail
              go_quiet (fail)
              obtain ⟨wd, hwd⟩ : ∃ wz : World, wz = wr.drewN nq := ⟨_, rfl⟩
              rw [← hwd]
              have HB' := Lib.hid (show Below w1.heap.size w1 wd by rw [hwd]; exact below_drewN HB.out nq)
              have r1' : wd.cell? ⟨gb, I, none⟩ = some (.slice (some y1) (b.size + 1) (cp I)) := by rw [hwd]; exact r1
              have r2' : wd.cell? ⟨gb, i, none⟩ = some (.slice (some y2) (b.size + 1) (cp i)) := by rw [hwd]; exact r2
              have k1' : wd.cell? (y1.add j) = some (.int .i64 f1) := by rw [hwd]; exact k1
              have k2' : wd.cell? (y2.add j) = some (.int .i64 f2) := by rw [hwd]; exact k2
              clear HB r1 r2 k1 k2 hwd
              have HB := HB'
              have r1 := r1'
              have r2 := r2'
              have k1 := k1'
              have k2 := k2'
              clear HB' r1' r2' k1' k2'
              go_wp2_with fail
              go_quiet (fail)
              go_wp2_with fail
              exact ⟨⟨i, J, N, pre, by omega, by omega, by have := HJ.out; have := HN.out; omega, by have := HJ.out; have := HN.out; omega, by simp, by simp, rfl, HP3.out, below_drewN HB.out nq⟩, by have := HJ.out; simp [intOf]; omega⟩
end Go.Proofs.Ytcnamfjojdjjgaa
