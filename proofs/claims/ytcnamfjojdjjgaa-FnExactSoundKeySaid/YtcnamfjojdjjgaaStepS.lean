/- EditSteps: the reference's answer. -/
import Derived.Test.YtcnamfjojdjjgaaStepM
set_option linter.unusedVariables false
namespace Go.Proofs.Ytcnamfjojdjjgaa
open Go.RowKit
theorem textL_cons (c : Nat) (l : List Nat) : textL (c :: l) = ⟨#[UInt8.ofNat c]⟩ ++ textL l := by
  unfold textL
  apply ByteArray.ext
  simp
theorem ret_sb {a b : ByteArray} {x y : Bool} (h : a = b) (k : x = y) : Ending.returned (.tuple #[.string a, .bool x]) = .returned (.tuple #[.string b, .bool y]) := by rw [h, k]
theorem textL_size (l : List Nat) : (textL l).size = l.length := by
  unfold textL
  simp [ByteArray.size]
set_option maxRecDepth 20000 in
set_option maxHeartbeats 8000000 in
theorem specEditSteps_law (a b : ByteArray) (w : World) (h0 : a.size ≤ 1048576) (h1 : b.size ≤ 1048576) :
    Calls Try.prog 17 #[.string a, .string b] w fun e w' => e = .returned (.tuple #[.string (vEditSteps0 a b), .bool (vEditSteps1 a b)]) ∧ Below w.heap.size w w' := by
  have HT := Lib.hid (fun W => l04Two_any a b W)
  have HV0 := Lib.hid (show vEditSteps0 a b = if vEditSteps1 a b then textL (stepsL a b).reverse else ⟨#[]⟩ from rfl)
  have HV1 := Lib.hid (show vEditSteps1 a b = (textB a && textB b) from rfl)
  generalize vEditSteps0 a b = v0 at *
  generalize vEditSteps1 a b = v1 at *
  cases ht : (textB a && textB b)
  · rw [ht] at HT HV1
    clear ht
    go_enter Try.func17, Try.ntmps17
    go_wp2_with (first
      | (go_at_call 37
         refine (HT.out _).mono ?_
         rintro e u1 ⟨rfl, rfl⟩))
    go_ret2
    exact ⟨ret_sb (by rw [HV0.out, HV1.out]; rfl) (by rw [HV1.out]), (by repeat (first | exact Below.refl _ _ | exact Hid.out (by assumption) | refine below_alloc ?_ _ | refine Below.setCell ?_ (by simp <;> omega) _ | refine Below.alloc ?_ (by simp <;> omega) _ | refine Below.drew ?_ | refine below_drewN ?_ _))⟩
  · have hta : textB a = true := by revert ht; cases textB a <;> simp
    have htb : textB b = true := by revert ht; cases textB b <;> simp
    rw [ht] at HT HV1
    have ha := textB_le hta
    have hb := textB_le htb
    have HTe := Lib.hid (tells_costE (x := bx a) (y := bx b) (p := 1) (o := 1) (c := 1) (by omega) (by omega) (by omega))
    have HC := Lib.hid (fun W => l04Edits_any a b 1 1 1 _ W HTe.out ha hb (by omega) (by omega) (by omega))
    have HSS := Lib.hid (fun i j h1 h2 => stepE_ss (x := bx a) (y := bx b) i j h1 h2)
    have HL := Lib.hid (show stepsL a b = backE (stepE (bx a) (bx b)) (a.size + b.size) a.size b.size from rfl)
    generalize costE (bx a) (bx b) 1 1 1 1000000 = F at *
    generalize stepsL a b = L at *
    clear ht hta htb
    go_enter Try.func17, Try.ntmps17
    go_wp2_with (first
      | (go_at_call 37
         refine (HT.out _).mono ?_
         rintro e u1 ⟨rfl, rfl⟩)
      | (go_at_call 39
         refine (HC.out _).mono ?_
         rintro e w1 ⟨v, R, cp, rfl, hr, hbb⟩
         obtain ⟨gb, cap, rfl, hcl⟩ := hr.at (by omega)
         have HR1 := Lib.hid hr
         have HCl := Lib.hid hcl
         have HB1 := Lib.hid hbb
         clear hr hbb hcl))
    go_loopw [7, 8, 9] (fun st ii kk wr => ∃ (i j n : Nat) (pre : List Nat), i ≤ a.size ∧ j ≤ b.size ∧ i + j ≤ n ∧ pre.length + n ≤ 96 ∧ ii = .int .i64 i ∧ kk = .int .i64 j ∧ st = .string (textL pre.reverse) ∧ Hid (pre ++ backE (stepE (bx a) (bx b)) n i j = L) ∧ Hid (Below w1.heap.size w1 wr)) (fun _ ii kk _ => (intOf ii).toNat + (intOf kk).toNat)
    case atStart => exact ⟨a.size, b.size, a.size + b.size, [], Nat.le_refl _, Nat.le_refl _, Nat.le_refl _, by simp; omega, rfl, rfl, rfl, by show _ = _; rw [HL.out]; rfl, Below.refl _ _⟩
    case round =>
      obtain ⟨i, j, n, pre, hi, hj, hn, hpl, rfl, rfl, rfl, HP, HB⟩ := hrel
      have HRw := Lib.hid (HR1.out.below HB.out)
      have HCw := Lib.hid (show ∀ i, i < a.size + 1 → wr.cell? ⟨gb, i, none⟩ = some (.slice (R i) (b.size + 1) (cp i)) from fun i hi => by have := HCl.out i hi; exact (HB.out.cell (World.block_lt_of_cell? _ _ this)).trans this)
      rcases Nat.eq_zero_or_pos i with hi0 | hi0
      · rcases Nat.eq_zero_or_pos j with hj0 | hj0
        · have e1 : ¬ (0 : Int) < (i : Int) := by omega
          have e2 : ¬ (0 : Int) < (j : Int) := by omega
          have HE := Lib.hid (show pre = L by
            have := HP.out
            rw [hi0, hj0] at this
            cases n with
            | zero => simpa [backE] using this
            | succ n => simpa [backE, stepE_00] using this)
          subst hi0 hj0
          go_wp2_with fail
          go_ret2
          exact ⟨ret_sb (by rw [HV0.out, HV1.out, ← HE.out]; rfl) (by rw [HV1.out]), HB1.out.trans (HB.out.mono HB1.out.size)⟩
        · obtain ⟨J, hJ⟩ : ∃ J, j = J + 1 := ⟨j - 1, by omega⟩
          obtain ⟨N, hN⟩ : ∃ N, n = N + 1 := ⟨n - 1, by omega⟩
          have w2 : IntKind.i64.wrap ((j : Int) - 1) = (J : Int) := by rw [IntKind.wrap_i64]; omega
          have HP2 := Lib.hid (show (pre ++ [43]) ++ backE (stepE (bx a) (bx b)) N i J = L by
            rw [← HP.out, hN, hi0, hJ]
            simp [backE, stepE_0j])
          have hadd := fun W => run_string_add_sum (P := Try.prog) W (⟨#[43]⟩ : ByteArray) (textL pre.reverse) (by rw [textL_size, List.length_reverse]; show 1 + _ ≤ _; omega)
          have htx : (⟨#[43]⟩ : ByteArray) ++ textL pre.reverse = textL (pre ++ [43]).reverse := by rw [List.reverse_append, List.reverse_cons, List.reverse_nil, List.nil_append, List.cons_append, List.nil_append, textL_cons]; rfl
          rw [htx] at hadd
          generalize textL pre.reverse = tx at *
          generalize hty : textL (pre ++ [43]).reverse = ty at *
          have HJ := Lib.hid hJ
          have HN := Lib.hid hN
          subst hi0
          clear hJ hN HP HRw HCw
          go_wp2_with fail
          go_quiet (fail)
          go_wp2_with fail
          refine ⟨⟨0, J, N, pre ++ [43], ?_, ?_, ?_, ?_, by simp, by simp, by rw [← hty], HP2.out, (below_drewN HB.out nq)⟩, ?_⟩
          · have := HJ.out; have := HN.out; omega
          · have := HJ.out; have := HN.out; omega
          · have := HJ.out; have := HN.out; omega
          · have := HJ.out; have := HN.out; simp; omega
          · have := HJ.out; have := HN.out; simp [intOf]; omega
      · obtain ⟨I, hI⟩ : ∃ I, i = I + 1 := ⟨i - 1, by omega⟩
        obtain ⟨N, hN⟩ : ∃ N, n = N + 1 := ⟨n - 1, by omega⟩
        have w1' : IntKind.i64.wrap ((i : Int) - 1) = (I : Int) := by rw [IntKind.wrap_i64]; omega
        have d1 : (I : Int) < (a.size : Int) + 1 := by omega
        have d2 : (i : Int) < (a.size : Int) + 1 := by omega
        have d3 : (j : Int) < (b.size : Int) + 1 := by omega
        have d4 : I < a.size := by omega
        have r1 := HCw.out I (by omega)
        have r2 := HCw.out i (by omega)
        obtain ⟨y1, hy1, k1'⟩ := HRw.out.rows I (by omega) j (by omega)
        obtain ⟨y2, hy2, k2'⟩ := HRw.out.rows i (by omega) j (by omega)
        have k1 : wr.cell? (y1.add j) = some (.int .i64 (F I j)) := k1'
        have k2 : wr.cell? (y2.add j) = some (.int .i64 (F i j)) := k2'
        rw [hy1] at r1
        rw [hy2] at r2
        have g1 := HTe.out.bd I j (by omega) (by omega)
        have g2 := HTe.out.bd i j (by omega) (by omega)
        have w3 : IntKind.i64.wrap (F I j + 1) = F I j + 1 := by rw [IntKind.wrap_i64]; omega
        clear k1' k2'
        rcases Nat.eq_zero_or_pos j with hj0 | hj0
        · have HP2 := Lib.hid (show (pre ++ [45]) ++ backE (stepE (bx a) (bx b)) N I j = L by
            rw [← HP.out, hN, hI, hj0]
            simp [backE, stepE_i0])
          have hbq : (F I j + 1 == F i j) = true := by
            have q1 := HTe.out.c0 I (by omega)
            have q2 := HTe.out.c0 i (by omega)
            rw [hj0, q1, q2]
            simp
            omega
          have hadd := fun W => run_string_add_sum (P := Try.prog) W (⟨#[45]⟩ : ByteArray) (textL pre.reverse) (by rw [textL_size, List.length_reverse]; show 1 + _ ≤ _; omega)
          have htx : (⟨#[45]⟩ : ByteArray) ++ textL pre.reverse = textL (pre ++ [45]).reverse := by rw [List.reverse_append, List.reverse_cons, List.reverse_nil, List.nil_append, List.cons_append, List.nil_append, textL_cons]; rfl
          rw [htx] at hadd
          generalize textL pre.reverse = tx at *
          generalize hty : textL (pre ++ [45]).reverse = ty at *
          have HJ := Lib.hid (show i = I + 1 ∧ j = 0 from ⟨hI, hj0⟩)
          have HN := Lib.hid hN
          have i1 : decide (0 < i) = true := decide_eq_true hi0
          have i2 : decide ((0 : Int) < (i : Int)) = true := decide_eq_true (by omega)
          have j1 : decide (0 < j) = false := decide_eq_false (by omega)
          have j2 : decide ((0 : Int) < (j : Int)) = false := decide_eq_false (by omega)
          clear hI hN HP HRw HCw hy1 hy2 hj0
          generalize F I j = f1 at *
          generalize F i j = f2 at *
          go_wp2_with fail
          go_quiet (fail)
          go_wp2_with fail
          refine ⟨⟨I, j, N, pre ++ [45], ?_, ?_, ?_, ?_, by simp, by simp, by rw [← hty], HP2.out, (below_drewN HB.out nq)⟩, ?_⟩
          · have := HJ.out; have := HN.out; omega
          · have := HJ.out; have := HN.out; omega
          · have := HJ.out; have := HN.out; omega
          · have := HJ.out; have := HN.out; simp; omega
          · have := HJ.out; have := HN.out; simp [intOf]; omega
        · obtain ⟨J, hJ⟩ : ∃ J, j = J + 1 := ⟨j - 1, by omega⟩
          have d5 : J < b.size := by omega
          have d6 : (J : Int) < (b.size : Int) + 1 := by omega
          have w2' : IntKind.i64.wrap ((j : Int) - 1) = (J : Int) := by rw [IntKind.wrap_i64]; omega
          obtain ⟨y3, hy3, k3'⟩ := HRw.out.rows I (by omega) J (by omega)
          rw [hy1] at hy3
          cases hy3
          have k3 : wr.cell? (y1.add J) = some (.int .i64 (F I J)) := k3'
          have g3 := HTe.out.bd I J (by omega) (by omega)
          have HS := HSS.out I J (by omega) (by omega)
          rw [← hI, ← hJ] at HS
          have HPB : ∀ C I' J', backE (stepE (bx a) (bx b)) (N + 1) i j = C :: backE (stepE (bx a) (bx b)) N I' J' → (pre ++ [C]) ++ backE (stepE (bx a) (bx b)) N I' J' = L := fun C I' J' h => by
            rw [← HP.out, hN, h]
            simp
          have HJ := Lib.hid (show i = I + 1 ∧ j = J + 1 from ⟨hI, hJ⟩)
          have HN := Lib.hid hN
          have i1 : decide (0 < i) = true := decide_eq_true hi0
          have i2 : decide ((0 : Int) < (i : Int)) = true := decide_eq_true (by omega)
          have j1 : decide (0 < j) = true := decide_eq_true hj0
          have j2 : decide ((0 : Int) < (j : Int)) = true := decide_eq_true (by omega)
          have HB3 : ∀ C, stepE (bx a) (bx b) i j = C → (C = 61 ∨ C = 33) → backE (stepE (bx a) (bx b)) (N + 1) i j = C :: backE (stepE (bx a) (bx b)) N I J := fun C h hC => by
            have e1 : i - 1 = I := by omega
            have e2 : j - 1 = J := by omega
            rw [backE, h, if_pos hC, e1, e2]
          have HB4 : stepE (bx a) (bx b) i j = 45 → backE (stepE (bx a) (bx b)) (N + 1) i j = 45 :: backE (stepE (bx a) (bx b)) N I j := fun h => by
            have e1 : i - 1 = I := by omega
            rw [backE, h, if_neg (by omega), if_pos rfl, e1]
          have HB5 : stepE (bx a) (bx b) i j = 43 → backE (stepE (bx a) (bx b)) (N + 1) i j = 43 :: backE (stepE (bx a) (bx b)) N i J := fun h => by
            have e2 : j - 1 = J := by omega
            rw [backE, h, if_neg (by omega), if_neg (by omega), if_pos rfl, e2]
          have H45 := Lib.hid (fun h => HPB _ _ _ (HB4 h))
          have H43 := Lib.hid (fun h => HPB _ _ _ (HB5 h))
          have HCC := Lib.hid (fun C h hC => HPB _ _ _ (HB3 C h hC))
          have hS2 := Lib.hid HS
          clear k3' hI hN hJ HP HRw HCw hy1 hy2 HS HPB HB3 HB4 HB5
          generalize F I J = f1 at *
          generalize F I j = f2 at *
          generalize F i j = f3 at *
          have w4 : IntKind.i64.wrap (f1 + 1) = f1 + 1 := by rw [IntKind.wrap_i64]; omega
          by_cases hxy : bx a I = bx b J
          · have hbq : ((a[I].toNat : Int) != (b[J].toNat : Int)) = false := by rw [bx_eq d4, bx_eq d5, hxy]; simp
            have hS3 := hS2.out
            simp only [hxy, if_true, Int.add_zero] at hS3
            by_cases h1 : f1 = f3
            · have hc1 : (f1 == f3) = true := by simp [h1]
              rw [if_pos h1] at hS3
              have HP2 := Lib.hid (HCC.out 61 hS3 (by omega))
              have hadd := fun W => run_string_add_sum (P := Try.prog) W (⟨#[61]⟩ : ByteArray) (textL pre.reverse) (by rw [textL_size, List.length_reverse]; show 1 + _ ≤ _; omega)
              have htx : (⟨#[61]⟩ : ByteArray) ++ textL pre.reverse = textL (pre ++ [61]).reverse := by rw [List.reverse_append, List.reverse_cons, List.reverse_nil, List.nil_append, List.cons_append, List.nil_append, textL_cons]; rfl
              rw [htx] at hadd
              generalize textL pre.reverse = tx at *
              generalize hty : textL (pre ++ [61]).reverse = ty at *
              clear h1 hS3 hS2 hxy H45 H43 HCC
              go_wp2_with fail
              go_quiet (fail)
              obtain ⟨wd, hwd⟩ : ∃ wz : World, wz = wr.drewN nq := ⟨_, rfl⟩
              rw [← hwd]
              have HB' := Lib.hid (show Below w1.heap.size w1 wd by rw [hwd]; exact below_drewN HB.out nq)
              have r1' : wd.cell? ⟨gb, I, none⟩ = some (.slice (some y1) (b.size + 1) (cp I)) := by rw [hwd]; exact r1
              have r2' : wd.cell? ⟨gb, i, none⟩ = some (.slice (some y2) (b.size + 1) (cp i)) := by rw [hwd]; exact r2
              have k1' : wd.cell? (y1.add j) = some (.int .i64 f2) := by rw [hwd]; exact k1
              have k2' : wd.cell? (y2.add j) = some (.int .i64 f3) := by rw [hwd]; exact k2
              have k3' : wd.cell? (y1.add J) = some (.int .i64 f1) := by rw [hwd]; exact k3
              clear HB r1 r2 k1 k2 k3 hwd
              have HB := HB'
              have r1 := r1'
              have r2 := r2'
              have k1 := k1'
              have k2 := k2'
              have k3 := k3'
              clear HB' r1' r2' k1' k2' k3'
              go_wp2_with fail
              go_quiet (fail)
              obtain ⟨we, hwd⟩ : ∃ wz : World, wz = wd.drewN nq := ⟨_, rfl⟩
              rw [← hwd]
              have HB' := Lib.hid (show Below w1.heap.size w1 we by rw [hwd]; exact below_drewN HB.out nq)
              have r1' : we.cell? ⟨gb, I, none⟩ = some (.slice (some y1) (b.size + 1) (cp I)) := by rw [hwd]; exact r1
              have r2' : we.cell? ⟨gb, i, none⟩ = some (.slice (some y2) (b.size + 1) (cp i)) := by rw [hwd]; exact r2
              have k1' : we.cell? (y1.add j) = some (.int .i64 f2) := by rw [hwd]; exact k1
              have k2' : we.cell? (y2.add j) = some (.int .i64 f3) := by rw [hwd]; exact k2
              have k3' : we.cell? (y1.add J) = some (.int .i64 f1) := by rw [hwd]; exact k3
              clear HB r1 r2 k1 k2 k3 hwd
              have HB := HB'
              have r1 := r1'
              have r2 := r2'
              have k1 := k1'
              have k2 := k2'
              have k3 := k3'
              clear HB' r1' r2' k1' k2' k3'
              go_wp2_with fail
              refine ⟨⟨I, J, N, pre ++ [61], ?_, ?_, ?_, ?_, by simp, by simp, by rw [← hty], HP2.out, HB⟩, ?_⟩
              · have := HJ.out; have := HN.out; omega
              · have := HJ.out; have := HN.out; omega
              · have := HJ.out; have := HN.out; omega
              · have := HJ.out; have := HN.out; simp; omega
              · have := HJ.out; have := HN.out; simp [intOf]; omega
            · have hc1 : (f1 == f3) = false := by simp [h1]
              rw [if_neg h1] at hS3
              by_cases h2 : f2 + 1 = f3
              · have hc2 : (f2 + 1 == f3) = true := by simp [h2]
                rw [if_pos h2] at hS3
                have HP2 := Lib.hid (H45.out hS3)
                have hadd := fun W => run_string_add_sum (P := Try.prog) W (⟨#[45]⟩ : ByteArray) (textL pre.reverse) (by rw [textL_size, List.length_reverse]; show 1 + _ ≤ _; omega)
                have htx : (⟨#[45]⟩ : ByteArray) ++ textL pre.reverse = textL (pre ++ [45]).reverse := by rw [List.reverse_append, List.reverse_cons, List.reverse_nil, List.nil_append, List.cons_append, List.nil_append, textL_cons]; rfl
                rw [htx] at hadd
                generalize textL pre.reverse = tx at *
                generalize hty : textL (pre ++ [45]).reverse = ty at *
                clear h1 h2 hS3 hS2 hxy H45 H43 HCC
                go_wp2_with fail
                go_quiet (fail)
                obtain ⟨wd, hwd⟩ : ∃ wz : World, wz = wr.drewN nq := ⟨_, rfl⟩
                rw [← hwd]
                have HB' := Lib.hid (show Below w1.heap.size w1 wd by rw [hwd]; exact below_drewN HB.out nq)
                have r1' : wd.cell? ⟨gb, I, none⟩ = some (.slice (some y1) (b.size + 1) (cp I)) := by rw [hwd]; exact r1
                have r2' : wd.cell? ⟨gb, i, none⟩ = some (.slice (some y2) (b.size + 1) (cp i)) := by rw [hwd]; exact r2
                have k1' : wd.cell? (y1.add j) = some (.int .i64 f2) := by rw [hwd]; exact k1
                have k2' : wd.cell? (y2.add j) = some (.int .i64 f3) := by rw [hwd]; exact k2
                have k3' : wd.cell? (y1.add J) = some (.int .i64 f1) := by rw [hwd]; exact k3
                clear HB r1 r2 k1 k2 k3 hwd
                have HB := HB'
                have r1 := r1'
                have r2 := r2'
                have k1 := k1'
                have k2 := k2'
                have k3 := k3'
                clear HB' r1' r2' k1' k2' k3'
                go_wp2_with fail
                go_quiet (fail)
                obtain ⟨we, hwd⟩ : ∃ wz : World, wz = wd.drewN nq := ⟨_, rfl⟩
                rw [← hwd]
                have HB' := Lib.hid (show Below w1.heap.size w1 we by rw [hwd]; exact below_drewN HB.out nq)
                have r1' : we.cell? ⟨gb, I, none⟩ = some (.slice (some y1) (b.size + 1) (cp I)) := by rw [hwd]; exact r1
                have r2' : we.cell? ⟨gb, i, none⟩ = some (.slice (some y2) (b.size + 1) (cp i)) := by rw [hwd]; exact r2
                have k1' : we.cell? (y1.add j) = some (.int .i64 f2) := by rw [hwd]; exact k1
                have k2' : we.cell? (y2.add j) = some (.int .i64 f3) := by rw [hwd]; exact k2
                have k3' : we.cell? (y1.add J) = some (.int .i64 f1) := by rw [hwd]; exact k3
                clear HB r1 r2 k1 k2 k3 hwd
                have HB := HB'
                have r1 := r1'
                have r2 := r2'
                have k1 := k1'
                have k2 := k2'
                have k3 := k3'
                clear HB' r1' r2' k1' k2' k3'
                go_wp2_with fail
                go_quiet (fail)
                obtain ⟨wf, hwd⟩ : ∃ wz : World, wz = we.drewN nq := ⟨_, rfl⟩
                rw [← hwd]
                have HB' := Lib.hid (show Below w1.heap.size w1 wf by rw [hwd]; exact below_drewN HB.out nq)
                have r1' : wf.cell? ⟨gb, I, none⟩ = some (.slice (some y1) (b.size + 1) (cp I)) := by rw [hwd]; exact r1
                have r2' : wf.cell? ⟨gb, i, none⟩ = some (.slice (some y2) (b.size + 1) (cp i)) := by rw [hwd]; exact r2
                have k1' : wf.cell? (y1.add j) = some (.int .i64 f2) := by rw [hwd]; exact k1
                have k2' : wf.cell? (y2.add j) = some (.int .i64 f3) := by rw [hwd]; exact k2
                have k3' : wf.cell? (y1.add J) = some (.int .i64 f1) := by rw [hwd]; exact k3
                clear HB r1 r2 k1 k2 k3 hwd
                have HB := HB'
                have r1 := r1'
                have r2 := r2'
                have k1 := k1'
                have k2 := k2'
                have k3 := k3'
                clear HB' r1' r2' k1' k2' k3'
                go_wp2_with fail
                refine ⟨⟨I, j, N, pre ++ [45], ?_, ?_, ?_, ?_, by simp, by simp, by rw [← hty], HP2.out, HB⟩, ?_⟩
                · have := HJ.out; have := HN.out; omega
                · have := HJ.out; have := HN.out; omega
                · have := HJ.out; have := HN.out; omega
                · have := HJ.out; have := HN.out; simp; omega
                · have := HJ.out; have := HN.out; simp [intOf]; omega
              · have hc2 : (f2 + 1 == f3) = false := by simp [h2]
                rw [if_neg h2] at hS3
                have HP2 := Lib.hid (H43.out hS3)
                have hadd := fun W => run_string_add_sum (P := Try.prog) W (⟨#[43]⟩ : ByteArray) (textL pre.reverse) (by rw [textL_size, List.length_reverse]; show 1 + _ ≤ _; omega)
                have htx : (⟨#[43]⟩ : ByteArray) ++ textL pre.reverse = textL (pre ++ [43]).reverse := by rw [List.reverse_append, List.reverse_cons, List.reverse_nil, List.nil_append, List.cons_append, List.nil_append, textL_cons]; rfl
                rw [htx] at hadd
                generalize textL pre.reverse = tx at *
                generalize hty : textL (pre ++ [43]).reverse = ty at *
                clear h1 h2 hS3 hS2 hxy H45 H43 HCC
                go_wp2_with fail
                go_quiet (fail)
                obtain ⟨wd, hwd⟩ : ∃ wz : World, wz = wr.drewN nq := ⟨_, rfl⟩
                rw [← hwd]
                have HB' := Lib.hid (show Below w1.heap.size w1 wd by rw [hwd]; exact below_drewN HB.out nq)
                have r1' : wd.cell? ⟨gb, I, none⟩ = some (.slice (some y1) (b.size + 1) (cp I)) := by rw [hwd]; exact r1
                have r2' : wd.cell? ⟨gb, i, none⟩ = some (.slice (some y2) (b.size + 1) (cp i)) := by rw [hwd]; exact r2
                have k1' : wd.cell? (y1.add j) = some (.int .i64 f2) := by rw [hwd]; exact k1
                have k2' : wd.cell? (y2.add j) = some (.int .i64 f3) := by rw [hwd]; exact k2
                have k3' : wd.cell? (y1.add J) = some (.int .i64 f1) := by rw [hwd]; exact k3
                clear HB r1 r2 k1 k2 k3 hwd
                have HB := HB'
                have r1 := r1'
                have r2 := r2'
                have k1 := k1'
                have k2 := k2'
                have k3 := k3'
                clear HB' r1' r2' k1' k2' k3'
                go_wp2_with fail
                go_quiet (fail)
                obtain ⟨we, hwd⟩ : ∃ wz : World, wz = wd.drewN nq := ⟨_, rfl⟩
                rw [← hwd]
                have HB' := Lib.hid (show Below w1.heap.size w1 we by rw [hwd]; exact below_drewN HB.out nq)
                have r1' : we.cell? ⟨gb, I, none⟩ = some (.slice (some y1) (b.size + 1) (cp I)) := by rw [hwd]; exact r1
                have r2' : we.cell? ⟨gb, i, none⟩ = some (.slice (some y2) (b.size + 1) (cp i)) := by rw [hwd]; exact r2
                have k1' : we.cell? (y1.add j) = some (.int .i64 f2) := by rw [hwd]; exact k1
                have k2' : we.cell? (y2.add j) = some (.int .i64 f3) := by rw [hwd]; exact k2
                have k3' : we.cell? (y1.add J) = some (.int .i64 f1) := by rw [hwd]; exact k3
                clear HB r1 r2 k1 k2 k3 hwd
                have HB := HB'
                have r1 := r1'
                have r2 := r2'
                have k1 := k1'
                have k2 := k2'
                have k3 := k3'
                clear HB' r1' r2' k1' k2' k3'
                go_wp2_with fail
                go_quiet (fail)
                obtain ⟨wf, hwd⟩ : ∃ wz : World, wz = we.drewN nq := ⟨_, rfl⟩
                rw [← hwd]
                have HB' := Lib.hid (show Below w1.heap.size w1 wf by rw [hwd]; exact below_drewN HB.out nq)
                have r1' : wf.cell? ⟨gb, I, none⟩ = some (.slice (some y1) (b.size + 1) (cp I)) := by rw [hwd]; exact r1
                have r2' : wf.cell? ⟨gb, i, none⟩ = some (.slice (some y2) (b.size + 1) (cp i)) := by rw [hwd]; exact r2
                have k1' : wf.cell? (y1.add j) = some (.int .i64 f2) := by rw [hwd]; exact k1
                have k2' : wf.cell? (y2.add j) = some (.int .i64 f3) := by rw [hwd]; exact k2
                have k3' : wf.cell? (y1.add J) = some (.int .i64 f1) := by rw [hwd]; exact k3
                clear HB r1 r2 k1 k2 k3 hwd
                have HB := HB'
                have r1 := r1'
                have r2 := r2'
                have k1 := k1'
                have k2 := k2'
                have k3 := k3'
                clear HB' r1' r2' k1' k2' k3'
                go_wp2_with fail
                refine ⟨⟨i, J, N, pre ++ [43], ?_, ?_, ?_, ?_, by simp, by simp, by rw [← hty], HP2.out, HB⟩, ?_⟩
                · have := HJ.out; have := HN.out; omega
                · have := HJ.out; have := HN.out; omega
                · have := HJ.out; have := HN.out; omega
                · have := HJ.out; have := HN.out; simp; omega
                · have := HJ.out; have := HN.out; simp [intOf]; omega
          · have hbq : ((a[I].toNat : Int) != (b[J].toNat : Int)) = true := by rw [bx_eq d4, bx_eq d5]; simp; omega
            have hS3 := hS2.out
            simp only [hxy, if_false] at hS3
            by_cases h1 : (f1 + 1) = f3
            · have hc1 : ((f1 + 1) == f3) = true := by simp [h1]
              rw [if_pos h1] at hS3
              have HP2 := Lib.hid (HCC.out 33 hS3 (by omega))
              have hadd := fun W => run_string_add_sum (P := Try.prog) W (⟨#[33]⟩ : ByteArray) (textL pre.reverse) (by rw [textL_size, List.length_reverse]; show 1 + _ ≤ _; omega)
              have htx : (⟨#[33]⟩ : ByteArray) ++ textL pre.reverse = textL (pre ++ [33]).reverse := by rw [List.reverse_append, List.reverse_cons, List.reverse_nil, List.nil_append, List.cons_append, List.nil_append, textL_cons]; rfl
              rw [htx] at hadd
              generalize textL pre.reverse = tx at *
              generalize hty : textL (pre ++ [33]).reverse = ty at *
              clear h1 hS3 hS2 hxy H45 H43 HCC
              go_wp2_with fail
              go_quiet (fail)
              obtain ⟨wd, hwd⟩ : ∃ wz : World, wz = wr.drewN nq := ⟨_, rfl⟩
              rw [← hwd]
              have HB' := Lib.hid (show Below w1.heap.size w1 wd by rw [hwd]; exact below_drewN HB.out nq)
              have r1' : wd.cell? ⟨gb, I, none⟩ = some (.slice (some y1) (b.size + 1) (cp I)) := by rw [hwd]; exact r1
              have r2' : wd.cell? ⟨gb, i, none⟩ = some (.slice (some y2) (b.size + 1) (cp i)) := by rw [hwd]; exact r2
              have k1' : wd.cell? (y1.add j) = some (.int .i64 f2) := by rw [hwd]; exact k1
              have k2' : wd.cell? (y2.add j) = some (.int .i64 f3) := by rw [hwd]; exact k2
              have k3' : wd.cell? (y1.add J) = some (.int .i64 f1) := by rw [hwd]; exact k3
              clear HB r1 r2 k1 k2 k3 hwd
              have HB := HB'
              have r1 := r1'
              have r2 := r2'
              have k1 := k1'
              have k2 := k2'
              have k3 := k3'
              clear HB' r1' r2' k1' k2' k3'
              go_wp2_with fail
              go_quiet (fail)
              obtain ⟨we, hwd⟩ : ∃ wz : World, wz = wd.drewN nq := ⟨_, rfl⟩
              rw [← hwd]
              have HB' := Lib.hid (show Below w1.heap.size w1 we by rw [hwd]; exact below_drewN HB.out nq)
              have r1' : we.cell? ⟨gb, I, none⟩ = some (.slice (some y1) (b.size + 1) (cp I)) := by rw [hwd]; exact r1
              have r2' : we.cell? ⟨gb, i, none⟩ = some (.slice (some y2) (b.size + 1) (cp i)) := by rw [hwd]; exact r2
              have k1' : we.cell? (y1.add j) = some (.int .i64 f2) := by rw [hwd]; exact k1
              have k2' : we.cell? (y2.add j) = some (.int .i64 f3) := by rw [hwd]; exact k2
              have k3' : we.cell? (y1.add J) = some (.int .i64 f1) := by rw [hwd]; exact k3
              clear HB r1 r2 k1 k2 k3 hwd
              have HB := HB'
              have r1 := r1'
              have r2 := r2'
              have k1 := k1'
              have k2 := k2'
              have k3 := k3'
              clear HB' r1' r2' k1' k2' k3'
              go_wp2_with fail
              refine ⟨⟨I, J, N, pre ++ [33], ?_, ?_, ?_, ?_, by simp, by simp, by rw [← hty], HP2.out, HB⟩, ?_⟩
              · have := HJ.out; have := HN.out; omega
              · have := HJ.out; have := HN.out; omega
              · have := HJ.out; have := HN.out; omega
              · have := HJ.out; have := HN.out; simp; omega
              · have := HJ.out; have := HN.out; simp [intOf]; omega
            · have hc1 : ((f1 + 1) == f3) = false := by simp [h1]
              rw [if_neg h1] at hS3
              by_cases h2 : f2 + 1 = f3
              · have hc2 : (f2 + 1 == f3) = true := by simp [h2]
                rw [if_pos h2] at hS3
                have HP2 := Lib.hid (H45.out hS3)
                have hadd := fun W => run_string_add_sum (P := Try.prog) W (⟨#[45]⟩ : ByteArray) (textL pre.reverse) (by rw [textL_size, List.length_reverse]; show 1 + _ ≤ _; omega)
                have htx : (⟨#[45]⟩ : ByteArray) ++ textL pre.reverse = textL (pre ++ [45]).reverse := by rw [List.reverse_append, List.reverse_cons, List.reverse_nil, List.nil_append, List.cons_append, List.nil_append, textL_cons]; rfl
                rw [htx] at hadd
                generalize textL pre.reverse = tx at *
                generalize hty : textL (pre ++ [45]).reverse = ty at *
                clear h1 h2 hS3 hS2 hxy H45 H43 HCC
                go_wp2_with fail
                go_quiet (fail)
                obtain ⟨wd, hwd⟩ : ∃ wz : World, wz = wr.drewN nq := ⟨_, rfl⟩
                rw [← hwd]
                have HB' := Lib.hid (show Below w1.heap.size w1 wd by rw [hwd]; exact below_drewN HB.out nq)
                have r1' : wd.cell? ⟨gb, I, none⟩ = some (.slice (some y1) (b.size + 1) (cp I)) := by rw [hwd]; exact r1
                have r2' : wd.cell? ⟨gb, i, none⟩ = some (.slice (some y2) (b.size + 1) (cp i)) := by rw [hwd]; exact r2
                have k1' : wd.cell? (y1.add j) = some (.int .i64 f2) := by rw [hwd]; exact k1
                have k2' : wd.cell? (y2.add j) = some (.int .i64 f3) := by rw [hwd]; exact k2
                have k3' : wd.cell? (y1.add J) = some (.int .i64 f1) := by rw [hwd]; exact k3
                clear HB r1 r2 k1 k2 k3 hwd
                have HB := HB'
                have r1 := r1'
                have r2 := r2'
                have k1 := k1'
                have k2 := k2'
                have k3 := k3'
                clear HB' r1' r2' k1' k2' k3'
                go_wp2_with fail
                go_quiet (fail)
                obtain ⟨we, hwd⟩ : ∃ wz : World, wz = wd.drewN nq := ⟨_, rfl⟩
                rw [← hwd]
                have HB' := Lib.hid (show Below w1.heap.size w1 we by rw [hwd]; exact below_drewN HB.out nq)
                have r1' : we.cell? ⟨gb, I, none⟩ = some (.slice (some y1) (b.size + 1) (cp I)) := by rw [hwd]; exact r1
                have r2' : we.cell? ⟨gb, i, none⟩ = some (.slice (some y2) (b.size + 1) (cp i)) := by rw [hwd]; exact r2
                have k1' : we.cell? (y1.add j) = some (.int .i64 f2) := by rw [hwd]; exact k1
                have k2' : we.cell? (y2.add j) = some (.int .i64 f3) := by rw [hwd]; exact k2
                have k3' : we.cell? (y1.add J) = some (.int .i64 f1) := by rw [hwd]; exact k3
                clear HB r1 r2 k1 k2 k3 hwd
                have HB := HB'
                have r1 := r1'
                have r2 := r2'
                have k1 := k1'
                have k2 := k2'
                have k3 := k3'
                clear HB' r1' r2' k1' k2' k3'
                go_wp2_with fail
                go_quiet (fail)
                obtain ⟨wf, hwd⟩ : ∃ wz : World, wz = we.drewN nq := ⟨_, rfl⟩
                rw [← hwd]
                have HB' := Lib.hid (show Below w1.heap.size w1 wf by rw [hwd]; exact below_drewN HB.out nq)
                have r1' : wf.cell? ⟨gb, I, none⟩ = some (.slice (some y1) (b.size + 1) (cp I)) := by rw [hwd]; exact r1
                have r2' : wf.cell? ⟨gb, i, none⟩ = some (.slice (some y2) (b.size + 1) (cp i)) := by rw [hwd]; exact r2
                have k1' : wf.cell? (y1.add j) = some (.int .i64 f2) := by rw [hwd]; exact k1
                have k2' : wf.cell? (y2.add j) = some (.int .i64 f3) := by rw [hwd]; exact k2
                have k3' : wf.cell? (y1.add J) = some (.int .i64 f1) := by rw [hwd]; exact k3
                clear HB r1 r2 k1 k2 k3 hwd
                have HB := HB'
                have r1 := r1'
                have r2 := r2'
                have k1 := k1'
                have k2 := k2'
                have k3 := k3'
                clear HB' r1' r2' k1' k2' k3'
                go_wp2_with fail
                refine ⟨⟨I, j, N, pre ++ [45], ?_, ?_, ?_, ?_, by simp, by simp, by rw [← hty], HP2.out, HB⟩, ?_⟩
                · have := HJ.out; have := HN.out; omega
                · have := HJ.out; have := HN.out; omega
                · have := HJ.out; have := HN.out; omega
                · have := HJ.out; have := HN.out; simp; omega
                · have := HJ.out; have := HN.out; simp [intOf]; omega
              · have hc2 : (f2 + 1 == f3) = false := by simp [h2]
                rw [if_neg h2] at hS3
                have HP2 := Lib.hid (H43.out hS3)
                have hadd := fun W => run_string_add_sum (P := Try.prog) W (⟨#[43]⟩ : ByteArray) (textL pre.reverse) (by rw [textL_size, List.length_reverse]; show 1 + _ ≤ _; omega)
                have htx : (⟨#[43]⟩ : ByteArray) ++ textL pre.reverse = textL (pre ++ [43]).reverse := by rw [List.reverse_append, List.reverse_cons, List.reverse_nil, List.nil_append, List.cons_append, List.nil_append, textL_cons]; rfl
                rw [htx] at hadd
                generalize textL pre.reverse = tx at *
                generalize hty : textL (pre ++ [43]).reverse = ty at *
                clear h1 h2 hS3 hS2 hxy H45 H43 HCC
                go_wp2_with fail
                go_quiet (fail)
                obtain ⟨wd, hwd⟩ : ∃ wz : World, wz = wr.drewN nq := ⟨_, rfl⟩
                rw [← hwd]
                have HB' := Lib.hid (show Below w1.heap.size w1 wd by rw [hwd]; exact below_drewN HB.out nq)
                have r1' : wd.cell? ⟨gb, I, none⟩ = some (.slice (some y1) (b.size + 1) (cp I)) := by rw [hwd]; exact r1
                have r2' : wd.cell? ⟨gb, i, none⟩ = some (.slice (some y2) (b.size + 1) (cp i)) := by rw [hwd]; exact r2
                have k1' : wd.cell? (y1.add j) = some (.int .i64 f2) := by rw [hwd]; exact k1
                have k2' : wd.cell? (y2.add j) = some (.int .i64 f3) := by rw [hwd]; exact k2
                have k3' : wd.cell? (y1.add J) = some (.int .i64 f1) := by rw [hwd]; exact k3
                clear HB r1 r2 k1 k2 k3 hwd
                have HB := HB'
                have r1 := r1'
                have r2 := r2'
                have k1 := k1'
                have k2 := k2'
                have k3 := k3'
                clear HB' r1' r2' k1' k2' k3'
                go_wp2_with fail
                go_quiet (fail)
                obtain ⟨we, hwd⟩ : ∃ wz : World, wz = wd.drewN nq := ⟨_, rfl⟩
                rw [← hwd]
                have HB' := Lib.hid (show Below w1.heap.size w1 we by rw [hwd]; exact below_drewN HB.out nq)
                have r1' : we.cell? ⟨gb, I, none⟩ = some (.slice (some y1) (b.size + 1) (cp I)) := by rw [hwd]; exact r1
                have r2' : we.cell? ⟨gb, i, none⟩ = some (.slice (some y2) (b.size + 1) (cp i)) := by rw [hwd]; exact r2
                have k1' : we.cell? (y1.add j) = some (.int .i64 f2) := by rw [hwd]; exact k1
                have k2' : we.cell? (y2.add j) = some (.int .i64 f3) := by rw [hwd]; exact k2
                have k3' : we.cell? (y1.add J) = some (.int .i64 f1) := by rw [hwd]; exact k3
                clear HB r1 r2 k1 k2 k3 hwd
                have HB := HB'
                have r1 := r1'
                have r2 := r2'
                have k1 := k1'
                have k2 := k2'
                have k3 := k3'
                clear HB' r1' r2' k1' k2' k3'
                go_wp2_with fail
                go_quiet (fail)
                obtain ⟨wf, hwd⟩ : ∃ wz : World, wz = we.drewN nq := ⟨_, rfl⟩
                rw [← hwd]
                have HB' := Lib.hid (show Below w1.heap.size w1 wf by rw [hwd]; exact below_drewN HB.out nq)
                have r1' : wf.cell? ⟨gb, I, none⟩ = some (.slice (some y1) (b.size + 1) (cp I)) := by rw [hwd]; exact r1
                have r2' : wf.cell? ⟨gb, i, none⟩ = some (.slice (some y2) (b.size + 1) (cp i)) := by rw [hwd]; exact r2
                have k1' : wf.cell? (y1.add j) = some (.int .i64 f2) := by rw [hwd]; exact k1
                have k2' : wf.cell? (y2.add j) = some (.int .i64 f3) := by rw [hwd]; exact k2
                have k3' : wf.cell? (y1.add J) = some (.int .i64 f1) := by rw [hwd]; exact k3
                clear HB r1 r2 k1 k2 k3 hwd
                have HB := HB'
                have r1 := r1'
                have r2 := r2'
                have k1 := k1'
                have k2 := k2'
                have k3 := k3'
                clear HB' r1' r2' k1' k2' k3'
                go_wp2_with fail
                refine ⟨⟨i, J, N, pre ++ [43], ?_, ?_, ?_, ?_, by simp, by simp, by rw [← hty], HP2.out, HB⟩, ?_⟩
                · have := HJ.out; have := HN.out; omega
                · have := HJ.out; have := HN.out; omega
                · have := HJ.out; have := HN.out; omega
                · have := HJ.out; have := HN.out; simp; omega
                · have := HJ.out; have := HN.out; simp [intOf]; omega
end Go.Proofs.Ytcnamfjojdjjgaa
