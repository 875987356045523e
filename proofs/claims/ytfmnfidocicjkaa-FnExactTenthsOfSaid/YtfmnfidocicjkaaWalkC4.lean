/- Walks of the logarithm. -/
import Derived.Test.YtfmnfidocicjkaaLog
import Derived.Test.YtfmnfidocicjkaaNarrow
import Derived.LoopTactic
set_option linter.unusedVariables false
namespace Go.Proofs.Ytfmnfidocicjkaa
open Go.RowKit

set_option maxHeartbeats 1000000 in
theorem wideLog_any (t : Nat) (w : World) (ht : Pos 1202 1 t) : Calls Try.prog 37 #[.float .f64 t] w fun e w' => e = .returned (.float .f64 (logV t)) ∧ w = w' := by
  have HT := Lib.hid (show Pos (1202 - 0) 1 t from ht)
  clear ht
  go_enter Try.func37, Try.ntmps37
  go_wp2_with fail
  go_loop [0, 3] (fun v i => ∃ k x : Nat, k ≤ 128 ∧ Hid (downV (129 - k) x k = downV 129 t 0) ∧ Hid (Pos (1202 - k) 1 x) ∧ i = .int .i64 k ∧ v = .float .f64 x) (fun _ i => 129 - (intOf i).toNat)
  case atStart => exact ⟨0, t, by omega, rfl, HT.out, rfl, rfl⟩
  case round =>
    obtain ⟨k, x, hk, hd, hp, rfl, rfl⟩ := hrel
    cases hg : geB x c15
    · have k1 : (FloatKind.f64.format.order x 4609434218613702656 == some .gt) = false := (or_false2 hg).1
      have k2 : (FloatKind.f64.format.order x 4609434218613702656 == some .eq) = false := (or_false2 hg).2
      have HD := Lib.hid (show downV 129 t 0 = (x, k) by
        rw [← show _ = _ from hd, show 129 - k = (128 - k) + 1 by omega]
        show (if geB x c15 then _ else _) = _
        rw [hg]; rfl)
      have HP := Lib.hid (down_end hp hg)
      clear hg hd hp
      go_wp2_with fail
      go_loop [0, 3] (fun v i => ∃ (j y : Nat) (e : Int), j ≤ 1074 ∧ Hid (upV (1075 - j) y e = upV 1075 x k) ∧ Hid (Pos 1075 (1 + j) y) ∧ Hid (e = (k : Int) - j) ∧ -1100 ≤ e ∧ e ≤ 128 ∧ i = .int .i64 e ∧ v = .float .f64 y) (fun _ i => (intOf i + 1101).toNat)
      case atStart => exact ⟨0, x, (k : Int), by omega, rfl, HP.out, by simp [Hid], by omega, by omega, rfl, rfl⟩
      case round =>
        obtain ⟨j, y, e, hj, hu, hp, he, he1, he2, rfl, rfl⟩ := hrel
        cases hl : ltB y c075
        · have l1 : (FloatKind.f64.format.order y 4604930618986332160 == some .lt) = false := hl
          have HU := Lib.hid (show upV 1075 x k = (y, e) by
            rw [← show _ = _ from hu, show 1075 - j = (1074 - j) + 1 by omega]
            show (if ltB y c075 then _ else _) = _
            rw [hl]; rfl)
          have HV := Lib.hid (show logV t = logEnd y e by unfold logV; rw [HD.out]; show logEnd (upV 1075 x k).1 (upV 1075 x k).2 = _; rw [HU.out])
          obtain ⟨a1, _, a2, _⟩ := less_one hp
          obtain ⟨a3, a4, b4, a5, a6, a7, a8, _⟩ := log_ok hp (e := e) (by omega) (by omega)
          have HPL := Lib.hid (fun j hj => logPoly_ok b4 j hj)
          clear hl hu hp he HU HD HP b4
          generalize fs y one = d1 at *
          generalize fa y one = d2 at *
          generalize logS y = sv at *
          generalize logEnd y e = rv at *
          generalize fm (floatOfInt .f64 e) logTwo = ec at *
          obtain ⟨u, huu⟩ : ∃ u, u = fm sv sv := ⟨_, rfl⟩
          rw [← huu] at HPL a4 a5 a6 a8
          clear huu
          have v1 := fun W => run_float_arith (P := Try.prog) W .sub 22 .f64 _ 4607182418800017408 _ a1
          have v2 := fun W => run_float_arith (P := Try.prog) W .add 22 .f64 _ 4607182418800017408 _ a2
          have v3 := fun W => run_float_arith (P := Try.prog) W .quo 22 .f64 _ _ _ a3
          have v4 := fun W => run_float_arith (P := Try.prog) W .mul 22 .f64 _ _ _ a4
          have v5 := fun W => run_float_arith (P := Try.prog) W .mul 22 .f64 _ _ _ a5
          have v6 := fun W => run_float_arith (P := Try.prog) W .mul 22 .f64 4611686018427387904 _ _ a6
          have v7 := fun W => run_float_arith (P := Try.prog) W .mul 22 .f64 _ 4604418534313441775 _ a7
          have v8 := fun W => run_float_arith (P := Try.prog) W .add 22 .f64 _ _ _ a8
          clear a1 a2 a3 a4 a5 a6 a7 a8
          go_wp2_with fail
          go_loop [6, 7] (fun v i => ∃ k : Nat, ∃ kk : Int, k ≤ 13 ∧ Hid (kk = 25 - 2 * (k : Int)) ∧ -1 ≤ kk ∧ kk ≤ 25 ∧ i = .int .i64 kk ∧ v = .float .f64 (logPoly u k)) (fun _ i => (intOf i + 1).toNat)
          case atStart => exact ⟨0, 25, by omega, by simp [Hid], by omega, by omega, rfl, rfl⟩
          case round =>
            obtain ⟨k, kk, hk, hkk, hk1, hk2, rfl, rfl⟩ := hrel
            by_cases h1 : 1 ≤ kk
            · have hk8 : k < 13 := by have := hkk; unfold Hid at this; omega
              obtain ⟨b1, b2, b3⟩ := HPL.out k hk8
              rw [show 25 - 2 * (k : Int) = kk from hkk.symm] at b1 b3
              generalize hp : logPoly u (k + 1) = p' at *
              have HPP := Lib.hid hp
              clear hp
              generalize logPoly u k = pp at *
              have w1 := fun W => run_float_arith (P := Try.prog) W .quo 22 .f64 4607182418800017408 _ _ b1
              have w2 := fun W => run_float_arith (P := Try.prog) W .mul 22 .f64 _ _ _ b2
              have w3 := fun W => run_float_arith (P := Try.prog) W .add 22 .f64 _ _ _ b3
              clear b1 b2 b3 v1 v2 v3 v4 v5 v6 v7 v8
              go_wp2_with fail
              go_round
              case rel => exact ⟨k + 1, kk - 2, by omega, by have := hkk; unfold Hid at this ⊢; omega, by omega, by omega, rfl, by rw [HPP.out]⟩
              case measure => simp [intOf]; omega
            · have hk8 : k = 13 := by have := hkk; unfold Hid at this; omega
              subst hk8
              go_wp2_with fail
              go_ret
              exact ⟨ret_float HV.out.symm, rfl⟩
        · have l1 : (FloatKind.f64.format.order y 4604930618986332160 == some .lt) = true := hl
          obtain ⟨hj2, a1, a2, hp2⟩ := up_step hp hl
          have HU := Lib.hid (show upV (1075 - (j + 1)) (fa y y) (e - 1) = upV 1075 x k by
            rw [← show _ = _ from hu, show 1075 - j = (1075 - (j + 1)) + 1 by omega]
            show _ = (if ltB y c075 then _ else _)
            rw [hl]; rfl)
          have HQ := Lib.hid hp2
          have w1 := fun W => run_float_arith (P := Try.prog) W .add 22 .f64 _ _ _ a1
          clear hl hu hp a1 a2 hp2
          generalize fa y y = y2 at *
          go_wp2_with fail
          go_round
          case rel => exact ⟨j + 1, y2, e - 1, by omega, HU.out, HQ.out, by have := he; unfold Hid at this ⊢; omega, by have := he; unfold Hid at this; omega, by omega, rfl, rfl⟩
          case measure => simp [intOf]; omega
    · have k1 : (FloatKind.f64.format.order x 4609434218613702656 == some .gt || FloatKind.f64.format.order x 4609434218613702656 == some .eq) = true := hg
      obtain ⟨hk2, a1, hp2⟩ := down_step hp hk hg
      have HD := Lib.hid (show downV (129 - (k + 1)) (fd x two) (k + 1) = downV 129 t 0 by
        rw [← show _ = _ from hd, show 129 - k = (129 - (k + 1)) + 1 by omega]
        show _ = (if geB x c15 then _ else _)
        rw [hg]; rfl)
      have HQ := Lib.hid hp2
      have w1 := fun W => run_float_arith (P := Try.prog) W .quo 22 .f64 _ 4611686018427387904 _ a1
      clear hg hd hp a1 hp2
      generalize fd x two = x2 at *
      go_wp2_with fail
      go_round
      case rel => exact ⟨k + 1, x2, by omega, HD.out, HQ.out, by go_num, rfl⟩
      case measure => simp [intOf]; omega

def minusInf : Nat := 18442240474082181120
theorem Inf_minus (w : World) : Calls Try.prog 41 #[.int .i64 (-1)] w fun e w' => e = .returned (.float .f64 minusInf) ∧ w = w' := by
  go_enter Try.func41, Try.ntmps41
  go_wp2
  go_ret
  exact ⟨rfl, rfl⟩
theorem IsInf_one (y : Nat) (w : World) {b : Bool} (h : (FloatKind.f64.format.order y 9218868437227405311 == some .gt) = b) : Calls Try.prog 46 #[.float .f64 y, .int .i64 1] w fun e w' => e = .returned (.bool b) ∧ w = w' := by
  go_enter Try.func46, Try.ntmps46
  go_wp2
  go_ret
  exact ⟨rfl, rfl⟩
theorem specLog_nan (y : Nat) (w : World) (h : nanB .f64 y = true) : Calls Try.prog 52 #[.float .f64 y] w fun e w' => e = .returned (.float .f64 nan64) ∧ w = w' := by
  have r := ne_self .f64 y
  rw [h] at r
  clear h
  go_enter Try.func52, Try.ntmps52
  go_wp2_with fail
  refine (NaN_any _).mono ?_
  rintro e w' ⟨rfl, rfl⟩
  go_wp2_with fail
  go_ret
  exact ⟨rfl, rfl⟩
theorem specLog_neg (y : Nat) (w : World) (h : nanB .f64 y = false) (hl : (FloatKind.f64.format.order y 0 == some .lt) = true) : Calls Try.prog 52 #[.float .f64 y] w fun e w' => e = .returned (.float .f64 nan64) ∧ w = w' := by
  have r := ne_self .f64 y
  rw [h] at r
  clear h
  go_enter Try.func52, Try.ntmps52
  go_wp2_with fail
  refine (NaN_any _).mono ?_
  rintro e w' ⟨rfl, rfl⟩
  go_wp2_with fail
  go_ret
  exact ⟨rfl, rfl⟩
theorem specLog_zero (y : Nat) (w : World) (h : nanB .f64 y = false) (hl : (FloatKind.f64.format.order y 0 == some .lt) = false) (hz : (FloatKind.f64.format.order y 0 == some .eq) = true) : Calls Try.prog 52 #[.float .f64 y] w fun e w' => e = .returned (.float .f64 minusInf) ∧ w = w' := by
  have r := ne_self .f64 y
  rw [h] at r
  clear h
  go_enter Try.func52, Try.ntmps52
  go_wp2_with fail
  refine (Inf_minus _).mono ?_
  rintro e w' ⟨rfl, rfl⟩
  go_wp2_with fail
  go_ret
  exact ⟨rfl, rfl⟩
theorem specLog_inf (y : Nat) (w : World) (h : nanB .f64 y = false) (hl : (FloatKind.f64.format.order y 0 == some .lt) = false) (hz : (FloatKind.f64.format.order y 0 == some .eq) = false)
    (hm : (FloatKind.f64.format.order y 9218868437227405311 == some .gt) = true) : Calls Try.prog 52 #[.float .f64 y] w fun e w' => e = .returned (.float .f64 y) ∧ w = w' := by
  have r := ne_self .f64 y
  rw [h] at r
  have HI := Lib.hid (fun W => IsInf_one y W hm)
  clear h hm
  go_enter Try.func52, Try.ntmps52
  go_wp2_with fail
  refine (HI.out _).mono ?_
  rintro e w' ⟨rfl, rfl⟩
  go_wp2_with fail
  go_ret
  exact ⟨rfl, rfl⟩
set_option maxHeartbeats 1000000 in
theorem specLog_any (t : Nat) (w : World) (ht : Pos 1202 1 t) (h : nanB .f64 t = false) (hl : (FloatKind.f64.format.order t 0 == some .lt) = false) (hz : (FloatKind.f64.format.order t 0 == some .eq) = false)
    (hm : (FloatKind.f64.format.order t 9218868437227405311 == some .gt) = false) : Calls Try.prog 52 #[.float .f64 t] w fun e w' => e = .returned (.float .f64 (logV t)) ∧ w = w' := by
  have HT := Lib.hid (show Pos (1202 - 0) 1 t from ht)
  have r := ne_self .f64 t
  rw [h] at r
  have HI := Lib.hid (fun W => IsInf_one t W hm)
  clear ht h hm
  go_enter Try.func52, Try.ntmps52
  go_wp2_with fail
  refine (HI.out _).mono ?_
  rintro e w' ⟨rfl, rfl⟩
  clear r hl hz HI
  go_wp2_with fail
  go_loop [0, 3] (fun v i => ∃ k x : Nat, k ≤ 128 ∧ Hid (downV (129 - k) x k = downV 129 t 0) ∧ Hid (Pos (1202 - k) 1 x) ∧ i = .int .i64 k ∧ v = .float .f64 x) (fun _ i => 129 - (intOf i).toNat)
  case atStart => exact ⟨0, t, by omega, rfl, HT.out, rfl, rfl⟩
  case round =>
    obtain ⟨k, x, hk, hd, hp, rfl, rfl⟩ := hrel
    cases hg : geB x c15
    · have k1 : (FloatKind.f64.format.order x 4609434218613702656 == some .gt) = false := (or_false2 hg).1
      have k2 : (FloatKind.f64.format.order x 4609434218613702656 == some .eq) = false := (or_false2 hg).2
      have HD := Lib.hid (show downV 129 t 0 = (x, k) by
        rw [← show _ = _ from hd, show 129 - k = (128 - k) + 1 by omega]
        show (if geB x c15 then _ else _) = _
        rw [hg]; rfl)
      have HP := Lib.hid (down_end hp hg)
      clear hg hd hp
      go_wp2_with fail
      go_loop [0, 3] (fun v i => ∃ (j y : Nat) (e : Int), j ≤ 1074 ∧ Hid (upV (1075 - j) y e = upV 1075 x k) ∧ Hid (Pos 1075 (1 + j) y) ∧ Hid (e = (k : Int) - j) ∧ -1100 ≤ e ∧ e ≤ 128 ∧ i = .int .i64 e ∧ v = .float .f64 y) (fun _ i => (intOf i + 1101).toNat)
      case atStart => exact ⟨0, x, (k : Int), by omega, rfl, HP.out, by simp [Hid], by omega, by omega, rfl, rfl⟩
      case round =>
        obtain ⟨j, y, e, hj, hu, hp, he, he1, he2, rfl, rfl⟩ := hrel
        cases hl : ltB y c075
        · have l1 : (FloatKind.f64.format.order y 4604930618986332160 == some .lt) = false := hl
          have HU := Lib.hid (show upV 1075 x k = (y, e) by
            rw [← show _ = _ from hu, show 1075 - j = (1074 - j) + 1 by omega]
            show (if ltB y c075 then _ else _) = _
            rw [hl]; rfl)
          have HV := Lib.hid (show logV t = logEnd y e by unfold logV; rw [HD.out]; show logEnd (upV 1075 x k).1 (upV 1075 x k).2 = _; rw [HU.out])
          obtain ⟨a1, _, a2, _⟩ := less_one hp
          obtain ⟨a3, a4, b4, a5, a6, a7, a8, _⟩ := log_ok hp (e := e) (by omega) (by omega)
          have HPL := Lib.hid (fun j hj => logPoly_ok b4 j hj)
          clear hl hu hp he HU HD HP b4
          generalize fs y one = d1 at *
          generalize fa y one = d2 at *
          generalize logS y = sv at *
          generalize logEnd y e = rv at *
          generalize fm (floatOfInt .f64 e) logTwo = ec at *
          obtain ⟨u, huu⟩ : ∃ u, u = fm sv sv := ⟨_, rfl⟩
          rw [← huu] at HPL a4 a5 a6 a8
          clear huu
          have v1 := fun W => run_float_arith (P := Try.prog) W .sub 22 .f64 _ 4607182418800017408 _ a1
          have v2 := fun W => run_float_arith (P := Try.prog) W .add 22 .f64 _ 4607182418800017408 _ a2
          have v3 := fun W => run_float_arith (P := Try.prog) W .quo 22 .f64 _ _ _ a3
          have v4 := fun W => run_float_arith (P := Try.prog) W .mul 22 .f64 _ _ _ a4
          have v5 := fun W => run_float_arith (P := Try.prog) W .mul 22 .f64 _ _ _ a5
          have v6 := fun W => run_float_arith (P := Try.prog) W .mul 22 .f64 4611686018427387904 _ _ a6
          have v7 := fun W => run_float_arith (P := Try.prog) W .mul 22 .f64 _ 4604418534313441775 _ a7
          have v8 := fun W => run_float_arith (P := Try.prog) W .add 22 .f64 _ _ _ a8
          clear a1 a2 a3 a4 a5 a6 a7 a8
          go_wp2_with fail
          go_loop [6, 7] (fun v i => ∃ k : Nat, ∃ kk : Int, k ≤ 13 ∧ Hid (kk = 25 - 2 * (k : Int)) ∧ -1 ≤ kk ∧ kk ≤ 25 ∧ i = .int .i64 kk ∧ v = .float .f64 (logPoly u k)) (fun _ i => (intOf i + 1).toNat)
          case atStart => exact ⟨0, 25, by omega, by simp [Hid], by omega, by omega, rfl, rfl⟩
          case round =>
            obtain ⟨k, kk, hk, hkk, hk1, hk2, rfl, rfl⟩ := hrel
            by_cases h1 : 1 ≤ kk
            · have hk8 : k < 13 := by have := hkk; unfold Hid at this; omega
              obtain ⟨b1, b2, b3⟩ := HPL.out k hk8
              rw [show 25 - 2 * (k : Int) = kk from hkk.symm] at b1 b3
              generalize hp : logPoly u (k + 1) = p' at *
              have HPP := Lib.hid hp
              clear hp
              generalize logPoly u k = pp at *
              have w1 := fun W => run_float_arith (P := Try.prog) W .quo 22 .f64 4607182418800017408 _ _ b1
              have w2 := fun W => run_float_arith (P := Try.prog) W .mul 22 .f64 _ _ _ b2
              have w3 := fun W => run_float_arith (P := Try.prog) W .add 22 .f64 _ _ _ b3
              clear b1 b2 b3 v1 v2 v3 v4 v5 v6 v7 v8
              go_wp2_with fail
              go_round
              case rel => exact ⟨k + 1, kk - 2, by omega, by have := hkk; unfold Hid at this ⊢; omega, by omega, by omega, rfl, by rw [HPP.out]⟩
              case measure => simp [intOf]; omega
            · have hk8 : k = 13 := by have := hkk; unfold Hid at this; omega
              subst hk8
              go_wp2_with fail
              go_ret
              exact ⟨ret_float HV.out.symm, rfl⟩
        · have l1 : (FloatKind.f64.format.order y 4604930618986332160 == some .lt) = true := hl
          obtain ⟨hj2, a1, a2, hp2⟩ := up_step hp hl
          have HU := Lib.hid (show upV (1075 - (j + 1)) (fa y y) (e - 1) = upV 1075 x k by
            rw [← show _ = _ from hu, show 1075 - j = (1075 - (j + 1)) + 1 by omega]
            show _ = (if ltB y c075 then _ else _)
            rw [hl]; rfl)
          have HQ := Lib.hid hp2
          have w1 := fun W => run_float_arith (P := Try.prog) W .mul 22 .f64 _ 4611686018427387904 _ a2
          clear hl hu hp a1 a2 hp2
          generalize fa y y = y2 at *
          go_wp2_with fail
          go_round
          case rel => exact ⟨j + 1, y2, e - 1, by omega, HU.out, HQ.out, by have := he; unfold Hid at this ⊢; omega, by have := he; unfold Hid at this; omega, by omega, rfl, rfl⟩
          case measure => simp [intOf]; omega
    · have k1 : (FloatKind.f64.format.order x 4609434218613702656 == some .gt || FloatKind.f64.format.order x 4609434218613702656 == some .eq) = true := hg
      obtain ⟨hk2, a1, hp2⟩ := down_step hp hk hg
      have HD := Lib.hid (show downV (129 - (k + 1)) (fd x two) (k + 1) = downV 129 t 0 by
        rw [← show _ = _ from hd, show 129 - k = (129 - (k + 1)) + 1 by omega]
        show _ = (if geB x c15 then _ else _)
        rw [hg]; rfl)
      have HQ := Lib.hid hp2
      have w1 := fun W => run_float_arith (P := Try.prog) W .quo 22 .f64 _ 4611686018427387904 _ a1
      clear hg hd hp a1 hp2
      generalize fd x two = x2 at *
      go_wp2_with fail
      go_round
      case rel => exact ⟨k + 1, x2, by omega, HD.out, HQ.out, by go_num, rfl⟩
      case measure => simp [intOf]; omega

end Go.Proofs.Ytfmnfidocicjkaa
