/- Contracts and walks of the laws on single float32 numbers: the program answers as the model. -/
import Derived.Test.YtfmnfidocicjkaaSameF
set_option linter.unusedVariables false
namespace Go.Proofs.Ytfmnfidocicjkaa
open Go.RowKit

theorem same_wide {v : Nat} (h : nanB .f32 v = false) : Same64 (wide v) (wide v) := .inl ⟨rfl, (wide_some h).2⟩

set_option maxRecDepth 100000 in
theorem Abs_any (y : Nat) (w : World) (wy : (Lit.float .f64 y).wf = true) : Calls Try.prog 26 #[.float .f64 y] w fun e w' => e = .returned (.float .f64 (y % 2 ^ 63)) ∧ w = w' := by
  have HY := Lib.hid (bits_abs (lt_of_wf64 wy))
  clear wy
  go_enter Try.func26, Try.ntmps26
  go_wp2
  go_ret
  exact ⟨ret_float HY.out, rfl⟩

/-- The greatest finite float64 is not less than a finite one. -/
theorem order_max {y : Nat} (hn : nanB .f64 y = false) : (Ieee.double.order (y % 2 ^ 63) 9218868437227405311 == some .gt) = !finB .f64 y := by
  have hc : Ieee.double.read 9218868437227405311 = .number false 9007199254740991 971 := by decide
  unfold Ieee.Format.order finB
  show _ = !(match Ieee.double.read y with | .number .. => true | _ => false)
  rw [hc, show y % 2 ^ 63 = y % Ieee.double.signWeight from rfl, read_abs]
  cases h : Ieee.double.read y with
  | nan s t => unfold nanB at hn; rw [show FloatKind.f64.decode y = _ from h] at hn; cases hn
  | infinity s => rfl
  | number s m p =>
    obtain ⟨_, h2, h3, h4, _⟩ := Fl.read_fin eb64 h
    rw [least64] at h2 h4
    have hfb : Ieee.double.fractionBits = 52 := rfl
    have heb : Ieee.double.exponentBits = 11 := rfl
    rw [hfb] at h3
    rw [heb] at h4
    show ((Ieee.Datum.number false m p).order (.number false 9007199254740991 971) == some .gt) = false
    rw [Fl.order_num (L := -1074) h2 (by omega)]
    have hle : m * 2 ^ (p - -1074).toNat ≤ 9007199254740991 * 2 ^ (971 - -1074 : Int).toNat := by
      refine Nat.mul_le_mul (by omega) (Nat.pow_le_pow_right (by omega) ?_)
      omega
    generalize m * 2 ^ (p - -1074).toNat = A at *
    generalize 9007199254740991 * 2 ^ (971 - -1074 : Int).toNat = B at *
    by_cases he : A = B
    · subst he
      simp
    · rw [show Fl.sv false A = (A : Int) from rfl, show Fl.sv false B = (B : Int) from rfl, Int.compare_eq_lt.2 (by omega)]
      rfl

set_option maxRecDepth 100000 in
theorem IsInf_any (y : Nat) (w : World) (wy : (Lit.float .f64 y).wf = true) (hn : nanB .f64 y = false) : Calls Try.prog 46 #[.float .f64 y, .int .i64 0] w fun e w' => e = .returned (.bool (!finB .f64 y)) ∧ w = w' := by
  have HO := Lib.hid (order_max hn)
  clear hn
  go_enter Try.func46, Try.ntmps46
  go_wp2_with fail
  refine (Abs_any _ _ wy).mono ?_
  rintro e w' ⟨rfl, rfl⟩
  go_wp2_with fail
  go_ret
  exact ⟨ret_bool HO.out, rfl⟩
theorem isFiniteWide_any (y : Nat) (w : World) (wy : (Lit.float .f64 y).wf = true) : Calls Try.prog 24 #[.float .f64 y] w fun e w' => e = .returned (.bool (finB .f64 y)) ∧ w = w' := by
  cases hn : nanB .f64 y
  · have HC := Lib.hid (fun W => IsInf_any y W wy hn)
    have HB := Lib.hid hn
    clear hn
    go_enter Try.func24, Try.ntmps24
    go_wp2_with fail
    refine (IsNaN_any y _).mono ?_
    rintro e w' ⟨rfl, rfl⟩
    rw [HB.out]
    go_wp2_with fail
    refine (HC.out _).mono ?_
    rintro e w' ⟨rfl, rfl⟩
    go_wp2_with fail
    go_ret
    exact ⟨ret_bool (by simp), rfl⟩
  · have HF := Lib.hid (fin_not_nan hn)
    have HB := Lib.hid hn
    clear hn
    go_enter Try.func24, Try.ntmps24
    go_wp2_with fail
    refine (IsNaN_any y _).mono ?_
    rintro e w' ⟨rfl, rfl⟩
    rw [HB.out]
    go_wp2_with fail
    go_ret
    exact ⟨ret_bool HF.out.symm, rfl⟩
theorem implIsFinite_any (x : Nat) (w : World) (wx : (Lit.float .f32 x).wf = true) : Calls Try.prog 31 #[.float .f32 x] w fun e w' => e = .returned (.bool (finB .f32 x)) ∧ ∃ n, w' = w.drewN n := by
  cases hn : nanB .f32 x
  · have hc := cv_some hn
    have HW := Lib.hid (wide_wf hn wx)
    have HF := Lib.hid (wide_fin hn)
    clear hn wx
    go_enter Try.func31, Try.ntmps31
    go_wp2_with fail
    refine (isFiniteWide_any _ _ HW.out).mono ?_
    rintro e w' ⟨rfl, rfl⟩
    go_wp2_with fail
    go_ret
    exact ⟨ret_bool HF.out, 0, rfl⟩
  · have hc := cv_nan hn
    have HF := Lib.hid (fin_not_nan hn)
    have HN := Lib.hid (fun W => fin_not_nan (nanOf_conv .f64 x W))
    clear hn wx
    go_enter Try.func31, Try.ntmps31
    go_wp2_with fail
    refine (isFiniteWide_any _ _ (nanOf_wf _ _ _)).mono ?_
    rintro e w' ⟨rfl, rfl⟩
    go_wp2_with fail
    go_ret
    exact ⟨ret_bool (by rw [HF.out]; exact HN.out _), 1, rfl⟩
theorem sub_self_fin {x : Nat} (h : finB .f32 x = true) : floatBits .sub .f32 x x = some 0 := by
  unfold finB at h
  show Ieee.single.sub x x = some 0
  unfold Ieee.Format.sub
  cases hx : FloatKind.f32.decode x with
  | number s m p =>
    rw [show Ieee.single.read x = _ from hx]
    show some (Ieee.single.write (.number _ _ _)) = some 0
    have e : Ieee.signed s m (p - min p p).toNat + Ieee.signed (!s) m (p - min p p).toNat = 0 := by
      unfold Ieee.signed
      cases s <;> simp <;> omega
    rw [e]
    cases s <;> rfl
  | infinity s => rw [hx] at h; cases h
  | nan s t => rw [hx] at h; cases h
theorem sub_self_not {x : Nat} (h : finB .f32 x = false) : floatBits .sub .f32 x x = none := by
  unfold finB at h
  show Ieee.single.sub x x = none
  unfold Ieee.Format.sub
  cases hx : FloatKind.f32.decode x with
  | number s m p => rw [hx] at h; cases h
  | infinity s => rw [show Ieee.single.read x = _ from hx]; cases s <;> rfl
  | nan s t => rw [show Ieee.single.read x = _ from hx]; rfl
theorem l01Finite_any (x : Nat) (w : World) : Calls Try.prog 35 #[.float .f32 x] w fun e w' => e = .returned (.bool (finB .f32 x)) ∧ ∃ n, w' = w.drewN n := by
  cases hf : finB .f32 x
  · have hq := fun W => run_arith_nan (P := Try.prog) .sub 28 .f32 x x (by simp) (sub_self_not hf) W
    have HO := Lib.hid (fun W => order_nan_left 0 (nanOf_bits .f32 x x W))
    clear hf
    go_enter Try.func35, Try.ntmps35
    go_wp2_with fail
    go_ret
    exact ⟨ret_bool (by show (FloatKind.f32.format.order (nanOf _ _) 0 == some Ordering.eq) = false; rw [HO.out]; rfl), 1, rfl⟩
  · have hq := fun W => run_float_arith (P := Try.prog) W .sub 28 .f32 x x 0 (sub_self_fin hf)
    clear hf
    go_enter Try.func35, Try.ntmps35
    go_wp2_with fail
    go_ret
    exact ⟨rfl, 0, rfl⟩



end Go.Proofs.Ytfmnfidocicjkaa
