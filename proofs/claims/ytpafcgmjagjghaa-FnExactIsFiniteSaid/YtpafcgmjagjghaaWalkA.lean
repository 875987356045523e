/- Contracts and walks of the laws on single float32 numbers: the program answers as the model. -/
import Derived.Test.YtpafcgmjagjghaaSameF
set_option linter.unusedVariables false
namespace Go.Proofs.Ytpafcgmjagjghaa
open Go.RowKit

theorem same_wide {v : Nat} (h : nanB .f32 v = false) : Same64 (wide v) (wide v) := .inl ⟨rfl, (wide_some h).2⟩

set_option maxRecDepth 100000 in
theorem Abs_any (y : Nat) (w : World) (wy : (Lit.float .f64 y).wf = true) : Calls Try.prog 35 #[.float .f64 y] w fun e w' => e = .returned (.float .f64 (y % 2 ^ 63)) ∧ w = w' := by
  have HY := Lib.hid (bits_abs (lt_of_wf64 wy))
  clear wy
  go_enter Try.func35, Try.ntmps35
  go_wp2
  go_ret
  exact ⟨ret_float HY.out, rfl⟩

/-- The greatest finite float64 is not less than a finite one. -/
theorem order_max {y : Nat} (hn : nanB .f64 y = false) : (Ieee.double.order (y % 2 ^ 63) 9218868437227405311 == some .gt) = !finB .f64 y := by
  have hc : Ieee.double.read 9218868437227405311 = .number false 9007199254740991 971 := by decide
  unfold Ieee.Format.order finB
  show _ = !(match Ieee.double.read y with | .number .. => true | _ => false)
  rw [hc, show y % 2 ^ 63 = y % Ieee.double.signWeight from rfl, read_abs]
  cases h : Ieee.double.read y with
  | nan s t => unfold nanB at hn; rw [show FloatKind.f64.decode y = _ from h] at hn; cases hn
  | infinity s => rfl
  | number s m p =>
    obtain ⟨_, h2, h3, h4, _⟩ := Fl.read_fin eb64 h
    rw [least64] at h2 h4
    have hfb : Ieee.double.fractionBits = 52 := rfl
    have heb : Ieee.double.exponentBits = 11 := rfl
    rw [hfb] at h3
    rw [heb] at h4
    show ((Ieee.Datum.number false m p).order (.number false 9007199254740991 971) == some .gt) = false
    rw [Fl.order_num (L := -1074) h2 (by omega)]
    have hle : m * 2 ^ (p - -1074).toNat ≤ 9007199254740991 * 2 ^ (971 - -1074 : Int).toNat := by
      refine Nat.mul_le_mul (by omega) (Nat.pow_le_pow_right (by omega) ?_)
      omega
    generalize m * 2 ^ (p - -1074).toNat = A at *
    generalize 9007199254740991 * 2 ^ (971 - -1074 : Int).toNat = B at *
    by_cases he : A = B
    · subst he
      simp
    · rw [show Fl.sv false A = (A : Int) from rfl, show Fl.sv false B = (B : Int) from rfl, Int.compare_eq_lt.2 (by omega)]
      rfl

set_option maxRecDepth 100000 in
theorem IsInf_any (y : Nat) (w : World) (wy : (Lit.float .f64 y).wf = true) (hn : nanB .f64 y = false) : Calls Try.prog 38 #[.float .f64 y, .int .i64 0] w fun e w' => e = .returned (.bool (!finB .f64 y)) ∧ w = w' := by
  have HO := Lib.hid (order_max hn)
  clear hn
  go_enter Try.func38, Try.ntmps38
  go_wp2_with fail
  refine (Abs_any _ _ wy).mono ?_
  rintro e w' ⟨rfl, rfl⟩
  go_wp2_with fail
  go_ret
  exact ⟨ret_bool HO.out, rfl⟩
theorem fin_not_nan {k : FloatKind} {y : Nat} (h : nanB k y = true) : finB k y = false := by
  unfold nanB at h
  unfold finB
  cases hy : k.decode y with
  | number s m p => rw [hy] at h; cases h
  | infinity s => rfl
  | nan s t => rfl
theorem isFiniteWide_any (y : Nat) (w : World) (wy : (Lit.float .f64 y).wf = true) : Calls Try.prog 27 #[.float .f64 y] w fun e w' => e = .returned (.bool (finB .f64 y)) ∧ w = w' := by
  cases hn : nanB .f64 y
  · have HC := Lib.hid (fun W => IsInf_any y W wy hn)
    have HB := Lib.hid hn
    clear hn
    go_enter Try.func27, Try.ntmps27
    go_wp2_with fail
    refine (IsNaN_any y _).mono ?_
    rintro e w' ⟨rfl, rfl⟩
    rw [HB.out]
    go_wp2_with fail
    refine (HC.out _).mono ?_
    rintro e w' ⟨rfl, rfl⟩
    go_wp2_with fail
    go_ret
    exact ⟨ret_bool (by simp), rfl⟩
  · have HF := Lib.hid (fin_not_nan hn)
    have HB := Lib.hid hn
    clear hn
    go_enter Try.func27, Try.ntmps27
    go_wp2_with fail
    refine (IsNaN_any y _).mono ?_
    rintro e w' ⟨rfl, rfl⟩
    rw [HB.out]
    go_wp2_with fail
    go_ret
    exact ⟨ret_bool HF.out.symm, rfl⟩
theorem wide_wf {x : Nat} (h : nanB .f32 x = false) (wx : (Lit.float .f32 x).wf = true) : (Lit.float .f64 (wide x)).wf = true := floatToFloatBits_wf wx (wide_some h).1
theorem nanOf_wf (k : FloatKind) (b : Nat) (w : World) : (Lit.float k (nanOf (.nanConv k b) w)).wf = true := by
  cases k
  · have : nanOf (.nanConv .f32 b) w < 2 ^ 32 := by
      show (w.tape w.drawn _ % 2) * 2 ^ 31 + 0x7f800000 + 1 + (w.tape w.drawn _ / 2) % (2 ^ 23 - 1) < 2 ^ 32
      omega
    simp [Lit.wf, this]
  · have : nanOf (.nanConv .f64 b) w < 2 ^ 64 := by
      show (w.tape w.drawn _ % 2) * 2 ^ 63 + 0x7ff0000000000000 + 1 + (w.tape w.drawn _ / 2) % (2 ^ 52 - 1) < 2 ^ 64
      omega
    simp [Lit.wf, this]
theorem wide_fin {x : Nat} (h : nanB .f32 x = false) : finB .f64 (wide x) = finB .f32 x := by
  unfold nanB at h
  unfold finB
  cases hx : FloatKind.f32.decode x with
  | number s m p => obtain ⟨_, _, _, m', p', h2, _⟩ := wide_num hx; rw [h2]
  | infinity s => rw [(wide_inf hx).2.2]
  | nan s t => rw [hx] at h; cases h
theorem implIsFinite_any (x : Nat) (w : World) (wx : (Lit.float .f32 x).wf = true) : Calls Try.prog 13 #[.float .f32 x] w fun e w' => e = .returned (.bool (finB .f32 x)) ∧ ∃ n, w' = w.drewN n := by
  cases hn : nanB .f32 x
  · have hc := cv_some hn
    have HW := Lib.hid (wide_wf hn wx)
    have HF := Lib.hid (wide_fin hn)
    clear hn wx
    go_enter Try.func13, Try.ntmps13
    go_wp2_with fail
    refine (isFiniteWide_any _ _ HW.out).mono ?_
    rintro e w' ⟨rfl, rfl⟩
    go_wp2_with fail
    go_ret
    exact ⟨ret_bool HF.out, 0, rfl⟩
  · have hc := cv_nan hn
    have HF := Lib.hid (fin_not_nan hn)
    have HN := Lib.hid (fun W => fin_not_nan (nanOf_conv .f64 x W))
    clear hn wx
    go_enter Try.func13, Try.ntmps13
    go_wp2_with fail
    refine (isFiniteWide_any _ _ (nanOf_wf _ _ _)).mono ?_
    rintro e w' ⟨rfl, rfl⟩
    go_wp2_with fail
    go_ret
    exact ⟨ret_bool (by rw [HF.out]; exact HN.out _), 1, rfl⟩
theorem sub_self_fin {x : Nat} (h : finB .f32 x = true) : floatBits .sub .f32 x x = some 0 := by
  unfold finB at h
  show Ieee.single.sub x x = some 0
  unfold Ieee.Format.sub
  cases hx : FloatKind.f32.decode x with
  | number s m p =>
    rw [show Ieee.single.read x = _ from hx]
    show some (Ieee.single.write (.number _ _ _)) = some 0
    have e : Ieee.signed s m (p - min p p).toNat + Ieee.signed (!s) m (p - min p p).toNat = 0 := by
      unfold Ieee.signed
      cases s <;> simp <;> omega
    rw [e]
    cases s <;> rfl
  | infinity s => rw [hx] at h; cases h
  | nan s t => rw [hx] at h; cases h
theorem sub_self_not {x : Nat} (h : finB .f32 x = false) : floatBits .sub .f32 x x = none := by
  unfold finB at h
  show Ieee.single.sub x x = none
  unfold Ieee.Format.sub
  cases hx : FloatKind.f32.decode x with
  | number s m p => rw [hx] at h; cases h
  | infinity s => rw [show Ieee.single.read x = _ from hx]; cases s <;> rfl
  | nan s t => rw [show Ieee.single.read x = _ from hx]; rfl
theorem l01Finite_any (x : Nat) (w : World) : Calls Try.prog 26 #[.float .f32 x] w fun e w' => e = .returned (.bool (finB .f32 x)) ∧ ∃ n, w' = w.drewN n := by
  cases hf : finB .f32 x
  · have hq := fun W => run_arith_nan (P := Try.prog) .sub 22 .f32 x x (by simp) (sub_self_not hf) W
    have HO := Lib.hid (fun W => order_nan_left 0 (nanOf_bits .f32 x x W))
    clear hf
    go_enter Try.func26, Try.ntmps26
    go_wp2_with fail
    go_ret
    exact ⟨ret_bool (by show (FloatKind.f32.format.order (nanOf _ _) 0 == some Ordering.eq) = false; rw [HO.out]; rfl), 1, rfl⟩
  · have hq := fun W => run_float_arith (P := Try.prog) W .sub 22 .f32 x x 0 (sub_self_fin hf)
    clear hf
    go_enter Try.func26, Try.ntmps26
    go_wp2_with fail
    go_ret
    exact ⟨rfl, 0, rfl⟩
theorem specIsFinite_any (x : Nat) (w : World) : Calls Try.prog 12 #[.float .f32 x] w fun e w' => e = .returned (.bool (finB .f32 x)) ∧ ∃ n, w' = w.drewN n := by
  go_enter Try.func12, Try.ntmps12
  go_wp2_with fail
  refine (l01Finite_any _ _).mono ?_
  rintro e w' ⟨rfl, n, rfl⟩
  go_wp2_with fail
  go_ret
  exact ⟨rfl, _, rfl⟩
theorem fnExactIsFinite.walk (x : Nat) (w : World) (wx : (Lit.float .f32 x).wf = true) : Calls Try.prog 4 #[.float .f32 x] w fun e w' => e = .returned (.bool true) ∧ Below w.heap.size w w' := by
  go_enter Try.func4, Try.ntmps4
  go_wp2_with fail
  refine (specIsFinite_any x _).mono ?_
  rintro e w' ⟨rfl, n, rfl⟩
  go_wp2_with fail
  refine (implIsFinite_any x _ wx).mono ?_
  rintro e w' ⟨rfl, m, rfl⟩
  go_wp2_with fail
  go_ret
  exact ⟨rfl, below_drewN (Below.refl _ _) _⟩
theorem specBitsOf_any (x : Nat) (w : World) (wx : (Lit.float .f32 x).wf = true) : Calls Try.prog 14 #[.float .f32 x] w fun e w' => e = .returned (.int .i64 (bitsV x)) ∧ w = w' := by
  go_enter Try.func14, Try.ntmps14
  go_wp2_with fail
  refine (l01Bits_any x _ wx).mono ?_
  rintro e w' ⟨rfl, rfl⟩
  go_wp2_with fail
  go_ret
  exact ⟨rfl, rfl⟩
theorem fnExactBitsOf.walk (x : Nat) (w : World) (wx : (Lit.float .f32 x).wf = true) : Calls Try.prog 5 #[.float .f32 x] w fun e w' => e = .returned (.bool true) ∧ Below w.heap.size w w' := by
  go_enter Try.func5, Try.ntmps5
  go_wp2_with fail
  refine (specBitsOf_any x _ wx).mono ?_
  rintro e w' ⟨rfl, rfl⟩
  go_wp2_with fail
  refine (BitsOf_any x _ wx).mono ?_
  rintro e w' ⟨rfl, m, rfl⟩
  go_wp2_with fail
  go_ret
  exact ⟨rfl, below_drewN (Below.refl _ _) _⟩

theorem bits_exp (x : Nat) (hx : x < 2 ^ 32) : (bits .and .i64 (bitsV x) 2139095040 == 0) = decide (x % 2147483648 < 8388608) := by
  have key : ∀ n : Nat, n < 2 ^ 32 → (bits .and .i64 (n : Int) 2139095040 == 0) = decide (n / 8388608 % 256 = 0) := by
    intro n hn
    have e := i64_and_nat n 2139095040 (by omega) (by decide)
    rw [show ((2139095040 : Nat) : Int) = 2139095040 from rfl] at e
    rw [e, and_exp]
    by_cases h : n / 8388608 % 256 = 0
    · rw [h]; rfl
    · rw [decide_eq_false h]
      exact beq_eq_false_iff_ne.2 (by omega)
  unfold bitsV
  cases hn : nanB .f32 x
  · rw [if_neg (by decide), key x hx]
    congr 1
    exact propext (by omega)
  · rw [nan32_iff] at hn
    have := of_decide_eq_true hn
    rw [if_pos rfl, decide_eq_false (by omega)]
    rw [show (2143289344 : Int) = ((2143289344 : Nat) : Int) from rfl, key 2143289344 (by decide)]
    rfl
theorem subV_zero {x : Nat} (h : x % 2147483648 = 0) : subV x = false := by unfold subV; exact decide_eq_false (by omega)
theorem subV_not {x : Nat} (h : x % 2147483648 ≠ 0) : subV x = decide (x % 2147483648 < 8388608) := by unfold subV; congr 1; exact propext ⟨fun k => k.2, fun k => ⟨h, k⟩⟩
theorem neq_zero32 (x : Nat) : (FloatKind.f32.format.order x 0 != some .eq) = !decide (x % 2147483648 = 0) := by
  show (!(Ieee.single.order x 0 == some .eq)) = _
  rw [order_zero32]

theorem specIsSubnormal_any (x : Nat) (w : World) (wx : (Lit.float .f32 x).wf = true) : Calls Try.prog 21 #[.float .f32 x] w fun e w' => e = .returned (.bool (subV x)) ∧ w = w' := by
  have hne := neq_zero32 x
  by_cases h0 : x % 2147483648 = 0
  · rw [decide_eq_true h0] at hne
    have HS := Lib.hid (subV_zero h0)
    clear h0 wx
    go_enter Try.func21, Try.ntmps21
    go_wp2_with fail
    go_ret
    exact ⟨ret_bool HS.out.symm, rfl⟩
  · rw [decide_eq_false h0] at hne
    have HS := Lib.hid (subV_not h0)
    have HB := Lib.hid (bits_exp x (lt_of_wf32 wx))
    clear h0
    go_enter Try.func21, Try.ntmps21
    go_wp2_with fail
    refine (l01Bits_any x _ wx).mono ?_
    rintro e w' ⟨rfl, rfl⟩
    go_wp2_with fail
    go_ret
    exact ⟨ret_bool (by rw [HS.out]; exact HB.out), rfl⟩

theorem order_nan_any (y c : Nat) (h : nanB .f64 y = true) : (FloatKind.f64.format.order y c == some .lt) = false := by rw [order_nan_left c h]; rfl

theorem implIsSubnormal_any (x : Nat) (w : World) (wx : (Lit.float .f32 x).wf = true) : Calls Try.prog 22 #[.float .f32 x] w fun e w' => e = .returned (.bool (subV x)) ∧ ∃ n, w' = w.drewN n := by
  have hne := neq_zero32 x
  by_cases h0 : x % 2147483648 = 0
  · rw [decide_eq_true h0] at hne
    have HS := Lib.hid (subV_zero h0)
    clear h0 wx
    go_enter Try.func22, Try.ntmps22
    go_wp2_with fail
    go_ret
    exact ⟨ret_bool HS.out.symm, 0, rfl⟩
  · rw [decide_eq_false h0] at hne
    have HS := Lib.hid (subV_not h0)
    clear h0
    cases hn : nanB .f32 x
    · have hc := cv_some hn
      have HW := Lib.hid (wide_wf hn wx)
      have HO := Lib.hid (order_sub hn)
      clear hn wx
      go_enter Try.func22, Try.ntmps22
      go_wp2_with fail
      refine (Abs_any _ _ HW.out).mono ?_
      rintro e w' ⟨rfl, rfl⟩
      go_wp2_with fail
      go_ret
      exact ⟨ret_bool (by rw [HS.out]; exact HO.out), 0, rfl⟩
    · have hc := cv_nan hn
      have HN := Lib.hid (fun W => nanOf_conv .f64 x W)
      rw [nan32_iff] at hn
      have HL := Lib.hid (of_decide_eq_true hn)
      clear hn wx
      go_enter Try.func22, Try.ntmps22
      go_wp2_with fail
      refine (Abs_any _ _ (nanOf_wf _ _ _)).mono ?_
      rintro e w' ⟨rfl, rfl⟩
      go_wp2_with fail
      go_ret
      refine ⟨ret_bool ?_, 1, rfl⟩
      rw [HS.out, decide_eq_false (by have := HL.out; omega)]
      exact order_nan_any _ _ (by rw [nan_abs]; exact HN.out _)
theorem fnExactIsSubnormal.walk (x : Nat) (w : World) (wx : (Lit.float .f32 x).wf = true) : Calls Try.prog 8 #[.float .f32 x] w fun e w' => e = .returned (.bool true) ∧ Below w.heap.size w w' := by
  go_enter Try.func8, Try.ntmps8
  go_wp2_with fail
  refine (specIsSubnormal_any x _ wx).mono ?_
  rintro e w' ⟨rfl, rfl⟩
  go_wp2_with fail
  refine (implIsSubnormal_any x _ wx).mono ?_
  rintro e w' ⟨rfl, m, rfl⟩
  go_wp2_with fail
  go_ret
  exact ⟨rfl, below_drewN (Below.refl _ _) _⟩

theorem specFrom_no (n : Int) (w : World) (h : n < 0 ∨ 4294967295 < n) : Calls Try.prog 16 #[.int .i64 n] w fun e w' => e = .returned (.tuple #[.float .f32 0, .bool false]) ∧ w = w' := by
  by_cases h0 : 0 ≤ n
  · have h1 : ¬ n ≤ 4294967295 := by omega
    clear h
    go_enter Try.func16, Try.ntmps16
    go_wp2
    go_ret2
    exact ⟨rfl, rfl⟩
  · clear h
    go_enter Try.func16, Try.ntmps16
    go_wp2
    go_ret2
    exact ⟨rfl, rfl⟩
theorem specFrom_yes (n : Int) (w : World) (h0 : 0 ≤ n) (h1 : n ≤ 4294967295) : Calls Try.prog 16 #[.int .i64 n] w fun e w' => e = .returned (.tuple #[.float .f32 n.toNat, .bool true]) ∧ w = w' := by
  go_enter Try.func16, Try.ntmps16
  go_wp2
  go_ret2
  exact ⟨rfl, rfl⟩
theorem implFrom_no (n : Int) (w : World) (h : n < 0 ∨ 4294967295 < n) : Calls Try.prog 17 #[.int .i64 n] w fun e w' => e = .returned (.tuple #[.float .f32 0, .bool false]) ∧ w = w' := by
  by_cases h0 : n < 0
  · clear h
    go_enter Try.func17, Try.ntmps17
    go_wp2
    go_ret2
    exact ⟨rfl, rfl⟩
  · have h1 : 4294967295 < n := by omega
    clear h
    go_enter Try.func17, Try.ntmps17
    go_wp2
    go_ret2
    exact ⟨rfl, rfl⟩
theorem implFrom_yes (n : Int) (w : World) (h0 : 0 ≤ n) (h1 : n ≤ 4294967295) : Calls Try.prog 17 #[.int .i64 n] w fun e w' => e = .returned (.tuple #[.float .f32 n.toNat, .bool true]) ∧ w = w' := by
  have h2 : ¬ n < 0 := by omega
  have h3 : ¬ 4294967295 < n := by omega
  go_enter Try.func17, Try.ntmps17
  go_wp2
  go_ret2
  exact ⟨rfl, rfl⟩
theorem fnExactFromBits.walk (n : Int) (w : World) (wn : (Lit.int .i64 n).wf = true) : Calls Try.prog 6 #[.int .i64 n] w fun e w' => e = .returned (.bool true) ∧ Below w.heap.size w w' := by
  by_cases h : n < 0 ∨ 4294967295 < n
  · have hn : nanB .f32 0 = false := by decide
    have hc := cv_some hn
    have HS := Lib.hid (same_wide hn)
    clear hn
    go_enter Try.func6, Try.ntmps6
    go_wp2_with fail
    refine (specFrom_no n _ h).mono ?_
    rintro e w' ⟨rfl, rfl⟩
    go_wp2_with fail
    refine (implFrom_no n _ h).mono ?_
    rintro e w' ⟨rfl, rfl⟩
    go_wp2_with fail
    refine (sameFloat_any _ _ _ HS.out).mono ?_
    rintro e w' ⟨rfl, rfl⟩
    go_wp2_with fail
    go_ret
    exact ⟨rfl, Below.refl _ _⟩
  · have h0 : 0 ≤ n := by omega
    have h1 : n ≤ 4294967295 := by omega
    clear h
    cases hn : nanB .f32 n.toNat
    · have hc := cv_some hn
      have HS := Lib.hid (same_wide hn)
      clear hn
      go_enter Try.func6, Try.ntmps6
      go_wp2_with fail
      refine (specFrom_yes n _ h0 h1).mono ?_
      rintro e w' ⟨rfl, rfl⟩
      go_wp2_with fail
      refine (implFrom_yes n _ h0 h1).mono ?_
      rintro e w' ⟨rfl, rfl⟩
      go_wp2_with fail
      refine (sameFloat_any _ _ _ HS.out).mono ?_
      rintro e w' ⟨rfl, rfl⟩
      go_wp2_with fail
      go_ret
      exact ⟨rfl, Below.refl _ _⟩
    · have hc := cv_nan hn
      clear hn
      go_enter Try.func6, Try.ntmps6
      go_wp2_with fail
      refine (specFrom_yes n _ h0 h1).mono ?_
      rintro e w' ⟨rfl, rfl⟩
      go_wp2_with fail
      refine (implFrom_yes n _ h0 h1).mono ?_
      rintro e w' ⟨rfl, rfl⟩
      go_wp2_with fail
      refine (sameFloat_any _ _ _ (.inr ⟨nanOf_conv _ _ _, nanOf_conv _ _ _⟩)).mono ?_
      rintro e w' ⟨rfl, rfl⟩
      go_wp2_with fail
      go_ret
      exact ⟨rfl, below_drewN (Below.refl _ _) 2⟩
/-- A zero with the sign of x where x is subnormal, else x. -/
def flushV (x : Nat) : Nat := if x % 2147483648 < 8388608 then x / 2147483648 * 2147483648 else x

theorem flush_nan (x : Nat) : nanB .f32 (flushV x) = nanB .f32 x := by
  unfold flushV
  split
  · rename_i h
    rw [nan32_iff, nan32_iff, decide_eq_false (by omega), decide_eq_false (by omega)]
  · rfl
theorem bits_sign (x : Nat) (hx : x < 2 ^ 32) (hn : nanB .f32 x = false) : bits .and .i64 (bitsV x) 2147483648 = ((x / 2147483648 * 2147483648 : Nat) : Int) := by
  unfold bitsV
  rw [hn, if_neg (by decide)]
  have e := i64_and_nat x 2147483648 (by omega) (by decide)
  rw [show ((2147483648 : Nat) : Int) = 2147483648 from rfl] at e
  rw [e, show (2147483648 : Nat) = 2 ^ 31 from rfl, and_sign]
  congr 2
  omega
theorem sign_float {x : Nat} (hx : x < 2 ^ 32) : (x / 2147483648 * 2147483648 = 0 ∨ x / 2147483648 * 2147483648 = 2147483648) := by omega

theorem l01Flush_any (x : Nat) (w : World) (wx : (Lit.float .f32 x).wf = true) : Calls Try.prog 36 #[.float .f32 x] w fun e w' => e = .returned (.float .f32 (flushV x)) ∧ w = w' := by
  have hx := lt_of_wf32 wx
  have hbe := bits_exp x hx
  by_cases h : x % 2147483648 < 8388608
  · rw [decide_eq_true h] at hbe
    have hn : nanB .f32 x = false := by rw [nan32_iff]; exact decide_eq_false (by omega)
    have hbs := bits_sign x hx hn
    have HF := Lib.hid (show flushV x = x / 2147483648 * 2147483648 by unfold flushV; rw [if_pos h])
    generalize hz : x / 2147483648 * 2147483648 = z at *
    have hz1 : (0 : Int) ≤ z := by omega
    have hz2 : (z : Int) ≤ 4294967295 := by omega
    clear hn h hx hz
    go_enter Try.func36, Try.ntmps36
    go_wp2_with fail
    refine (l01Bits_any x _ wx).mono ?_
    rintro e w' ⟨rfl, rfl⟩
    go_wp2_with (go_in)
    go_ret
    exact ⟨ret_float (by rw [HF.out]), rfl⟩
  · rw [decide_eq_false h] at hbe
    have HF := Lib.hid (show flushV x = x by unfold flushV; rw [if_neg h])
    clear h hx
    go_enter Try.func36, Try.ntmps36
    go_wp2_with fail
    refine (l01Bits_any x _ wx).mono ?_
    rintro e w' ⟨rfl, rfl⟩
    go_wp2_with fail
    go_ret
    exact ⟨ret_float (by rw [HF.out]), rfl⟩

theorem Copysign_bits {y : Nat} (hy : y < 2 ^ 64) : (bits .or .u64 (bits .andNot .u64 0 9223372036854775808) (bits .and .u64 (y : Int) 9223372036854775808)).toNat = y / 2 ^ 63 * 2 ^ 63 := by
  have e1 : bits .andNot .u64 0 9223372036854775808 = ((0 : Nat) : Int) := by decide
  have e2 : bits .and .u64 (y : Int) 9223372036854775808 = ((y / 2 ^ 63 * 2 ^ 63 : Nat) : Int) := by
    have e := u64_and_nat y 9223372036854775808 (by omega) (by decide)
    rw [show ((9223372036854775808 : Nat) : Int) = 9223372036854775808 from rfl] at e
    rw [e, show (9223372036854775808 : Nat) = 2 ^ 63 from rfl, and_sign]
    congr 2
    omega
  rw [e1, e2, u64_or_nat 0 _ (by decide) (by omega), Nat.zero_or, Int.toNat_natCast]

set_option maxRecDepth 100000 in
theorem Copysign_any (y : Nat) (w : World) (wy : (Lit.float .f64 y).wf = true) : Calls Try.prog 37 #[.float .f64 0, .float .f64 y] w fun e w' => e = .returned (.float .f64 (y / 2 ^ 63 * 2 ^ 63)) ∧ w = w' := by
  have HC := Lib.hid (Copysign_bits (lt_of_wf64 wy))
  clear wy
  go_enter Try.func37, Try.ntmps37
  go_wp2_with fail
  go_ret
  exact ⟨ret_float HC.out, rfl⟩

theorem narrow_sign {x : Nat} (hx : x < 2 ^ 32) (hn : nanB .f32 x = false) : floatToFloatBits .f64 (wide x / 2 ^ 63 * 2 ^ 63) .f32 = some (x / 2147483648 * 2147483648) := by
  rw [wide_sign hx hn]
  have : x / 2 ^ 31 = 0 ∨ x / 2 ^ 31 = 1 := by omega
  rcases this with h | h
  · rw [h]; decide
  · rw [h]; decide

theorem sub_lt {x : Nat} (h : subV x = true) : x % 2147483648 < 8388608 := by unfold subV at h; exact (of_decide_eq_true h).2
theorem sub_flush {x : Nat} (hx : x < 2 ^ 32) (h : subV x = false) : flushV x = x := by
  unfold subV at h
  have := of_decide_eq_false h
  unfold flushV
  split <;> omega

theorem implFlush_any (x : Nat) (w : World) (wx : (Lit.float .f32 x).wf = true) : Calls Try.prog 24 #[.float .f32 x] w fun e w' => e = .returned (.float .f32 (flushV x)) ∧ ∃ n, w' = w.drewN n := by
  have hx := lt_of_wf32 wx
  have HI := Lib.hid (fun W => implIsSubnormal_any x W wx)
  cases hs : subV x
  · rw [hs] at HI
    have HF := Lib.hid (sub_flush hx hs)
    clear hs wx hx
    go_enter Try.func24, Try.ntmps24
    go_wp2_with fail
    refine (HI.out _).mono ?_
    rintro e w' ⟨rfl, n, rfl⟩
    go_wp2_with fail
    go_ret
    exact ⟨ret_float HF.out.symm, _, rfl⟩
  · rw [hs] at HI
    have hlt := sub_lt hs
    have hn : nanB .f32 x = false := by rw [nan32_iff]; exact decide_eq_false (by omega)
    have HF := Lib.hid (show flushV x = x / 2147483648 * 2147483648 by unfold flushV; rw [if_pos hlt])
    have HW := Lib.hid (wide_wf hn wx)
    have hc := cv_some hn
    have hc2 := fun W => run_convert_float_float (P := Try.prog) W 29 22 _ _ _ _ (by rw [Try.underlying29]; rfl) Try.underlying22 (narrow_sign hx hn)
    clear hs wx hx hlt hn
    go_enter Try.func24, Try.ntmps24
    go_wp2_with fail
    refine (HI.out _).mono ?_
    rintro e w' ⟨rfl, n, rfl⟩
    go_wp2_with fail
    refine (Copysign_any _ _ HW.out).mono ?_
    rintro e w' ⟨rfl, rfl⟩
    go_wp2_with fail
    go_ret
    exact ⟨ret_float HF.out.symm, _, rfl⟩
theorem specFlush_any (x : Nat) (w : World) (wx : (Lit.float .f32 x).wf = true) : Calls Try.prog 23 #[.float .f32 x] w fun e w' => e = .returned (.float .f32 (flushV x)) ∧ w = w' := by
  go_enter Try.func23, Try.ntmps23
  go_wp2_with fail
  refine (l01Flush_any x _ wx).mono ?_
  rintro e w' ⟨rfl, rfl⟩
  go_wp2_with fail
  go_ret
  exact ⟨rfl, rfl⟩
theorem fnExactFlushNumber.walk (x : Nat) (w : World) (wx : (Lit.float .f32 x).wf = true) : Calls Try.prog 9 #[.float .f32 x] w fun e w' => e = .returned (.bool true) ∧ Below w.heap.size w w' := by
  cases hn : nanB .f32 (flushV x)
  · have hc := cv_some hn
    have HS := Lib.hid (same_wide hn)
    clear hn
    go_enter Try.func9, Try.ntmps9
    go_wp2_with fail
    refine (specFlush_any x _ wx).mono ?_
    rintro e w' ⟨rfl, rfl⟩
    go_wp2_with fail
    refine (implFlush_any x _ wx).mono ?_
    rintro e w' ⟨rfl, m, rfl⟩
    go_wp2_with fail
    refine (sameFloat_any _ _ _ HS.out).mono ?_
    rintro e w' ⟨rfl, rfl⟩
    go_wp2_with fail
    go_ret
    exact ⟨rfl, below_drewN (Below.refl _ _) _⟩
  · have hc := cv_nan hn
    clear hn
    go_enter Try.func9, Try.ntmps9
    go_wp2_with fail
    refine (specFlush_any x _ wx).mono ?_
    rintro e w' ⟨rfl, rfl⟩
    go_wp2_with fail
    refine (implFlush_any x _ wx).mono ?_
    rintro e w' ⟨rfl, m, rfl⟩
    go_wp2_with fail
    refine (sameFloat_any _ _ _ (.inr ⟨nanOf_conv _ _ _, nanOf_conv _ _ _⟩)).mono ?_
    rintro e w' ⟨rfl, rfl⟩
    go_wp2_with fail
    go_ret
    exact ⟨rfl, below_drewN (Below.refl _ _) _⟩

end Go.Proofs.Ytpafcgmjagjghaa
