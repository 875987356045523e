/- The laws on logarithms and on tenths of decibels. -/
import Derived.Test.YtfmnfidocicjkaaWalkC4
set_option linter.unusedVariables false
namespace Go.Proofs.Ytfmnfidocicjkaa
open Go.RowKit

theorem order0_cases {x : Nat} (hx : x < 2 ^ 32) :
    nanB .f32 x = true ∨ (nanB .f32 x = false ∧ Ieee.single.order x 0 = some .eq) ∨ (nanB .f32 x = false ∧ Ieee.single.order x 0 = some .lt) ∨
      (nanB .f32 x = false ∧ Ieee.single.order x 0 = some .gt ∧ finB .f32 x = true ∧ Pos 1202 1 (wide x) ∧ wide x % 2 ^ 63 = wide x) ∨ (x = 2139095040) := by
  have h0 : Ieee.single.read 0 = .number false 0 (-149) := by decide
  cases hd : FloatKind.f32.decode x with
  | nan s t => left; unfold nanB; rw [hd]; rfl
  | infinity s =>
    right; right
    have hn : nanB .f32 x = false := by unfold nanB; rw [hd]; rfl
    cases s
    · right; right
      have hr : Ieee.single.read x = .infinity false := hd
      rw [Fl.read_parts, sw32, bin32, inf32] at hr
      split at hr
      · cases hr
      · split at hr
        · cases hr
        · split at hr
          · rename_i h3
            injection hr with e
            have : x / 2147483648 % 2 ≠ 1 := by simpa using e
            omega
          · cases hr
    · left
      refine ⟨hn, ?_⟩
      unfold Ieee.Format.order
      rw [show Ieee.single.read x = _ from hd, h0]
      rfl
  | number s m p =>
    right
    have hn : nanB .f32 x = false := by unfold nanB; rw [hd]; rfl
    have hf : finB .f32 x = true := by unfold finB; rw [hd]
    obtain ⟨h1, h2, h3, h4, h5⟩ := fin32 hd
    have ho : Ieee.single.order x 0 = some (compare (Fl.sv s (m * 2 ^ (p + 149).toNat)) 0) := by
      unfold Ieee.Format.order
      rw [show Ieee.single.read x = _ from hd, h0, Fl.order_num (L := -149) h1 (Int.le_refl _)]
      have e : (p - -149).toNat = (p + 149).toNat := by congr 1
      rw [e, Nat.zero_mul]
      rfl
    rw [ho]
    obtain ⟨_, _, hsg, m', p', h6, hp', hv⟩ := wide_num hd
    have hB := B_wide hf
    generalize hX : m * 2 ^ (p + 149).toNat = X at *
    by_cases hz : X = 0
    · left
      refine ⟨hn, ?_⟩
      subst hz
      cases s <;> rfl
    · right
      cases s
      · right; left
        refine ⟨hn, by rw [show Fl.sv false X = (X : Int) from rfl, Int.compare_eq_gt.2 (by omega)], hf, ?_, ?_⟩
        · refine ⟨m', p', h6, hp', ?_, ?_⟩
          · obtain ⟨s2, m2, p2, r2, hp2, hb2⟩ := hB
            rw [show Ieee.double.read (wide x) = _ from h6] at r2
            injection r2 with a b c
            rw [least64] at hb2
            have e : (p2 - -1074).toNat = (p2 + 1074).toNat := by congr 1
            rw [e, ← b, ← c] at hb2
            exact hb2
          · rw [hv]
            have h9 : 2 ^ 1 ≤ 2 ^ k925 := Nat.pow_le_pow_right (by omega) (by unfold k925; omega)
            exact Nat.le_trans h9 (Nat.le_mul_of_pos_left _ (by omega))
        · have : wide x / 2 ^ 63 = 0 := by rw [hsg]; rfl
          omega
      · left
        exact ⟨hn, by rw [show Fl.sv true X = -(X : Int) from rfl, Int.compare_eq_lt.2 (by omega)]⟩

/-- What the laws need of the two ends of a comparison. -/
theorem eq_false_of {o : Option Ordering} {a b : Ordering} (h : o = some a) (hne : a ≠ b) : (o == some b) = false := by
  rw [h]; cases a <;> cases b <;> first | rfl | exact absurd rfl hne
theorem eq_true_of {o : Option Ordering} {a : Ordering} (h : o = some a) : (o == some a) = true := by rw [h]; cases a <;> rfl
theorem none_false {o : Option Ordering} {b : Ordering} (h : o = none) : (o == some b) = false := by rw [h]; rfl

theorem logV_bd {x : Nat} (h : Pos 1202 1 x) (w : World) : B 1089 (logV x) := by
  -- the same rounds, without a program
  have d : ∀ n k y, n = 129 - k → k ≤ 128 → Pos (1202 - k) 1 y → ∃ k' y', k' ≤ 128 ∧ downV n y k = (y', k') ∧ Pos 1075 1 y' := by
    intro n
    induction n with
    | zero => intro k y h1 h2; omega
    | succ n ih =>
      intro k y h1 h2 h3
      cases hg : geB y c15
      · exact ⟨k, y, h2, by show (if geB y c15 then _ else _) = _; rw [hg]; rfl, down_end h3 hg⟩
      · obtain ⟨hk, _, hp⟩ := down_step h3 h2 hg
        obtain ⟨k', y', a, b, c⟩ := ih (k + 1) (fd y two) (by omega) (by omega) hp
        exact ⟨k', y', a, by show (if geB y c15 then _ else _) = _; rw [hg]; exact b, c⟩
  have u : ∀ n j y (e : Int), n = 1075 - j → j ≤ 1074 → Pos 1075 (1 + j) y → 0 ≤ e + j → e + j ≤ 200 → ∃ j' y' e', upV n y e = (y', e') ∧ Pos 1075 (1 + j') y' ∧ -2048 ≤ e' ∧ e' ≤ 2048 := by
    intro n
    induction n with
    | zero => intro j y e h1 h2; omega
    | succ n ih =>
      intro j y e h1 h2 h3 h4 h5
      cases hl : ltB y c075
      · refine ⟨j, y, e, by show (if ltB y c075 then _ else _) = _; rw [hl]; rfl, h3, ?_, ?_⟩
        · omega
        · omega
      · obtain ⟨hj, _, _, hp⟩ := up_step h3 hl
        obtain ⟨j', y', e', a, b, c, d⟩ := ih (j + 1) (fa y y) (e - 1) (by omega) (by omega) hp (by omega) (by omega)
        exact ⟨j', y', e', by show (if ltB y c075 then _ else _) = _; rw [hl]; exact a, b, c, d⟩
  obtain ⟨k', y', a, b, c⟩ := d 129 0 x rfl (by omega) (show Pos (1202 - 0) 1 x from h)
  obtain ⟨j', y2, e', a2, b2, c2, d2⟩ := u 1075 0 y' (k' : Int) rfl (by omega) (show Pos 1075 (1 + 0) y' from c) (by omega) (by omega)
  have : logV x = logEnd y2 e' := by
    unfold logV
    rw [b]
    show logEnd (upV 1075 y' k').1 (upV 1075 y' k').2 = _
    rw [a2]
  rw [this]
  exact (log_ok b2 c2 d2).2.2.2.2.2.2.2

theorem l01Log_val {x v r : Nat} (w : World) (hn : nanB .f32 x = false) (hw : ∀ W, Calls Try.prog 52 #[.float .f64 (wide x)] W fun e w' => e = .returned (.float .f64 r) ∧ W = w')
    (hr : floatToFloatBits .f64 r .f32 = some v) : Calls Try.prog 42 #[.float .f32 x] w fun e w' => e = .returned (.float .f32 v) ∧ w = w' := by
  have c := cv_some hn
  have c2 := fun W => run_convert_float_float (P := Try.prog) W 22 28 _ _ _ _ (by rw [Try.underlying22]; rfl) Try.underlying28 hr
  have HW := Lib.hid hw
  clear hn hw hr
  go_enter Try.func42, Try.ntmps42
  go_wp2_with fail
  refine (HW.out _).mono ?_
  rintro e w' ⟨rfl, rfl⟩
  go_wp2_with go_in
  go_ret
  exact ⟨rfl, rfl⟩
theorem l01Log_nan {x : Nat} (w : World) (h : nanB .f32 x = true ∨ (nanB .f32 x = false ∧ Ieee.single.order x 0 = some .lt)) : Calls Try.prog 42 #[.float .f32 x] w fun e w' => SomeNaN .f32 e ∧ ∃ n, w' = w.drewN n := by
  rcases h with hn | ⟨hn, hl⟩
  · have c := cv_nan hn
    clear hn
    go_enter Try.func42, Try.ntmps42
    go_wp2_with fail
    refine (specLog_nan _ _ (nanOf_conv _ _ _)).mono ?_
    rintro e w' ⟨rfl, rfl⟩
    go_wp2_with fail
    refine (l01Narrow_nan (by decide) _).mono ?_
    rintro e w' ⟨⟨r, rfl, hr⟩, m, rfl⟩
    have HR := Lib.hid hr
    clear hr
    go_wp2_with fail
    go_ret
    exact ⟨⟨_, rfl, HR.out⟩, _, rfl⟩
  · have c := cv_some hn
    have HW := Lib.hid (fun W => specLog_neg (wide x) W (wide_some hn).2 (by rw [show FloatKind.f64.format = Ieee.double from rfl, wide_ord0 hn]; exact eq_true_of hl))
    clear hn hl
    go_enter Try.func42, Try.ntmps42
    go_wp2_with fail
    refine (HW.out _).mono ?_
    rintro e w' ⟨rfl, rfl⟩
    go_wp2_with fail
    refine (l01Narrow_nan (by decide) _).mono ?_
    rintro e w' ⟨⟨r, rfl, hr⟩, m, rfl⟩
    have HR := Lib.hid hr
    clear hr
    go_wp2_with fail
    go_ret
    exact ⟨⟨_, rfl, HR.out⟩, _, rfl⟩

/-- A positive widened number against the least and the greatest. -/
theorem pos_tests {x : Nat} (hn : nanB .f32 x = false) (hg : Ieee.single.order x 0 = some .gt) (hf : finB .f32 x = true) (hm : wide x % 2 ^ 63 = wide x) :
    (FloatKind.f64.format.order (wide x) 0 == some .lt) = false ∧ (FloatKind.f64.format.order (wide x) 0 == some .eq) = false ∧ (FloatKind.f64.format.order (wide x) 9218868437227405311 == some .gt) = false := by
  refine ⟨?_, ?_, ?_⟩
  · rw [show FloatKind.f64.format = Ieee.double from rfl, wide_ord0 hn, hg]; rfl
  · rw [show FloatKind.f64.format = Ieee.double from rfl, wide_ord0 hn, hg]; rfl
  · have := order_max (y := wide x) (wide_some hn).2
    rw [hm, wide_fin hn, hf] at this
    exact this

theorem implLog_zero {x : Nat} (w : World) (h : Ieee.single.order x 0 = some .eq) : Calls Try.prog 22 #[.float .f32 x] w fun e w' => e = .returned (.float .f32 4286578688) ∧ w = w' := by
  have k : (FloatKind.f32.format.order x 0 == some .eq) = true := eq_true_of h
  have hr : floatToFloatBits .f64 minusInf .f32 = some 4286578688 := by decide
  have c2 := fun W => run_convert_float_float (P := Try.prog) W 22 28 _ _ _ _ (by rw [Try.underlying22]; rfl) Try.underlying28 hr
  clear h hr
  go_enter Try.func22, Try.ntmps22
  go_wp2_with fail
  refine (Inf_minus _).mono ?_
  rintro e w' ⟨rfl, rfl⟩
  go_wp2_with fail
  go_ret
  exact ⟨rfl, rfl⟩
theorem implLog_fin {x : Nat} (w : World) (wx : (Lit.float .f32 x).wf = true) (hn : nanB .f32 x = false) (hg : Ieee.single.order x 0 = some .gt) (hf : finB .f32 x = true) (hp : Pos 1202 1 (wide x)) :
    Calls Try.prog 22 #[.float .f32 x] w fun e w' => e = .returned (.float .f32 (narrow (logV (wide x)))) ∧ ∃ n, w' = w.drewN n := by
  have k1 : (FloatKind.f32.format.order x 0 == some .eq) = false := eq_false_of hg (by decide)
  have k2 : (FloatKind.f32.format.order x 0 == some .gt) = true := eq_true_of hg
  have HI := Lib.hid (fun W => implIsFinite_any x W wx)
  rw [hf] at HI
  have c := cv_some hn
  have HL := Lib.hid (fun W => wideLog_any (wide x) W hp)
  have HN := Lib.hid (fun W => Narrow_bd (logV_bd hp default) (by omega) W)
  clear wx hn hg hf hp
  go_enter Try.func22, Try.ntmps22
  go_wp2_with fail
  refine (HI.out _).mono ?_
  rintro e w' ⟨rfl, n, rfl⟩
  go_wp2_with fail
  refine (HL.out _).mono ?_
  rintro e w' ⟨rfl, rfl⟩
  go_wp2_with fail
  refine (HN.out _).mono ?_
  rintro e w' ⟨rfl, rfl⟩
  go_wp2_with fail
  go_ret
  exact ⟨rfl, _, rfl⟩
theorem implLog_inf (w : World) : Calls Try.prog 22 #[.float .f32 2139095040] w fun e w' => e = .returned (.float .f32 2139095040) ∧ ∃ n, w' = w.drewN n := by
  have k1 : (FloatKind.f32.format.order 2139095040 0 == some .eq) = false := by decide
  have k2 : (FloatKind.f32.format.order 2139095040 0 == some .gt) = true := by decide
  have HI := Lib.hid (fun W => implIsFinite_any 2139095040 W (by decide))
  rw [show finB .f32 2139095040 = false by decide] at HI
  go_enter Try.func22, Try.ntmps22
  go_wp2_with fail
  refine (HI.out _).mono ?_
  rintro e w' ⟨rfl, n, rfl⟩
  go_wp2_with fail
  go_ret
  exact ⟨rfl, _, rfl⟩
theorem implLog_nan {x : Nat} (w : World) (h1 : (FloatKind.f32.format.order x 0 == some .eq) = false) (h2 : (FloatKind.f32.format.order x 0 == some .gt) = false) : Calls Try.prog 22 #[.float .f32 x] w fun e w' => e = .returned (.float .f32 2143289344) ∧ w = w' := by
  go_enter Try.func22, Try.ntmps22
  go_wp2_with fail
  refine (notANumber_any _).mono ?_
  rintro e w' ⟨rfl, rfl⟩
  go_wp2_with fail
  go_ret
  exact ⟨rfl, rfl⟩

theorem specLogNumber_of {x : Nat} {w : World} {R : Ending → World → Prop} (h : Calls Try.prog 42 #[.float .f32 x] w fun e w' => (∃ r, e = .returned (.float .f32 r)) ∧ R e w') :
    Calls Try.prog 21 #[.float .f32 x] w (Wrap R) := by
  have H := Lib.hid h
  clear h
  go_enter Try.func21, Try.ntmps21
  go_wp2_with fail
  refine H.out.mono ?_
  rintro e w' ⟨⟨r, rfl⟩, hr⟩
  have HR := Lib.hid hr
  clear hr
  go_wp2_with fail
  go_ret
  exact HR.out

theorem fnExactLogNumber.walk (x : Nat) (w : World) (wx : (Lit.float .f32 x).wf = true) : Calls Try.prog 8 #[.float .f32 x] w fun e w' => e = .returned (.bool true) ∧ Below w.heap.size w w' := by
  have hsplit : (∃ v, nanB .f32 v = false ∧ (∀ W, Calls Try.prog 21 #[.float .f32 x] W fun e w' => e = .returned (.float .f32 v) ∧ W = w') ∧ (∀ W, Calls Try.prog 22 #[.float .f32 x] W fun e w' => e = .returned (.float .f32 v) ∧ ∃ n, w' = W.drewN n)) ∨
      ((∀ W, Calls Try.prog 21 #[.float .f32 x] W fun e w' => SomeNaN .f32 e ∧ ∃ n, w' = W.drewN n) ∧ (∀ W, Calls Try.prog 22 #[.float .f32 x] W fun e w' => e = .returned (.float .f32 2143289344) ∧ W = w')) := by
    rcases order0_cases (lt_of_wf32 wx) with hn | ⟨hn, ho⟩ | ⟨hn, ho⟩ | ⟨hn, ho, hf, hp, hm⟩ | rfl
    · right
      exact ⟨fun W => specLogNumber_of ((l01Log_nan W (.inl hn)).mono fun e w' h => ⟨⟨h.1.choose, h.1.choose_spec.1⟩, h⟩),
        fun W => implLog_nan W (none_false (order_nan_left 0 hn)) (none_false (order_nan_left 0 hn))⟩
    · left
      refine ⟨4286578688, by decide, fun W => specLogNumber_of ((l01Log_val (r := minusInf) W hn (fun W' => specLog_zero (wide x) W' (wide_some hn).2 (by rw [show FloatKind.f64.format = Ieee.double from rfl, wide_ord0 hn, ho]; rfl) (by rw [show FloatKind.f64.format = Ieee.double from rfl, wide_ord0 hn, ho]; rfl)) (by decide)).mono fun e w' h => ⟨⟨_, h.1⟩, h⟩), fun W => (implLog_zero W ho).mono fun e w' h => ⟨h.1, 0, h.2.symm⟩⟩
    · right
      exact ⟨fun W => specLogNumber_of ((l01Log_nan W (.inr ⟨hn, ho⟩)).mono fun e w' h => ⟨⟨h.1.choose, h.1.choose_spec.1⟩, h⟩), fun W => implLog_nan W (eq_false_of ho (by decide)) (eq_false_of ho (by decide))⟩
    · left
      obtain ⟨t1, t2, t3⟩ := pos_tests hn ho hf hm
      have hb := narrow_bd (logV_bd hp default) (by omega)
      exact ⟨_, hb.2, fun W => specLogNumber_of ((l01Log_val W hn (fun W' => specLog_any (wide x) W' hp (wide_some hn).2 t1 t2 t3) hb.1).mono fun e w' h => ⟨⟨_, h.1⟩, h⟩), fun W => implLog_fin W wx hn ho hf hp⟩
    · left
      have hn : nanB .f32 2139095040 = false := by decide
      refine ⟨2139095040, hn, fun W => specLogNumber_of ((l01Log_val (r := wide 2139095040) W hn (fun W' => specLog_inf (wide 2139095040) W' (by decide) (by decide) (by decide) (by decide)) (by decide)).mono fun e w' h => ⟨⟨_, h.1⟩, h⟩), fun W => implLog_inf W⟩
  clear wx
  rcases hsplit with ⟨v, hv, H1, H2⟩ | ⟨H1, H2⟩
  · have hc := cv_some hv
    have HS := Lib.hid (same_wide hv)
    have K1 := Lib.hid H1
    have K2 := Lib.hid H2
    clear H1 H2 hv
    go_enter Try.func8, Try.ntmps8
    go_wp2_with fail
    refine (K1.out _).mono ?_
    rintro e w' ⟨rfl, rfl⟩
    go_wp2_with fail
    refine (K2.out _).mono ?_
    rintro e w' ⟨rfl, n, rfl⟩
    go_wp2_with fail
    refine (sameFloat_any _ _ _ HS.out).mono ?_
    rintro e w' ⟨rfl, rfl⟩
    go_wp2_with fail
    go_ret
    exact ⟨rfl, below_drewN (Below.refl _ _) _⟩
  · have K1 := Lib.hid H1
    have K2 := Lib.hid H2
    have c2 := cv_nan (show nanB .f32 2143289344 = true by decide)
    clear H1 H2
    go_enter Try.func8, Try.ntmps8
    go_wp2_with fail
    refine (K1.out _).mono ?_
    rintro e w' ⟨⟨r, rfl, hr⟩, n, rfl⟩
    have c1 := cv_nan hr
    clear hr
    go_wp2_with fail
    refine (K2.out _).mono ?_
    rintro e w' ⟨rfl, rfl⟩
    go_wp2_with fail
    refine (sameFloat_any _ _ _ (.inr ⟨nanOf_conv _ _ _, nanOf_conv _ _ _⟩)).mono ?_
    rintro e w' ⟨rfl, rfl⟩
    go_wp2_with fail
    go_ret
    exact ⟨rfl, below_drewN (Below.refl _ _) _⟩

end Go.Proofs.Ytfmnfidocicjkaa
