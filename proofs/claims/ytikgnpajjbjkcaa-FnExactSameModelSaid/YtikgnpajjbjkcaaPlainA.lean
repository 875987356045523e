/- Plain facts on the bits of float32 and float64 words: absolute values, subnormal numbers, zeros. -/
import Derived.Test.YtikgnpajjbjkcaaFrun
import Derived.Laws.BitsLemmas
import Derived.Laws.BitsAllLaws
set_option linter.unusedVariables false
namespace Go.Proofs.Ytikgnpajjbjkcaa

theorem sw32 : Ieee.single.signWeight = 2147483648 := by decide
theorem sw64 : Ieee.double.signWeight = 9223372036854775808 := by decide
theorem bin32 : Ieee.single.binade = 8388608 := by decide
theorem bin64 : Ieee.double.binade = 4503599627370496 := by decide
theorem inf32 : Ieee.single.infRung = 2139095040 := by decide
theorem inf64 : Ieee.double.infRung = 9218868437227405312 := by decide

theorem lt_of_wf64 {y : Nat} (h : (Lit.float .f64 y).wf = true) : y < 2 ^ 64 := by simpa [Lit.wf] using h
theorem lt_of_wf32 {y : Nat} (h : (Lit.float .f32 y).wf = true) : y < 2 ^ 32 := by simpa [Lit.wf] using h

theorem i64_and_nat (a b : Nat) (ha : a < 2 ^ 63) (hb : b < 2 ^ 63) : bits .and .i64 (a : Int) (b : Int) = ((a &&& b : Nat) : Int) :=
  (bits_nat .i64 63 (by decide) (fun n h1 h2 => by rw [IntKind.wrap_i64]; omega) a b ha hb).1

/-- A word without its sign. -/
theorem read_abs (f : Ieee.Format) (y : Nat) : f.read (y % f.signWeight) = match f.read y with | .number _ m p => .number false m p | .infinity _ => .infinity false | .nan _ t => .nan false t := by
  have hs : 0 < f.signWeight := Nat.two_pow_pos _
  have e1 : y % f.signWeight % f.signWeight = y % f.signWeight := Nat.mod_mod _ _
  have e2 : (y % f.signWeight / f.signWeight % 2 == 1) = false := by
    rw [Nat.div_eq_of_lt (Nat.mod_lt _ hs)]; rfl
  rw [Fl.read_parts f (y % f.signWeight), Fl.read_parts f y, e1, e2]
  split
  · rfl
  · split
    · rfl
    · split <;> rfl

theorem nan_abs (y : Nat) : nanB .f64 (y % 2 ^ 63) = nanB .f64 y := by
  unfold nanB
  show (Ieee.double.read (y % Ieee.double.signWeight)).isNaN = (Ieee.double.read y).isNaN
  rw [read_abs]
  cases Ieee.double.read y <;> rfl

theorem pow_pos2 (k : Nat) : 1 ≤ 2 ^ k := Nat.two_pow_pos k

/-- What a float32 word is, by its rung. -/
theorem fin32 {x : Nat} {s : Bool} {m : Nat} {p : Int} (h : FloatKind.f32.decode x = .number s m p) :
    -149 ≤ p ∧ x % 2147483648 < 2139095040 ∧ s = (x / 2147483648 % 2 == 1) ∧ (x % 2147483648 < 8388608 → m * 2 ^ (p + 149).toNat = x % 2147483648) ∧ (8388608 ≤ x % 2147483648 → 8388608 ≤ m * 2 ^ (p + 149).toNat) := by
  have h' : Ieee.single.read x = .number s m p := h
  obtain ⟨h1, h2, h3, h4, h5, h6, h7, h8⟩ := Fl.read_fin eb32 h'
  rw [sw32] at h1 h5 h6 h7
  rw [least32] at h2 h6 h7
  rw [inf32] at h5
  rw [bin32] at h6 h7
  have e : (p - -149).toNat = (p + 149).toNat := by congr 1
  rw [e] at h6 h7
  exact ⟨h2, h5, h1, h6, h7⟩

theorem notfin32 {x : Nat} (h : ∀ s m p, FloatKind.f32.decode x ≠ .number s m p) : 2139095040 ≤ x % 2147483648 := by
  refine Nat.not_lt.1 fun hc => ?_
  have hr := Fl.read_parts Ieee.single x
  rw [sw32, bin32, inf32] at hr
  by_cases h1 : x % 2147483648 < 8388608
  · rw [if_pos h1] at hr
    exact h _ _ _ hr
  · rw [if_neg h1, if_pos hc] at hr
    exact h _ _ _ hr

/-- Zero and a number with nothing. -/
theorem order_zero32 (x : Nat) : (Ieee.single.order x 0 == some .eq) = decide (x % 2147483648 = 0) := by
  have h0 : Ieee.single.read 0 = .number false 0 (-149) := by decide
  unfold Ieee.Format.order
  rw [h0]
  cases h : Ieee.single.read x with
  | nan s t =>
    have := notfin32 (x := x) (fun s m p => by show Ieee.single.read x ≠ _; rw [h]; exact fun k => by cases k)
    rw [decide_eq_false (by omega)]; rfl
  | infinity s =>
    have := notfin32 (x := x) (fun s m p => by show Ieee.single.read x ≠ _; rw [h]; exact fun k => by cases k)
    rw [decide_eq_false (by omega)]
    cases s <;> rfl
  | number s m p =>
    obtain ⟨h1, h2, h3, h4, h5⟩ := fin32 (x := x) h
    rw [Fl.order_num (L := -149) h1 (Int.le_refl _)]
    have e : (p - -149).toNat = (p + 149).toNat := by congr 1
    rw [e, Nat.zero_mul]
    generalize m * 2 ^ (p + 149).toNat = X at *
    by_cases hz : x % 2147483648 = 0
    · have hX : X = 0 := by rw [h4 (by omega), hz]
      subst hX
      rw [decide_eq_true hz]
      cases s <;> decide
    · have hX : X ≠ 0 := by
        by_cases h6 : x % 2147483648 < 8388608
        · rw [h4 h6]; exact hz
        · have := h5 (by omega); omega
      rw [decide_eq_false hz]
      cases s
      · rw [show Fl.sv false X = (X : Int) from rfl, show Fl.sv false 0 = (0 : Int) from rfl, Int.compare_eq_gt.2 (by omega)]
        rfl
      · rw [show Fl.sv true X = -(X : Int) from rfl, show Fl.sv false 0 = (0 : Int) from rfl, Int.compare_eq_lt.2 (by omega)]
        rfl

/-- Is a float32 subnormal? -/
def subV (x : Nat) : Bool := decide (x % 2147483648 ≠ 0 ∧ x % 2147483648 < 8388608)

/-- The widened absolute value against the least normal number. -/
theorem order_sub {x : Nat} (hx : nanB .f32 x = false) : (Ieee.double.order (wide x % 2 ^ 63) 4039728865751334912 == some .lt) = decide (x % 2147483648 < 8388608) := by
  have hc : Ieee.double.read 4039728865751334912 = .number false 4503599627370496 (-178) := by decide
  unfold Ieee.Format.order
  rw [hc, show wide x % 2 ^ 63 = wide x % Ieee.double.signWeight from rfl, read_abs]
  cases h : FloatKind.f32.decode x with
  | nan s t => unfold nanB at hx; rw [h] at hx; cases hx
  | infinity s =>
    rw [show Ieee.double.read (wide x) = _ from (wide_inf h).2.2]
    have := notfin32 (x := x) (fun s m p => by rw [h]; exact fun k => by cases k)
    rw [decide_eq_false (by omega)]
    rfl
  | number s m p =>
    obtain ⟨_, hp, _, m', p', h2, hp', hv⟩ := wide_num h
    obtain ⟨h1, h3, h4, h5, h6⟩ := fin32 h
    rw [show Ieee.double.read (wide x) = _ from h2]
    show ((Ieee.Datum.number false m' p').order (.number false 4503599627370496 (-178)) == some .lt) = _
    rw [Fl.order_num (L := -1074) hp' (by omega)]
    have e1 : (p' - -1074).toNat = (p' + 1074).toNat := by congr 1
    rw [e1, hv]
    have e2 : 4503599627370496 * 2 ^ (-178 - -1074 : Int).toNat = 8388608 * 2 ^ k925 := by
      obtain ⟨K, hK⟩ : ∃ K : Nat, K = 896 := ⟨_, rfl⟩
      have e3 : (-178 - -1074 : Int).toNat = K := by rw [hK]; decide
      have e4 : k925 = 29 + K := by rw [hK]; rfl
      rw [e3, e4, Nat.pow_add, ← Nat.mul_assoc]
    rw [e2]
    generalize hX : m * 2 ^ (p + 149).toNat = X at *
    rw [show (some (compare (Fl.sv false (X * 2 ^ k925)) (Fl.sv false (8388608 * 2 ^ k925))) : Option Ordering) = some (compare (X : Int) 8388608) by
      rw [← Fl.sv_scale, ← Fl.sv_scale, Fl.compare_scale]; rfl]
    by_cases hlt : x % 2147483648 < 8388608
    · rw [decide_eq_true hlt, Int.compare_eq_lt.2 (by have := h5 hlt; omega)]; rfl
    · have := h6 (by omega)
      rw [decide_eq_false hlt]
      by_cases he : X = 8388608
      · rw [Int.compare_eq_eq.2 (by omega)]; rfl
      · rw [Int.compare_eq_gt.2 (by omega)]; rfl

theorem bits_abs {y : Nat} (h : y < 2 ^ 64) : (bits .andNot .u64 (y : Int) 9223372036854775808).toNat = y % 2 ^ 63 := by
  rw [u64_andNot _ _ (by omega) (by omega) (by omega) (by omega)]
  have e : (18446744073709551615 - (9223372036854775808 : Int).toNat) = 2 ^ 63 - 1 := by decide
  rw [e, Int.toNat_natCast, Int.toNat_natCast, Nat.and_two_pow_sub_one_eq_mod]

/-- The bits of the exponent alone. -/
theorem and_exp (n : Nat) : n &&& 2139095040 = n / 8388608 % 256 * 8388608 := by
  have e1 : 2139095040 = 2 ^ 23 * (2 ^ 8 - 1) := by decide
  have e2 : n / 8388608 % 256 * 8388608 = 2 ^ 23 * ((n / 2 ^ 23) % 2 ^ 8) := by rw [Nat.mul_comm]
  rw [e1, e2]
  refine Nat.eq_of_testBit_eq fun i => ?_
  rw [Nat.testBit_and, Nat.testBit_two_pow_mul, Nat.testBit_two_pow_mul, Nat.testBit_two_pow_sub_one, Nat.testBit_mod_two_pow, Nat.testBit_div_two_pow]
  by_cases h : 23 ≤ i
  · have : i - 23 + 23 = i := by omega
    simp only [h, decide_true, Bool.true_and, this]
    exact Bool.and_comm _ _
  · simp [h]

/-- The sign bit alone. -/
theorem and_sign (n k : Nat) : n &&& 2 ^ k = n / 2 ^ k % 2 * 2 ^ k := by
  have e1 : 2 ^ k = 2 ^ k * (2 ^ 1 - 1) := by omega
  have e2 : n / 2 ^ k % 2 * 2 ^ k = 2 ^ k * ((n / 2 ^ k) % 2 ^ 1) := by rw [Nat.mul_comm]
  rw [e2]
  conv => lhs; rw [e1]
  refine Nat.eq_of_testBit_eq fun i => ?_
  rw [Nat.testBit_and, Nat.testBit_two_pow_mul, Nat.testBit_two_pow_mul, Nat.testBit_two_pow_sub_one, Nat.testBit_mod_two_pow, Nat.testBit_div_two_pow]
  by_cases h : k ≤ i
  · have : i - k + k = i := by omega
    simp only [h, decide_true, Bool.true_and, this]
    exact Bool.and_comm _ _
  · simp [h]

theorem nan32_iff (x : Nat) : nanB .f32 x = decide (2139095040 < x % 2147483648) := by
  unfold nanB
  show (Ieee.single.read x).isNaN = _
  have hr := Fl.read_parts Ieee.single x
  rw [sw32, bin32, inf32] at hr
  rw [hr]
  by_cases h1 : x % 2147483648 < 8388608
  · rw [if_pos h1, decide_eq_false (by omega)]; rfl
  · rw [if_neg h1]
    by_cases h2 : x % 2147483648 < 2139095040
    · rw [if_pos h2, decide_eq_false (by omega)]; rfl
    · rw [if_neg h2]
      by_cases h3 : x % 2147483648 = 2139095040
      · rw [if_pos h3, decide_eq_false (by omega)]; rfl
      · rw [if_neg h3, decide_eq_true (by omega)]; rfl

theorem fin32_iff (x : Nat) : finB .f32 x = decide (x % 2147483648 < 2139095040) := by
  unfold finB
  show (match Ieee.single.read x with | .number .. => true | _ => false) = _
  have hr := Fl.read_parts Ieee.single x
  rw [sw32, bin32, inf32] at hr
  rw [hr]
  by_cases h1 : x % 2147483648 < 8388608
  · rw [if_pos h1, decide_eq_true (by omega)]
  · rw [if_neg h1]
    by_cases h2 : x % 2147483648 < 2139095040
    · rw [if_pos h2, decide_eq_true (by omega)]
    · rw [if_neg h2, decide_eq_false (by omega)]
      by_cases h3 : x % 2147483648 = 2139095040
      · rw [if_pos h3]
      · rw [if_neg h3]

theorem wide_sign {x : Nat} (h : x < 2 ^ 32) (hn : nanB .f32 x = false) : wide x / 2 ^ 63 = x / 2 ^ 31 := by
  have hb : x / 2147483648 % 2 = x / 2 ^ 31 := by omega
  have h2 : x / 2147483648 % 2 = 0 ∨ x / 2147483648 % 2 = 1 := by omega
  cases hx : FloatKind.f32.decode x with
  | number s m p =>
    obtain ⟨_, _, hs, _⟩ := wide_num hx
    obtain ⟨_, _, h4, _⟩ := fin32 hx
    rw [hs, h4]
    rcases h2 with h | h <;> rw [h] at hb ⊢ <;> rw [← hb] <;> rfl
  | infinity s =>
    have hw := (wide_inf hx).2.1
    have h4 : s = (x / 2147483648 % 2 == 1) := by
      have hx' : Ieee.single.read x = .infinity s := hx
      rw [Fl.read_parts, sw32] at hx'
      split at hx'
      · cases hx'
      · split at hx'
        · cases hx'
        · split at hx'
          · injection hx' with e; exact e.symm
          · cases hx'
    rw [hw, h4]
    rcases h2 with h | h <;> rw [h] at hb ⊢ <;> rw [← hb] <;> decide
  | nan s t => unfold nanB at hn; rw [hx] at hn; cases hn

theorem fin_not_nan {k : FloatKind} {y : Nat} (h : nanB k y = true) : finB k y = false := by
  unfold nanB at h
  unfold finB
  cases hy : k.decode y with
  | number s m p => rw [hy] at h; cases h
  | infinity s => rfl
  | nan s t => rfl
theorem wide_wf {x : Nat} (h : nanB .f32 x = false) (wx : (Lit.float .f32 x).wf = true) : (Lit.float .f64 (wide x)).wf = true := floatToFloatBits_wf wx (wide_some h).1
theorem nanOf_wf (k : FloatKind) (b : Nat) (w : World) : (Lit.float k (nanOf (.nanConv k b) w)).wf = true := by
  cases k
  · have : nanOf (.nanConv .f32 b) w < 2 ^ 32 := by
      show (w.tape w.drawn _ % 2) * 2 ^ 31 + 0x7f800000 + 1 + (w.tape w.drawn _ / 2) % (2 ^ 23 - 1) < 2 ^ 32
      omega
    simp [Lit.wf, this]
  · have : nanOf (.nanConv .f64 b) w < 2 ^ 64 := by
      show (w.tape w.drawn _ % 2) * 2 ^ 63 + 0x7ff0000000000000 + 1 + (w.tape w.drawn _ / 2) % (2 ^ 52 - 1) < 2 ^ 64
      omega
    simp [Lit.wf, this]
theorem wide_fin {x : Nat} (h : nanB .f32 x = false) : finB .f64 (wide x) = finB .f32 x := by
  unfold nanB at h
  unfold finB
  cases hx : FloatKind.f32.decode x with
  | number s m p => obtain ⟨_, _, _, m', p', h2, _⟩ := wide_num hx; rw [h2]
  | infinity s => rw [(wide_inf hx).2.2]
  | nan s t => rw [hx] at h; cases h

end Go.Proofs.Ytikgnpajjbjkcaa
