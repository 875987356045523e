/- Floats of 32 bits by their values: sums, products and quotients of bounded ones; chances from 0 to 1; rows whose sum is near 1. -/
import Derived.Test.YtikgnpajjbjkcaaPlainA
import Derived.Test.YtikgnpajjbjkcaaShift
set_option linter.unusedVariables false
namespace Go.Proofs.Ytikgnpajjbjkcaa
open Go.RowKit

abbrev S (E x : Nat) : Prop := Fl.Bd Ieee.single E x
def add32 (x y : Nat) : Nat := (floatBits .add .f32 x y).getD 0
def sub32 (x y : Nat) : Nat := (floatBits .sub .f32 x y).getD 0
def mul32 (x y : Nat) : Nat := (floatBits .mul .f32 x y).getD 0
def quo32 (x y : Nat) : Nat := (floatBits .quo .f32 x y).getD 0
theorem K32 : Ieee.single.leastPlace = -((149 : Nat) : Int) := by decide
theorem add32_ok {E E' x y : Nat} (hx : S E x) (hy : S E' y) (h : max E E' + 1 ≤ 276) : floatBits .add .f32 x y = some (add32 x y) ∧ S (max E E' + 1) (add32 x y) := by
  obtain ⟨r, h1, h2⟩ := Fl.add_bd hx hy eb32 (by rw [top32]; exact h)
  have h1' : floatBits .add .f32 x y = some r := h1
  have e : add32 x y = r := by unfold add32; rw [h1']; rfl
  rw [e]; exact ⟨h1', h2⟩
theorem sub32_ok {E E' x y : Nat} (hx : S E x) (hy : S E' y) (h : max E E' + 1 ≤ 276) : floatBits .sub .f32 x y = some (sub32 x y) ∧ S (max E E' + 1) (sub32 x y) := by
  obtain ⟨r, h1, h2⟩ := Fl.sub_bd hx hy eb32 (by rw [top32]; exact h)
  have h1' : floatBits .sub .f32 x y = some r := h1
  have e : sub32 x y = r := by unfold sub32; rw [h1']; rfl
  rw [e]; exact ⟨h1', h2⟩
theorem mul32_ok {E E' x y : Nat} (hx : S E x) (hy : S E' y) (h0 : 149 ≤ E + E') (h : E + E' - 149 ≤ 276) : floatBits .mul .f32 x y = some (mul32 x y) ∧ S (E + E' - 149) (mul32 x y) := by
  obtain ⟨r, h1, h2⟩ := Fl.mul_bd K32 hx hy eb32 h0 (by rw [top32]; exact h)
  have h1' : floatBits .mul .f32 x y = some r := h1
  have e : mul32 x y = r := by unfold mul32; rw [h1']; rfl
  rw [e]; exact ⟨h1', h2⟩
theorem quo32_ok {E F x y : Nat} (hx : S E x) (hy : Fl.Gb Ieee.single F y) (h0 : F ≤ E + 149) (h : E + 149 - F ≤ 276) : floatBits .quo .f32 x y = some (quo32 x y) ∧ S (E + 149 - F) (quo32 x y) := by
  obtain ⟨r, h1, h2⟩ := Fl.div_bd K32 hx hy eb32 h0 (by rw [top32]; exact h)
  have h1' : floatBits .quo .f32 x y = some r := h1
  have e : quo32 x y = r := by unfold quo32; rw [h1']; rfl
  rw [e]; exact ⟨h1', h2⟩
theorem S_nan {E x : Nat} (h : S E x) : nanB .f32 x = false := by
  obtain ⟨s, m, p, h, _⟩ := h
  unfold nanB
  rw [show FloatKind.f32.decode x = _ from h]
  rfl
theorem S_zero {E : Nat} : S E 0 := ⟨false, 0, -149, by decide, by decide, by rw [Nat.zero_mul]; exact Nat.zero_le _⟩

/-- The value of a number in units of the least one. -/
def v32 (x : Nat) : Int := match Ieee.single.read x with | .number s m p => Fl.sv s (m * 2 ^ (p - -149).toNat) | _ => 0
theorem sv_abs (s : Bool) (n : Nat) : (Fl.sv s n).natAbs = n := by
  cases s
  · exact Int.natAbs_natCast n
  · exact (Int.natAbs_neg _).trans (Int.natAbs_natCast n)
theorem v32_num {x : Nat} {s : Bool} {m : Nat} {p : Int} (h : Ieee.single.read x = .number s m p) : v32 x = Fl.sv s (m * 2 ^ (p - -149).toNat) := by unfold v32; rw [h]
theorem order_v32 {x y : Nat} {s t : Bool} {m n : Nat} {p q : Int} (h : Ieee.single.read x = .number s m p) (k : Ieee.single.read y = .number t n q) : Ieee.single.order x y = some (compare (v32 x) (v32 y)) := by
  have h1 := (Fl.read_fin eb32 h).2.1
  have k1 := (Fl.read_fin eb32 k).2.1
  rw [least32] at h1 k1
  unfold Ieee.Format.order
  rw [v32_num h, v32_num k, h, k]
  exact Fl.order_num h1 k1
theorem order_S {E E' x y : Nat} (hx : S E x) (hy : S E' y) : Ieee.single.order x y = some (compare (v32 x) (v32 y)) := by
  obtain ⟨s, m, p, h, _⟩ := hx
  obtain ⟨t, n, q, k, _⟩ := hy
  exact order_v32 h k
theorem cmp_gt (a b : Int) : (some (compare a b) == some Ordering.gt) = decide (b < a) := by
  rcases Int.lt_trichotomy a b with h | h | h
  · rw [Int.compare_eq_lt.2 h, decide_eq_false (by omega)]; rfl
  · subst h; simp
  · rw [Int.compare_eq_gt.2 h, decide_eq_true h]; rfl
theorem cmp_lt (a b : Int) : (some (compare a b) == some Ordering.lt) = decide (a < b) := by
  rcases Int.lt_trichotomy a b with h | h | h
  · rw [Int.compare_eq_lt.2 h, decide_eq_true h]; rfl
  · subst h; simp
  · rw [Int.compare_eq_gt.2 h, decide_eq_false (by omega)]; rfl
theorem cmp_eq (a b : Int) : (some (compare a b) == some Ordering.eq) = decide (a = b) := by
  rcases Int.lt_trichotomy a b with h | h | h
  · rw [Int.compare_eq_lt.2 h, decide_eq_false (by omega)]; rfl
  · subst h; simp
  · rw [Int.compare_eq_gt.2 h, decide_eq_false (by omega)]; rfl

def one32 : Nat := 1065353216
theorem read_one32 : Ieee.single.read one32 = .number false 8388608 (-23) := by decide
theorem S_one : S 149 one32 := ⟨false, 8388608, -23, read_one32, by decide, by
  have e : (-23 - Ieee.single.leastPlace : Int).toNat = 126 := by decide
  rw [e, show (8388608 : Nat) = 2 ^ 23 from by decide, ← Nat.pow_add]
  exact Nat.le_refl _⟩
/-- x is not less than 0; not greater than 1. -/
def geZ (x : Nat) : Bool := Ieee.single.order x 0 == some .gt || Ieee.single.order x 0 == some .eq
def leO (x : Nat) : Bool := Ieee.single.order x one32 == some .lt || Ieee.single.order x one32 == some .eq
/-- A number from 0 to 1. -/
def shareB (x : Nat) : Bool := geZ x && leO x
theorem share_S {x : Nat} (h : shareB x = true) : S 149 x ∧ (v32 x = 0 ∨ (Ieee.single.read x).neg = false) ∧ 0 ≤ v32 x ∧ v32 x ≤ v32 one32 := by
  unfold shareB geZ leO at h
  simp only [Bool.and_eq_true, Bool.or_eq_true] at h
  obtain ⟨h1, h2⟩ := h
  cases hx : Ieee.single.read x with
  | nan s t =>
    exfalso
    have e : Ieee.single.order x 0 = none := by unfold Ieee.Format.order; rw [hx]; rfl
    rw [e] at h1
    rcases h1 with h1 | h1 <;> exact absurd h1 (by decide)
  | infinity s =>
    exfalso
    cases s
    · have e : Ieee.single.order x one32 = some .gt := by unfold Ieee.Format.order; rw [hx, read_one32]; rfl
      rw [e] at h2
      rcases h2 with h2 | h2 <;> exact absurd h2 (by decide)
    · have e : Ieee.single.order x 0 = some .lt := by unfold Ieee.Format.order; rw [hx, show Ieee.single.read 0 = .number false 0 (-149) from by decide]; rfl
      rw [e] at h1
      rcases h1 with h1 | h1 <;> exact absurd h1 (by decide)
  | number s m p =>
    have z : v32 0 = 0 := by decide
    have hp := (Fl.read_fin eb32 hx).2.1
    rw [order_v32 hx (show Ieee.single.read 0 = .number false 0 (-149) from by decide), cmp_gt, cmp_eq, z] at h1
    rw [order_v32 hx read_one32, cmp_lt, cmp_eq] at h2
    simp only [decide_eq_true_eq] at h1 h2
    have g1 : 0 ≤ v32 x := by omega
    have g2 : v32 x ≤ v32 one32 := by omega
    have hv := v32_num hx
    have ho : v32 one32 = ((2 ^ 149 : Nat) : Int) := by
      rw [v32_num read_one32]
      unfold Fl.sv
      have e : (-23 - -149 : Int).toNat = 126 := by decide
      rw [e, show (8388608 : Nat) = 2 ^ 23 from by decide, ← Nat.pow_add]
      rfl
    rw [least32] at hp
    refine ⟨⟨s, m, p, hx, by rw [least32]; exact hp, ?_⟩, ?_, g1, g2⟩
    · rw [least32]
      rw [hv, ho] at g2
      rw [hv] at g1
      unfold Fl.sv at g1 g2
      generalize m * 2 ^ (p - -149).toNat = V at *
      cases s
      · simp only [Bool.false_eq_true, if_false] at g2
        exact Int.ofNat_le.1 g2
      · simp only [if_true] at g1
        have : V = 0 := by omega
        rw [this]; exact Nat.zero_le _
    · rw [hv] at g1 ⊢
      unfold Fl.sv at g1 ⊢
      generalize m * 2 ^ (p - -149).toNat = V at *
      cases s
      · right; rfl
      · left
        simp only [if_true] at g1 ⊢
        omega

/-- The sum of the first k numbers, from left to right, from +0 on. -/
def sumF (f : Nat → Nat) : Nat → Nat
  | 0 => 0
  | k + 1 => add32 (sumF f k) (f k)
theorem sumF_S {f : Nat → Nat} {n E : Nat} (h : ∀ i, i < n → S E (f i)) (hE : E + n ≤ 276) : ∀ k, k ≤ n → S (E + k) (sumF f k) := by
  intro k hk
  induction k with
  | zero => exact S_zero
  | succ k ih =>
    have := (add32_ok (ih (by omega)) (h k (by omega)) (by omega)).2
    rw [show max (E + k) E + 1 = E + (k + 1) by omega] at this
    exact this
theorem sumF_ok {f : Nat → Nat} {n E : Nat} (h : ∀ i, i < n → S E (f i)) (hE : E + n ≤ 276) {k : Nat} (hk : k < n) : floatBits .add .f32 (sumF f k) (f k) = some (sumF f (k + 1)) :=
  (add32_ok (sumF_S h hE k (by omega)) (h k hk) (by omega)).1
theorem sumF_congr {f g : Nat → Nat} {n : Nat} (h : ∀ i, i < n → f i = g i) : sumF f n = sumF g n := by
  induction n with
  | zero => rfl
  | succ n ih => unfold sumF; rw [ih fun i hi => h i (by omega), h n (by omega)]

/-- The number 0.001 and its opposite. -/
def c001 : Nat := 981668463
def n001 : Nat := 3129152111
theorem read_c001 : Ieee.single.read c001 = .number false 8589935 (-33) := by decide
theorem read_n001 : Ieee.single.read n001 = .number true 8589935 (-33) := by decide
/-- The sum x differs from 1 by at most 0.001. -/
def nearB (x : Nat) : Bool := (Ieee.single.order (sub32 x one32) c001 == some .lt || Ieee.single.order (sub32 x one32) c001 == some .eq) && (Ieee.single.order (sub32 x one32) n001 == some .gt || Ieee.single.order (sub32 x one32) n001 == some .eq)
/-- The absolute value of a number, by way of 64 bits. -/
def abs32 (d : Nat) : Nat := narrow (wide d % 2 ^ 63)
theorem abs32_num {d E : Nat} (hE : E ≤ 276) (hS : S E d) :
    floatToFloatBits .f64 (wide d % 2 ^ 63) .f32 = some (abs32 d) ∧ ∃ m' p', Ieee.single.read (abs32 d) = .number false m' p' ∧ -149 ≤ p' ∧ (m' * 2 ^ (p' - -149).toNat : Nat) = (v32 d).natAbs := by
  obtain ⟨s, m, p, h, hp0, hb⟩ := hS
  obtain ⟨_, hp, _, m1, p1, h2, hp1, hv⟩ := wide_num (show FloatKind.f32.decode d = _ from h)
  obtain ⟨_, _, hm, hq, _⟩ := Fl.read_fin eb32 h
  have ha : Ieee.double.read (wide d % 2 ^ 63) = .number false m1 p1 := by
    have := read_abs Ieee.double (wide d)
    rw [show Ieee.double.read (wide d) = _ from h2, sw64] at this
    rw [show (2 : Nat) ^ 63 = 9223372036854775808 from by decide]
    exact this
  have hsame : Ieee.single.nearest false m1 p1 = Ieee.single.nearest false m p := by
    have hv' : m1 * 2 ^ (p1 + 1074).toNat = m * 2 ^ (p + 1074).toNat := by
      rw [hv, Nat.mul_assoc, ← Nat.pow_add]
      congr 2
      unfold k925
      omega
    rcases Int.le_total p1 p with hle | hle
    · have e : (p + 1074).toNat = (p - p1).toNat + (p1 + 1074).toNat := by omega
      rw [e, Nat.pow_add, ← Nat.mul_assoc] at hv'
      have e2 : m1 = m * 2 ^ (p - p1).toNat := Nat.eq_of_mul_eq_mul_right (Nat.two_pow_pos _) hv'
      rw [e2, nearest_shift]
      congr 1
      omega
    · have e : (p1 + 1074).toNat = (p1 - p).toNat + (p + 1074).toNat := by omega
      rw [e, Nat.pow_add, ← Nat.mul_assoc] at hv'
      have e2 : m1 * 2 ^ (p1 - p).toNat = m := Nat.eq_of_mul_eq_mul_right (Nat.two_pow_pos _) hv'
      rw [← e2, nearest_shift]
      congr 1
      omega
  obtain ⟨m', p', hr, hp', hv'⟩ := Fl.nearest_exact (f := Ieee.single) (E := E) (by rw [top32]; exact hE) eb32 false m p hm hp0 hb
  rw [least32] at hp' hv'
  have hn : (FloatKind.f32.decode (FloatKind.f32.encode (.number false m1 p1))).isInfinity = false := by
    show (Ieee.single.read (Ieee.single.nearest false m1 p1)).isInfinity = false
    rw [hsame, hr]; rfl
  have hw : floatToFloatBits .f64 (wide d % 2 ^ 63) .f32 = some (Ieee.single.nearest false m p) := by
    unfold floatToFloatBits
    rw [if_neg (by decide), show FloatKind.f64.decode (wide d % 2 ^ 63) = _ from ha]
    simp only
    rw [if_neg (by rw [hn]; decide)]
    exact congrArg some hsame
  have hww : abs32 d = Ieee.single.nearest false m p := by unfold abs32 narrow; rw [hw]; rfl
  refine ⟨by rw [hww]; exact hw, m', p', by rw [hww]; exact hr, hp', ?_⟩
  rw [hv', v32_num h, sv_abs]
theorem abs32_S {d E : Nat} (hE : E ≤ 276) (hS : S E d) : S E (abs32 d) ∧ v32 (abs32 d) = ((v32 d).natAbs : Int) := by
  obtain ⟨_, m', p', hr, hp', hv⟩ := abs32_num hE hS
  obtain ⟨s, m, p, h, hp0, hb⟩ := hS
  have hvd := v32_num h
  rw [least32] at hp0 hb
  have e : (v32 d).natAbs = m * 2 ^ (p - -149).toNat := by
    rw [hvd, sv_abs]
  refine ⟨⟨false, m', p', hr, by rw [least32]; exact hp', by rw [least32, hv, e]; exact hb⟩, ?_⟩
  rw [v32_num hr, ← hv]
  rfl
/-- The test by way of the absolute value is that of both sides. -/
theorem near_dist {d E : Nat} (hE : E ≤ 276) (hS : S E d) :
    (Ieee.single.order (abs32 d) c001 == some .lt || Ieee.single.order (abs32 d) c001 == some .eq) = ((Ieee.single.order d c001 == some .lt || Ieee.single.order d c001 == some .eq) && (Ieee.single.order d n001 == some .gt || Ieee.single.order d n001 == some .eq)) := by
  obtain ⟨hA, hv⟩ := abs32_S hE hS
  obtain ⟨s, m, p, h, _⟩ := hS
  obtain ⟨s', m', p', h', _⟩ := hA
  rw [order_v32 h' read_c001, order_v32 h read_c001, order_v32 h read_n001, hv, cmp_lt, cmp_eq, cmp_lt, cmp_eq, cmp_gt, cmp_eq]
  have hn : v32 n001 = - v32 c001 := by rw [v32_num read_n001, v32_num read_c001]; rfl
  have hc : 0 ≤ v32 c001 := by rw [v32_num read_c001]; exact Int.natCast_nonneg _
  rw [hn]
  generalize v32 c001 = C at *
  generalize v32 d = V at *
  rw [Bool.eq_iff_iff]
  simp only [Bool.or_eq_true, Bool.and_eq_true, decide_eq_true_eq]
  omega
end Go.Proofs.Ytikgnpajjbjkcaa
