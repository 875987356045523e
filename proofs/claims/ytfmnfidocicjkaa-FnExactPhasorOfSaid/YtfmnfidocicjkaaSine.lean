/- The sine of some turns as a plain function of bits: its operations told, its bounds. -/
import Derived.Test.YtfmnfidocicjkaaCirc
set_option linter.unusedVariables false
namespace Go.Proofs.Ytfmnfidocicjkaa

theorem cut_zero_way (s : Bool) (n d : Nat) : Ieee.Toward.zero.cut s n d = n / 2 ^ d := by
  unfold Ieee.Toward.cut
  dsimp only
  by_cases hd : d ≤ n.log2 + 2
  · rw [Nat.min_eq_left hd, Nat.one_shiftLeft]; rfl
  · rw [Nat.min_eq_right (by omega), Nat.one_shiftLeft]
    have hl := Fl.lt_log2 n
    have h4 : 2 ^ (n.log2 + 1) ≤ 2 ^ (n.log2 + 2) := Nat.pow_le_pow_right (by omega) (by omega)
    have h5 : 2 ^ (n.log2 + 1) ≤ 2 ^ d := Nat.pow_le_pow_right (by omega) (by omega)
    rw [Nat.div_eq_of_lt (by omega), Nat.div_eq_of_lt (by omega)]; rfl

/-- A difference is bounded by what it is exactly. -/
theorem fs_exact {x y E : Nat} {s t : Bool} {m n : Nat} {i j : Int} (hx : Ieee.double.read x = .number s m i) (hy : Ieee.double.read y = .number t n j) (hi : -1074 ≤ i) (hj : -1074 ≤ j)
    (hE : E ≤ 2097) (h : (Fl.sv s (m * 2 ^ (i + 1074).toNat) - Fl.sv t (n * 2 ^ (j + 1074).toNat)).natAbs ≤ 2 ^ E) : floatBits .sub .f64 x y = some (fs x y) ∧ B E (fs x y) := by
  have hsum : ∃ neg, floatBits .sub .f64 x y = some (Ieee.double.nearest neg (Ieee.signed s m (i - min i j).toNat + Ieee.signed (!t) n (j - min i j).toNat).natAbs (min i j)) := by
    refine ⟨(if Ieee.signed s m (i - min i j).toNat + Ieee.signed (!t) n (j - min i j).toNat = 0 then s && !t else decide (Ieee.signed s m (i - min i j).toNat + Ieee.signed (!t) n (j - min i j).toNat < 0)), ?_⟩
    show Ieee.double.sub x y = _
    unfold Ieee.Format.sub
    rw [hx, hy]
    rfl
  obtain ⟨neg, hs⟩ := hsum
  have e : fs x y = Ieee.double.nearest neg (Ieee.signed s m (i - min i j).toNat + Ieee.signed (!t) n (j - min i j).toNat).natAbs (min i j) := by unfold fs; rw [hs]; rfl
  rw [e]
  refine ⟨hs, Fl.nearest_bd (by rw [top64]; exact hE) eb64 _ _ _ (Fl.le2_of (L := -1074) (by omega) (by rw [least64]; omega) ?_)⟩
  have e0 : ((E : Int) + Ieee.double.leastPlace - -1074).toNat = E := by rw [least64]; omega
  rw [e0]
  have e1 : (min i j - -1074).toNat = (min i j + 1074).toNat := by congr 1
  rw [e1]
  have key : (Ieee.signed s m (i - min i j).toNat + Ieee.signed (!t) n (j - min i j).toNat) * 2 ^ (min i j + 1074).toNat = Fl.sv s (m * 2 ^ (i + 1074).toNat) - Fl.sv t (n * 2 ^ (j + 1074).toNat) := by
    rw [Fl.signed_sv, Fl.signed_sv, Int.add_mul, Fl.sv_scale, Fl.sv_scale, Nat.mul_assoc, Nat.mul_assoc, ← Nat.pow_add, ← Nat.pow_add]
    have a1 : (i - min i j).toNat + (min i j + 1074).toNat = (i + 1074).toNat := by omega
    have a2 : (j - min i j).toNat + (min i j + 1074).toNat = (j + 1074).toNat := by omega
    rw [a1, a2]
    generalize n * 2 ^ (j + 1074).toNat = V
    cases t
    · show _ + -(V : Int) = _ - (V : Int); omega
    · show _ + (V : Int) = _ - -(V : Int); omega
  have : (Ieee.signed s m (i - min i j).toNat + Ieee.signed (!t) n (j - min i j).toNat).natAbs * 2 ^ (min i j + 1074).toNat = (Fl.sv s (m * 2 ^ (i + 1074).toNat) - Fl.sv t (n * 2 ^ (j + 1074).toNat)).natAbs := by
    rw [← key, Int.natAbs_mul, Int.natAbs_pow]
    rfl
  rw [this]; exact h

def truncV (t : Nat) : Int := ((FloatKind.f64.decode t).toInt .zero).getD 0

/-- The integer of a number nearer to 0 than 2^52, and what is left. -/
theorem trunc_ok {t : Nat} {s : Bool} {m : Nat} {p : Int} (hr : Ieee.double.read t = .number s m p) (hp : -1074 ≤ p) (hlt : m * 2 ^ (p + 1074).toNat < 2 ^ 52 * 2 ^ 1074) :
    floatToIntVal .f64 t .i64 = some (truncV t) ∧ floatBits .sub .f64 t (floatOfInt .f64 (truncV t)) = some (fs t (floatOfInt .f64 (truncV t))) ∧ B 1074 (fs t (floatOfInt .f64 (truncV t))) := by
  obtain ⟨K, hK⟩ : ∃ K : Nat, K = 1074 := ⟨_, rfl⟩
  rw [← hK] at hlt
  have hp2 := Nat.two_pow_pos K
  -- the whole part
  obtain ⟨q, hq⟩ : ∃ q : Nat, q = m * 2 ^ p.toNat / 2 ^ (-p).toNat := ⟨_, rfl⟩
  have hint : (FloatKind.f64.decode t).toInt .zero = some (Fl.sv s q) := by
    show Ieee.Datum.toInt .zero (Ieee.double.read t) = _
    rw [hr]
    show some (Ieee.signed s (Ieee.Toward.zero.cut s (m <<< p.toNat) (-p).toNat) 0) = _
    rw [cut_zero_way, Nat.shiftLeft_eq, ← hq, Fl.signed_sv, Nat.pow_zero, Nat.mul_one]
  have hU : q * 2 ^ K ≤ m * 2 ^ (p + 1074).toNat ∧ m * 2 ^ (p + 1074).toNat < (q + 1) * 2 ^ K := by
    by_cases hp0 : 0 ≤ p
    · have e1 : (-p).toNat = 0 := by omega
      have e2 : (p + 1074).toNat = p.toNat + K := by omega
      rw [e1, Nat.pow_zero, Nat.div_one] at hq
      rw [e2, Nat.pow_add, ← Nat.mul_assoc, ← hq, Nat.add_mul]
      omega
    · have e1 : p.toNat = 0 := by omega
      have e2 : K = (p + 1074).toNat + (-p).toNat := by omega
      rw [e1, Nat.pow_zero, Nat.mul_one] at hq
      generalize (p + 1074).toNat = a at *
      generalize (-p).toNat = b at *
      rw [e2, Nat.pow_add, Nat.mul_comm (2 ^ a), ← Nat.mul_assoc, ← Nat.mul_assoc]
      have hd := Nat.div_add_mod m (2 ^ b)
      rw [← hq, Nat.mul_comm] at hd
      have hm := Nat.mod_lt m (Nat.two_pow_pos b)
      refine ⟨Nat.mul_le_mul_right _ (by omega), ?_⟩
      refine Nat.mul_lt_mul_of_pos_right ?_ (Nat.two_pow_pos a)
      rw [Nat.add_mul]
      omega
  have hq52 : q < 2 ^ 52 := by
    have := Nat.lt_of_le_of_lt hU.1 hlt
    exact Nat.lt_of_mul_lt_mul_right this
  have htr : truncV t = Fl.sv s q := by unfold truncV; rw [hint]; rfl
  have hbnd : -4503599627370496 < Fl.sv s q ∧ Fl.sv s q < 4503599627370496 := by
    unfold Fl.sv
    cases s
    · simp only [Bool.false_eq_true, if_false]; omega
    · simp only [if_true]; omega
  refine ⟨?_, ?_⟩
  · unfold floatToIntVal
    rw [hint, htr]
    have : IntKind.i64.min ≤ Fl.sv s q ∧ Fl.sv s q ≤ IntKind.i64.max := by
      have h1 : IntKind.i64.min = -9223372036854775808 := by decide
      have h2 : IntKind.i64.max = 9223372036854775807 := by decide
      rw [h1, h2]; omega
    show (if IntKind.i64.min ≤ Fl.sv s q ∧ Fl.sv s q ≤ IntKind.i64.max then some (Fl.sv s q) else none) = _
    rw [if_pos this]
  · rw [htr]
    have hfi : floatOfInt .f64 (Fl.sv s q) = Ieee.double.nearest (decide (Fl.sv s q < 0)) q 0 := by
      show Ieee.double.nearest _ _ _ = _
      congr 1
      unfold Fl.sv
      cases s <;> simp
    obtain ⟨E, hE⟩ : ∃ E : Nat, E = 1126 := ⟨_, rfl⟩
    obtain ⟨m', p', hr', hp', hv'⟩ := Fl.nearest_exact (f := Ieee.double) (E := E) (by rw [top64]; omega) eb64 (decide (Fl.sv s q < 0)) q 0 (by
      have : Ieee.double.fractionBits = 52 := rfl
      rw [this]; omega) (by rw [least64]; omega) (by
      rw [least64]
      have e : (0 - -1074 : Int).toNat = K := by rw [hK]; decide
      rw [e]
      have : E = 52 + K := by omega
      rw [this, Nat.pow_add]
      exact Nat.mul_le_mul_right _ (Nat.le_of_lt hq52))
    rw [least64] at hp' hv'
    have e1 : (p' - -1074).toNat = (p' + 1074).toNat := by congr 1
    have e2 : (0 - -1074 : Int).toNat = K := by rw [hK]; decide
    rw [e1, e2] at hv'
    rw [hfi]
    refine fs_exact hr hr' hp hp' (by omega) ?_
    rw [hv', ← hK]
    generalize m * 2 ^ (p + 1074).toNat = U at *
    have hm1 : (q + 1) * 2 ^ K = q * 2 ^ K + 2 ^ K := by rw [Nat.add_mul, Nat.one_mul]
    rw [hm1] at hU
    generalize hQ : q * 2 ^ K = Q at *
    unfold Fl.sv
    cases s
    · simp only [Bool.false_eq_true, if_false]
      rw [decide_eq_false (by omega)]
      simp only [Bool.false_eq_true, if_false]
      omega
    · simp only [if_true]
      by_cases h0 : q = 0
      · subst h0
        have : Q = 0 := by rw [← hQ, Nat.zero_mul]
        subst this
        rw [decide_eq_false (by omega)]
        simp only [Bool.false_eq_true, if_false]
        omega
      · rw [decide_eq_true (by omega)]
        simp only [if_true]
        omega

def gtB (a b : Nat) : Bool := Ieee.double.order a b == some .gt
def ltB (a b : Nat) : Bool := Ieee.double.order a b == some .lt
def geB (a b : Nat) : Bool := Ieee.double.order a b == some .gt || Ieee.double.order a b == some .eq

def partV (t : Nat) : Nat := if ltB (fs t (floatOfInt .f64 (truncV t))) 0 then fa (fs t (floatOfInt .f64 (truncV t))) one else fs t (floatOfInt .f64 (truncV t))
def half : Nat := 4602678819172646912
def quarter : Nat := 4598175219545276416
def sin1 (f : Nat) : Nat := if geB f half then fs f half else f
def sin2 (f : Nat) : Nat := if gtB (sin1 f) quarter then fs half (sin1 f) else sin1 f
def sinPoly (u : Nat) : Nat → Nat
  | 0 => one
  | j + 1 => fs one (fd (fm u (sinPoly u j)) (floatOfInt .f64 (2 * (8 - (j : Int)) * (2 * (8 - (j : Int)) + 1))))
def sinZ (f : Nat) : Nat := fm (sin2 f) turn
def sinR (f : Nat) : Nat := fm (sinZ f) (sinPoly (fm (sinZ f) (sinZ f)) 8)
/-- The sine of a part of a turn. -/
def sinP (f : Nat) : Nat := if geB f half then Op.negFloat .f64 (sinR f) else sinR f
def sineV (t : Nat) : Nat := sinP (partV t)

theorem part_ok {t : Nat} (h : B 1074 (fs t (floatOfInt .f64 (truncV t)))) : floatBits .add .f64 (fs t (floatOfInt .f64 (truncV t))) one = some (fa (fs t (floatOfInt .f64 (truncV t))) one) ∧ B 1075 (partV t) := by
  obtain ⟨a1, b1⟩ := fa_ok h B_one (by omega)
  refine ⟨a1, ?_⟩
  unfold partV
  split
  · exact b1.mono (by omega)
  · exact h.mono (by omega)

theorem sin_ok {f : Nat} (h : B 1075 f) :
    floatBits .sub .f64 f half = some (fs f half) ∧ floatBits .sub .f64 half (sin1 f) = some (fs half (sin1 f)) ∧ floatBits .mul .f64 (sin2 f) turn = some (sinZ f) ∧ floatBits .mul .f64 (sinZ f) (sinZ f) = some (fm (sinZ f) (sinZ f)) ∧ B 1080 (sinZ f) ∧ B 1086 (fm (sinZ f) (sinZ f)) := by
  obtain ⟨a1, b1⟩ := fs_ok h B_half (by omega)
  have c1 : B 1076 (sin1 f) := by
    unfold sin1
    split
    · exact b1.mono (by omega)
    · exact h.mono (by omega)
  obtain ⟨a2, b2⟩ := fs_ok B_half c1 (by omega)
  have c2 : B 1077 (sin2 f) := by
    unfold sin2
    split
    · exact b2.mono (by omega)
    · exact c1.mono (by omega)
  obtain ⟨a3, b3⟩ := fm_ok c2 B_turn (by omega) (by omega)
  obtain ⟨a4, b4⟩ := fm_ok (b3.mono (show _ ≤ 1080 by omega)) (b3.mono (show _ ≤ 1080 by omega)) (by omega) (by omega)
  exact ⟨a1, a2, a3, a4, b3.mono (by omega), b4⟩

theorem sinInt (j : Nat) (hj : j < 8) : G 1074 (floatOfInt .f64 (2 * (8 - (j : Int)) * (2 * (8 - (j : Int)) + 1))) := by
  have : j = 0 ∨ j = 1 ∨ j = 2 ∨ j = 3 ∨ j = 4 ∨ j = 5 ∨ j = 6 ∨ j = 7 := by omega
  rcases this with rfl | rfl | rfl | rfl | rfl | rfl | rfl | rfl <;> exact (int_G (by decide) (by decide)).1
theorem sinPoly_bd {u : Nat} (hu : B 1086 u) : ∀ j, j ≤ 8 → B (1074 + 13 * j) (sinPoly u j) := by
  intro j
  induction j with
  | zero => intro _; exact B_one
  | succ j ih =>
    intro hj
    have h1 := ih (by omega)
    obtain ⟨_, b1⟩ := fm_ok hu h1 (by omega) (by omega)
    obtain ⟨_, b2⟩ := fd_ok b1 (sinInt j (by omega)) (by omega) (by omega)
    obtain ⟨_, b3⟩ := fs_ok B_one b2 (by omega)
    exact b3.mono (by omega)
theorem sinPoly_ok {u : Nat} (hu : B 1086 u) (j : Nat) (hj : j < 8) :
    floatBits .mul .f64 u (sinPoly u j) = some (fm u (sinPoly u j)) ∧
      floatBits .quo .f64 (fm u (sinPoly u j)) (floatOfInt .f64 (2 * (8 - (j : Int)) * (2 * (8 - (j : Int)) + 1))) = some (fd (fm u (sinPoly u j)) (floatOfInt .f64 (2 * (8 - (j : Int)) * (2 * (8 - (j : Int)) + 1)))) ∧
      floatBits .sub .f64 one (fd (fm u (sinPoly u j)) (floatOfInt .f64 (2 * (8 - (j : Int)) * (2 * (8 - (j : Int)) + 1)))) = some (sinPoly u (j + 1)) := by
  have h1 := sinPoly_bd hu j (by omega)
  obtain ⟨a1, b1⟩ := fm_ok hu h1 (by omega) (by omega)
  obtain ⟨a2, b2⟩ := fd_ok b1 (sinInt j (by omega)) (by omega) (by omega)
  obtain ⟨a3, b3⟩ := fs_ok B_one b2 (by omega)
  exact ⟨a1, a2, a3⟩
theorem sinR_ok {f : Nat} (h : B 1075 f) : floatBits .mul .f64 (sinZ f) (sinPoly (fm (sinZ f) (sinZ f)) 8) = some (sinR f) ∧ B 1184 (sinP f) := by
  obtain ⟨_, _, _, _, h5, h6⟩ := sin_ok h
  obtain ⟨a, b⟩ := fm_ok h5 (sinPoly_bd h6 8 (by omega)) (by omega) (by omega)
  refine ⟨a, ?_⟩
  unfold sinP
  split
  · exact (B_neg b).mono (by omega)
  · exact b.mono (by omega)

end Go.Proofs.Ytfmnfidocicjkaa
