/- Quarters of a turn: the part that is left, exactly. -/
import Derived.Test.YtfmnfidocicjkaaSine
import Derived.Test.YtfmnfidocicjkaaLog
set_option linter.unusedVariables false
namespace Go.Proofs.Ytfmnfidocicjkaa

def k1072 : Nat := 1072
theorem k1072_eq : k1072 = 1072 := rfl
def Q1 : Nat := 2 ^ k1072
theorem Q1_eq {K : Nat} (h : K = 1020) : Q1 = 2 ^ 52 * 2 ^ K := by
  have hk := k1072_eq
  unfold Q1
  generalize k1072 = k at *
  rw [← Nat.pow_add]
  congr 1
  omega
theorem Q4_eq {K : Nat} (h : K = 1074) : 4 * Q1 = 2 ^ K := by
  have hk := k1072_eq
  unfold Q1
  generalize k1072 = k at *
  rw [show (4 : Nat) = 2 ^ 2 from rfl, ← Nat.pow_add]
  congr 1
  omega
theorem Q1_pos : 0 < Q1 := by unfold Q1; exact Nat.two_pow_pos _

/-- A number without a sign, or 0, and its units. -/
def Part (f V : Nat) : Prop := ∃ s m i, Ieee.double.read f = .number s m i ∧ -1074 ≤ i ∧ (s = false ∨ m = 0) ∧ m * 2 ^ (i + 1074).toNat = V

theorem Part.bd {f V : Nat} (h : Part f V) (hV : V ≤ 4 * Q1) : B 1074 f := by
  obtain ⟨s, m, i, hr, hi, _, hv⟩ := h
  refine B_of hr hi ?_
  rw [hv]
  rw [Q4_eq rfl] at hV
  exact hV

theorem read_quarter : Ieee.double.read quarter = .number false 4503599627370496 (-54) := by decide

theorem sv_part {s : Bool} {m : Nat} {k : Nat} (h : s = false ∨ m = 0) : Fl.sv s (m * 2 ^ k) = ((m * 2 ^ k : Nat) : Int) := by
  rcases h with rfl | rfl
  · rfl
  · rw [Nat.zero_mul]; cases s <;> rfl

theorem order_quarter {f V : Nat} (h : Part f V) : Ieee.double.order f quarter = some (compare (V : Int) (Q1 : Int)) := by
  obtain ⟨s, m, i, hr, hi, hs, hv⟩ := h
  obtain ⟨K, hK⟩ : ∃ K : Nat, K = 1020 := ⟨_, rfl⟩
  unfold Ieee.Format.order
  rw [hr, read_quarter, Fl.order_num (L := -1074) hi (by omega)]
  have e1 : (i - -1074).toNat = (i + 1074).toNat := by congr 1
  have e2 : (-54 - -1074 : Int).toNat = K := by rw [hK]; decide
  rw [e1, e2, sv_part hs, hv]
  have e3 : 4503599627370496 * 2 ^ K = Q1 := (Q1_eq hK).symm
  rw [e3]
  rfl

theorem quarter_step {f V : Nat} (h : Part f V) (h1 : Q1 ≤ V) (h4 : V ≤ 4 * Q1) : floatBits .sub .f64 f quarter = some (fs f quarter) ∧ Part (fs f quarter) (V - Q1) := by
  have hq : floatBits .sub .f64 f quarter = some (fs f quarter) := (fs_ok (h.bd h4) B_quarter (by omega)).1
  refine ⟨hq, ?_⟩
  obtain ⟨s, m, i, hr, hi, hs, hv⟩ := h
  have hs0 : s = false := by
    rcases hs with h | h
    · exact h
    · subst h
      rw [Nat.zero_mul] at hv
      have := Q1_pos
      omega
  subst hs0
  obtain ⟨_, _, hm, _, _, hd1, _, hd2⟩ := Fl.read_fin eb64 hr
  have hfb : Ieee.double.fractionBits = 52 := rfl
  have hbin : Ieee.double.binade = 2 ^ 52 := rfl
  rw [hfb] at hm
  obtain ⟨K, hK⟩ : ∃ K : Nat, K = 1020 := ⟨_, rfl⟩
  have hQ := Q1_eq hK
  have hRpos := Nat.two_pow_pos K
  have hm52 : 2 ^ 52 ≤ m := by
    by_cases hb : f % Ieee.double.signWeight < Ieee.double.binade
    · have h5 := hd1 hb
      rw [least64] at h5
      have e : (i - -1074).toNat = (i + 1074).toNat := by congr 1
      rw [e, hv] at h5
      rw [hbin] at hb
      have : 2 ^ 52 * 1 ≤ 2 ^ 52 * 2 ^ K := Nat.mul_le_mul_left _ hRpos
      omega
    · have := hd2 (by omega)
      rw [hbin] at this
      exact this
  obtain ⟨a, ha⟩ : ∃ a, a = (i + 1074).toNat := ⟨_, rfl⟩
  rw [← ha] at hv
  have ha1 : K ≤ a := by
    rcases Nat.lt_or_ge a K with hlt | hge
    · exfalso
      have h6 : 2 ^ 53 * 2 ^ a ≤ 2 ^ 52 * 2 ^ K := by
        rw [← Nat.pow_add, ← Nat.pow_add]
        exact Nat.pow_le_pow_right (by omega) (by omega)
      have h7 : m * 2 ^ a < 2 ^ 53 * 2 ^ a := Nat.mul_lt_mul_of_pos_right hm (Nat.two_pow_pos a)
      omega
    · exact hge
  have ha2 : a ≤ K + 2 := by
    rcases Nat.lt_or_ge (K + 2) a with hlt | hge
    · exfalso
      have h6 : 2 ^ 52 * 2 ^ (K + 3) ≤ 2 ^ 52 * 2 ^ a := Nat.mul_le_mul_left _ (Nat.pow_le_pow_right (by omega) (by omega))
      have h7 : 2 ^ 52 * 2 ^ a ≤ m * 2 ^ a := Nat.mul_le_mul_right _ hm52
      rw [Nat.pow_add] at h6
      omega
    · exact hge
  obtain ⟨d, hd⟩ : ∃ d, a = K + d := ⟨a - K, by omega⟩
  have hd2' : d ≤ 2 := by omega
  subst hd
  rw [Nat.pow_add, Nat.mul_comm (2 ^ K), ← Nat.mul_assoc] at hv
  have hmd : 2 ^ 52 ≤ m * 2 ^ d := by
    rcases Nat.lt_or_ge (m * 2 ^ d) (2 ^ 52) with hlt | hge
    · have := Nat.mul_lt_mul_of_pos_right hlt hRpos
      omega
    · exact hge
  have hi' : i = -54 + (d : Int) := by omega
  have hmin : min i (-54) = -54 := by omega
  have e1 : (i - -54).toNat = d := by omega
  have e2 : ((-54 : Int) - -54).toNat = 0 := by decide
  have hsum : Ieee.signed false m d + Ieee.signed (!false) 4503599627370496 0 = ((m * 2 ^ d - 2 ^ 52 : Nat) : Int) := by
    unfold Ieee.signed
    simp only [Bool.not_false, Bool.false_eq_true, if_false, if_true, Nat.shiftLeft_eq]
    omega
  have hsub0 : floatBits .sub .f64 f quarter = some (Ieee.double.nearest (if Ieee.signed false m (i - min i (-54)).toNat + Ieee.signed (!false) 4503599627370496 (-54 - min i (-54)).toNat = 0 then false && !false else decide (Ieee.signed false m (i - min i (-54)).toNat + Ieee.signed (!false) 4503599627370496 (-54 - min i (-54)).toNat < 0)) (Ieee.signed false m (i - min i (-54)).toNat + Ieee.signed (!false) 4503599627370496 (-54 - min i (-54)).toNat).natAbs (min i (-54))) := by
    show Ieee.double.sub f quarter = _
    unfold Ieee.Format.sub
    rw [hr, read_quarter]
    rfl
  rw [hmin, e1, e2, hsum] at hsub0
  have hsub : floatBits .sub .f64 f quarter = some (Ieee.double.nearest false (m * 2 ^ d - 2 ^ 52) (-54)) := by
    have hneg : (if ((m * 2 ^ d - 2 ^ 52 : Nat) : Int) = 0 then false && !false else decide (((m * 2 ^ d - 2 ^ 52 : Nat) : Int) < 0)) = false := by
      split
      · rfl
      · exact decide_eq_false (by omega)
    rw [hsub0, Int.natAbs_natCast, hneg]
  have e : fs f quarter = Ieee.double.nearest false (m * 2 ^ d - 2 ^ 52) (-54) := by
    rw [hq] at hsub
    exact Option.some.inj hsub
  have hfac : m * 2 ^ d - 2 ^ 52 = (m - 2 ^ (52 - d)) * 2 ^ d := by
    have : d = 0 ∨ d = 1 ∨ d = 2 := by omega
    rcases this with rfl | rfl | rfl <;> omega
  rw [hfac, nearest_shift] at e
  have hbound : (m - 2 ^ (52 - d)) * 2 ^ (K + d) = V - Q1 := by
    rw [Nat.pow_add, Nat.mul_comm (2 ^ K), ← Nat.mul_assoc, ← hfac, Nat.sub_mul, hv, ← hQ]
  obtain ⟨m', p', hr', hp', hv'⟩ := Fl.nearest_exact (f := Ieee.double) (E := K + 54) (by rw [top64]; omega) eb64 false (m - 2 ^ (52 - d)) (-54 + (d : Int)) (by rw [hfb]; exact Nat.lt_of_le_of_lt (Nat.sub_le _ _) hm) (by rw [least64]; omega) (by
    rw [least64]
    have e1 : (-54 + (d : Int) - -1074).toNat = K + d := by omega
    have e2 : 2 ^ (K + 54) = 4 * Q1 := (Q4_eq (by omega)).symm
    rw [e1, e2, hbound]
    omega)
  refine ⟨false, m', p', by rw [e]; exact hr', by rw [least64] at hp'; exact hp', .inl rfl, ?_⟩
  rw [least64] at hv'
  have e1 : (p' - -1074).toNat = (p' + 1074).toNat := by congr 1
  have e2 : (-54 + (d : Int) - -1074).toNat = K + d := by omega
  rw [e1, e2, hbound] at hv'
  exact hv'

/-- A part below 0 and one more: between 0 and 1. -/
theorem fa_part {f m : Nat} {i : Int} (hr : Ieee.double.read f = .number true m i) (hi : -1074 ≤ i) (hV : m * 2 ^ (i + 1074).toNat ≤ 4 * Q1) : ∃ V, Part (fa f one) V ∧ V ≤ 4 * Q1 := by
  have h1 : Ieee.double.read one = .number false 4503599627370496 (-52) := by decide
  obtain ⟨K, hK⟩ : ∃ K : Nat, K = 1074 := ⟨_, rfl⟩
  have hQ := Q4_eq hK
  have hsum : ∃ neg, floatBits .add .f64 f one = some (Ieee.double.nearest neg (Ieee.signed true m (i - min i (-52)).toNat + Ieee.signed false 4503599627370496 (-52 - min i (-52)).toNat).natAbs (min i (-52))) ∧
      neg = (if Ieee.signed true m (i - min i (-52)).toNat + Ieee.signed false 4503599627370496 (-52 - min i (-52)).toNat = 0 then true && false else decide (Ieee.signed true m (i - min i (-52)).toNat + Ieee.signed false 4503599627370496 (-52 - min i (-52)).toNat < 0)) := by
    refine ⟨_, ?_, rfl⟩
    show Ieee.double.add f one = _
    unfold Ieee.Format.add
    rw [hr, h1]
    rfl
  obtain ⟨neg, hs, hneg⟩ := hsum
  have e : fa f one = Ieee.double.nearest neg (Ieee.signed true m (i - min i (-52)).toNat + Ieee.signed false 4503599627370496 (-52 - min i (-52)).toNat).natAbs (min i (-52)) := by unfold fa; rw [hs]; rfl
  have key : (Ieee.signed true m (i - min i (-52)).toNat + Ieee.signed false 4503599627370496 (-52 - min i (-52)).toNat) * 2 ^ (min i (-52) + 1074).toNat = (2 ^ K : Nat) - ((m * 2 ^ (i + 1074).toNat : Nat) : Int) := by
    rw [Fl.signed_sv, Fl.signed_sv, Int.add_mul, Fl.sv_scale, Fl.sv_scale, Nat.mul_assoc, Nat.mul_assoc, ← Nat.pow_add, ← Nat.pow_add]
    have a1 : (i - min i (-52)).toNat + (min i (-52) + 1074).toNat = (i + 1074).toNat := by omega
    have a2 : (-52 - min i (-52)).toNat + (min i (-52) + 1074).toNat = K - 52 := by omega
    rw [a1, a2]
    have a4 : 2 ^ 52 * 2 ^ (K - 52) = 2 ^ K := by
      have e5 : 52 + (K - 52) = K := by omega
      rw [← Nat.pow_add, e5]
    have a3 : 4503599627370496 * 2 ^ (K - 52) = 2 ^ K := a4
    rw [a3]
    generalize m * 2 ^ (i + 1074).toNat = U
    show -(U : Int) + ((2 ^ K : Nat) : Int) = _
    omega
  rw [hQ] at hV
  generalize hS : Ieee.signed true m (i - min i (-52)).toNat + Ieee.signed false 4503599627370496 (-52 - min i (-52)).toNat = S at *
  have hS0 : 0 ≤ S := by
    by_cases hl : S < 0
    · exfalso
      have hp : (0 : Int) < 2 ^ (min i (-52) + 1074).toNat := by
        have := Nat.two_pow_pos (min i (-52) + 1074).toNat
        have e : ((2 ^ (min i (-52) + 1074).toNat : Nat) : Int) = (2 : Int) ^ (min i (-52) + 1074).toNat := by simp
        omega
      have := Int.mul_neg_of_neg_of_pos hl hp
      omega
    · omega
  have hn : neg = false := by
    rw [hneg]
    split
    · rfl
    · exact decide_eq_false (by omega)
  subst hn
  clear hneg
  have hle : Fl.Le2 S.natAbs (min i (-52)) ((K : Int) + Ieee.double.leastPlace) := by
    refine Fl.le2_of (L := -1074) (by omega) (by rw [least64]; omega) ?_
    have e0 : ((K : Int) + Ieee.double.leastPlace - -1074).toNat = K := by rw [least64]; omega
    have e1 : (min i (-52) - -1074).toNat = (min i (-52) + 1074).toNat := by congr 1
    rw [e0, e1]
    have : (S.natAbs * 2 ^ (min i (-52) + 1074).toNat : Nat) = (S * 2 ^ (min i (-52) + 1074).toNat).natAbs := by
      rw [Int.natAbs_mul, Int.natAbs_pow]
      rfl
    rw [this, key]
    omega
  obtain ⟨s', m', p', hr', hp', hv'⟩ := Fl.nearest_bd (f := Ieee.double) (E := K) (by rw [top64]; omega) eb64 false _ _ hle
  have hsg : s' = false := by
    have h3 := (Fl.read_fin eb64 hr').1
    rw [h3, show Ieee.double.nearest false S.natAbs (min i (-52)) / Ieee.double.signWeight = _ from Fl.nearest_sign Ieee.double false _ _]
    rfl
  subst hsg
  rw [least64] at hp' hv'
  have e1 : (p' - -1074).toNat = (p' + 1074).toNat := by congr 1
  rw [e1] at hv'
  exact ⟨_, ⟨false, m', p', by rw [e]; exact hr', hp', .inl rfl, rfl⟩, by rw [hQ]; exact hv'⟩

theorem part_Part {t : Nat} (h : B 1074 (fs t (floatOfInt .f64 (truncV t)))) : ∃ V, Part (partV t) V ∧ V ≤ 4 * Q1 := by
  unfold partV
  generalize fs t (floatOfInt .f64 (truncV t)) = f at *
  obtain ⟨s, m, i, hr, hi, hv⟩ := h
  rw [least64] at hi hv
  have e1 : (i - -1074).toNat = (i + 1074).toNat := by congr 1
  rw [e1] at hv
  have hv' : m * 2 ^ (i + 1074).toNat ≤ 4 * Q1 := by rw [Q4_eq rfl]; exact hv
  clear hv
  have h0 : Ieee.double.read 0 = .number false 0 (-1074) := by decide
  have ho : Ieee.double.order f 0 = some (compare (Fl.sv s (m * 2 ^ (i + 1074).toNat)) 0) := by
    unfold Ieee.Format.order
    rw [hr, h0, Fl.order_num (L := -1074) hi (by omega), e1, Nat.zero_mul]
    rfl
  by_cases hl : ltB f 0 = true
  · rw [if_pos hl]
    have hs : s = true := by
      cases s
      · exfalso
        unfold ltB at hl
        rw [ho] at hl
        have : ¬ (Fl.sv false (m * 2 ^ (i + 1074).toNat) < 0) := by
          show ¬ (((m * 2 ^ (i + 1074).toNat : Nat) : Int) < 0)
          omega
        exact this (Int.compare_eq_lt.1 (by simpa using hl))
      · rfl
    subst hs
    exact fa_part hr hi hv'
  · rw [if_neg hl]
    refine ⟨_, ⟨s, m, i, hr, hi, ?_, rfl⟩, hv'⟩
    cases s
    · exact .inl rfl
    · right
      rcases Nat.eq_zero_or_pos m with h | h
      · exact h
      · exfalso
        apply hl
        unfold ltB
        rw [ho]
        have hp := Nat.mul_pos h (Nat.two_pow_pos (i + 1074).toNat)
        generalize m * 2 ^ (i + 1074).toNat = U at *
        have : Fl.sv true U < 0 := by
          show -(U : Int) < 0
          omega
        rw [Int.compare_eq_lt.2 this]
        rfl

def qF (f : Nat) : Nat → Nat
  | 0 => f
  | k + 1 => fs (qF f k) quarter

/-- What the rounds keep. -/
def Rounds (f V k : Nat) : Prop := Part (qF f k) (V - k * Q1) ∧ k * Q1 ≤ V ∧ V ≤ 4 * Q1

theorem Rounds.zero {f V : Nat} (h : Part f V) (hV : V ≤ 4 * Q1) : Rounds f V 0 := ⟨by simpa [qF] using h, by omega, hV⟩
theorem Rounds.le {f V k : Nat} (h : Rounds f V k) : k ≤ 4 := by
  obtain ⟨_, h1, h2⟩ := h
  have := Q1_pos
  rcases Nat.lt_or_ge 4 k with hk | hk
  · have := Nat.mul_le_mul_right Q1 hk
    omega
  · exact hk
theorem Rounds.more {f V k : Nat} (h : Rounds f V k) (hg : geB (qF f k) quarter = true) : floatBits .sub .f64 (qF f k) quarter = some (qF f (k + 1)) ∧ Rounds f V (k + 1) := by
  obtain ⟨h1, h2, h3⟩ := h
  have ho := order_quarter h1
  have hq : Q1 ≤ V - k * Q1 := by
    unfold geB at hg
    rw [ho] at hg
    by_cases hl : (((V - k * Q1 : Nat) : Int)) < (Q1 : Int)
    · rw [Int.compare_eq_lt.2 hl] at hg
      cases hg
    · omega
  obtain ⟨h4, h5⟩ := quarter_step h1 hq (by omega)
  have e : (k + 1) * Q1 = k * Q1 + Q1 := by rw [Nat.add_mul, Nat.one_mul]
  refine ⟨h4, ?_, by omega, h3⟩
  rw [e, ← Nat.sub_sub]
  exact h5
theorem Rounds.done {f V k : Nat} (h : Rounds f V k) (hg : geB (qF f k) quarter = false) : k = V / Q1 := by
  obtain ⟨h1, h2, h3⟩ := h
  have ho := order_quarter h1
  have hq : V - k * Q1 < Q1 := by
    unfold geB at hg
    rw [ho] at hg
    rcases Int.lt_trichotomy (((V - k * Q1 : Nat) : Int)) (Q1 : Int) with hl | hl | hl
    · omega
    · rw [Int.compare_eq_eq.2 hl] at hg
      cases hg
    · rw [Int.compare_eq_gt.2 hl] at hg
      cases hg
  have e : (k + 1) * Q1 = k * Q1 + Q1 := by rw [Nat.add_mul, Nat.one_mul]
  exact (Nat.div_eq_of_lt_le h2 (by omega)).symm
theorem Rounds.bd {f V k : Nat} (h : Rounds f V k) : B 1074 (qF f k) := h.1.bd (by have := h.2.2; omega)

end Go.Proofs.Ytfmnfidocicjkaa
