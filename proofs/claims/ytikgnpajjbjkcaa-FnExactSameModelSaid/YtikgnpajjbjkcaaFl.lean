/- Plain facts on binary floating point: what rounding keeps of a bound by a power of two; sums, products, quotients and roots of bounded finite numbers are finite and bounded. No program is named here. -/
import Derived.Laws.FloatArith
set_option linter.unusedVariables false
namespace Go.Proofs.Ytikgnpajjbjkcaa.Fl
open Ieee

theorem log2_le (n : Nat) (h : n ≠ 0) : 2 ^ n.log2 ≤ n := Nat.log2_self_le h
theorem lt_log2 (n : Nat) : n < 2 ^ (n.log2 + 1) := by
  by_cases h : n = 0
  · subst h; exact Nat.two_pow_pos _
  · exact (Nat.log2_lt h).1 (Nat.lt_succ_self _)

theorem cut_zero (s : Bool) (n : Nat) : Toward.even.cut s n 0 = n := by
  have h : n % 1 = 0 := Nat.mod_one n
  simp [Toward.cut, h]

theorem cut_le (s : Bool) (n d q : Nat) (h : n ≤ q * 2 ^ d) : Toward.even.cut s n d ≤ q := by
  unfold Toward.cut
  dsimp only
  by_cases hd : d ≤ n.log2 + 2
  · rw [Nat.min_eq_left hd, Nat.one_shiftLeft]
    have hp : 0 < 2 ^ d := Nat.two_pow_pos d
    have e := Nat.div_add_mod n (2 ^ d)
    by_cases hr : n % 2 ^ d = 0
    · rw [hr]
      have : (decide (2 ^ d < 2 * 0) || 2 ^ d == 2 * 0 && n / 2 ^ d % 2 == 1) = false := by
        have : ¬ 2 ^ d = 0 := by omega
        simp
      rw [this]
      simp
      exact Nat.div_le_of_le_mul (by rw [Nat.mul_comm]; exact h)
    · have hlt : n / 2 ^ d < q := by
        apply Nat.lt_of_mul_lt_mul_left (a := 2 ^ d)
        rw [Nat.mul_comm (2 ^ d) q]
        omega
      have := Bool.toNat_le (decide (2 ^ d < 2 * (n % 2 ^ d)) || 2 ^ d == 2 * (n % 2 ^ d) && n / 2 ^ d % 2 == 1)
      omega
  · rw [Nat.min_eq_right (by omega), Nat.one_shiftLeft]
    have hl := lt_log2 n
    have h4 : 2 ^ (n.log2 + 2) = 2 * 2 ^ (n.log2 + 1) := by rw [show n.log2 + 2 = (n.log2 + 1) + 1 from rfl, Nat.pow_succ]; omega
    have h0 : n / 2 ^ (n.log2 + 2) = 0 := Nat.div_eq_of_lt (by omega)
    have hm : n % 2 ^ (n.log2 + 2) = n := Nat.mod_eq_of_lt (by omega)
    rw [h0, hm]
    have : (decide (2 ^ (n.log2 + 2) < 2 * n) || 2 ^ (n.log2 + 2) == 2 * n && 0 % 2 == 1) = false := by
      simp; omega
    rw [this]; simp

theorem le_cut (s : Bool) (n d q : Nat) (h : q * 2 ^ d ≤ n) : q ≤ Toward.even.cut s n d := by
  unfold Toward.cut
  dsimp only
  by_cases hd : d ≤ n.log2 + 2
  · rw [Nat.min_eq_left hd, Nat.one_shiftLeft]
    have : q ≤ n / 2 ^ d := (Nat.le_div_iff_mul_le (Nat.two_pow_pos d)).2 h
    exact Nat.le_trans this (Nat.le_add_right _ _)
  · have hl := lt_log2 n
    have : q = 0 := by
      refine Nat.eq_zero_of_not_pos fun hq => ?_
      have h1 : 2 ^ (n.log2 + 1) ≤ 2 ^ d := Nat.pow_le_pow_right (by omega) (by omega)
      have h2 : 1 * 2 ^ d ≤ q * 2 ^ d := Nat.mul_le_mul_right _ hq
      omega
    rw [this]
    exact Nat.zero_le _

/-- The shape of a rung that 'nearest' gives: kept digits at a place. -/
theorem read_rung (f : Format) (neg : Bool) (Q k : Nat) (hk : k ≤ 2 * f.binade) (hQ : Q = 0 ∨ f.binade ≤ k) (hr : Q * f.binade + k < f.infRung) :
    ∃ m p, f.read (f.word neg (Q * f.binade + k)) = .number neg m p ∧ f.leastPlace ≤ p ∧ m * 2 ^ (p - f.leastPlace).toNat = k * 2 ^ Q := by
  have hb : 0 < f.binade := Nat.two_pow_pos _
  have hs : f.infRung + f.binade = f.signWeight := f.infRung_add_binade
  have hsp : 0 < f.signWeight := Nat.two_pow_pos _
  have hdiv : f.word neg (Q * f.binade + k) / f.signWeight % 2 = neg.toNat := by
    unfold Format.word
    cases neg
    · simp only [Bool.false_eq_true, if_false, Bool.toNat_false]
      rw [Nat.div_eq_of_lt (by omega)]
    · simp only [if_true, Bool.toNat_true]
      rw [Nat.add_comm f.signWeight, Nat.add_div_right _ hsp, Nat.div_eq_of_lt (by omega)]
  have hmod : f.word neg (Q * f.binade + k) % f.signWeight = Q * f.binade + k := by
    unfold Format.word
    cases neg
    · simp only [Bool.false_eq_true, if_false]
      exact Nat.mod_eq_of_lt (by omega)
    · simp only [if_true]
      rw [Nat.add_mod_left]
      exact Nat.mod_eq_of_lt (by omega)
  have hneg : (f.word neg (Q * f.binade + k) / f.signWeight % 2 == 1) = neg := by
    rw [hdiv]; cases neg <;> rfl
  unfold Format.read
  simp only [hneg, hmod]
  by_cases h1 : Q * f.binade + k < f.binade
  · rw [if_pos h1]
    have : Q = 0 := by
      rcases hQ with h | h
      · exact h
      · omega
    subst this
    exact ⟨_, _, rfl, Int.le_refl _, by simp⟩
  · rw [if_neg h1, if_pos hr]
    refine ⟨_, _, rfl, by omega, ?_⟩
    generalize hB : f.binade = B at *
    -- the carry: k = 2 B
    by_cases hk2 : k = 2 * B
    · have hd : (Q * B + k) / B = Q + 2 := by
        rw [hk2, show Q * B + 2 * B = (Q + 2) * B by rw [Nat.add_mul], Nat.mul_div_cancel _ hb]
      have hm : (Q * B + k) % B = 0 := by
        rw [hk2, show Q * B + 2 * B = (Q + 2) * B by rw [Nat.add_mul], Nat.mul_mod_left]
      rw [hd, hm, hk2]
      have : (f.leastPlace + ((Q + 2 - 1 : Nat) : Int) - f.leastPlace).toNat = Q + 1 := by omega
      rw [this, Nat.pow_succ]
      simp only [Nat.add_zero]
      rw [← Nat.mul_assoc, Nat.mul_comm B, Nat.mul_assoc, Nat.mul_comm B, Nat.mul_comm 2 B, Nat.mul_assoc B, Nat.mul_comm (2 ^ Q) (B * 2), Nat.mul_assoc, Nat.mul_comm B]
    · by_cases hkB : B ≤ k
      · have hd : (Q * B + k) / B = Q + 1 := by
          rw [show Q * B + k = (k - B) + B * (Q + 1) by rw [Nat.mul_add, Nat.mul_one, Nat.mul_comm B Q]; omega, Nat.add_mul_div_left _ _ hb, Nat.div_eq_of_lt (by omega)]
          omega
        have hm : (Q * B + k) % B = k - B := by
          rw [show Q * B + k = (k - B) + B * (Q + 1) by rw [Nat.mul_add, Nat.mul_one, Nat.mul_comm B Q]; omega, Nat.add_mul_mod_self_left]
          exact Nat.mod_eq_of_lt (by omega)
        rw [hd, hm]
        have : (f.leastPlace + ((Q + 1 - 1 : Nat) : Int) - f.leastPlace).toNat = Q := by omega
        rw [this]
        congr 1
        omega
      · exfalso
        rcases hQ with h | h
        · subst h; omega
        · exact hkB h

/-- mag * 2^p ≤ 2^q, over whole numbers. -/
def Le2 (mag : Nat) (p q : Int) : Prop := mag * 2 ^ (p - q).toNat ≤ 2 ^ (q - p).toNat
def Ge2 (mag : Nat) (p q : Int) : Prop := 2 ^ (q - p).toNat ≤ mag * 2 ^ (p - q).toNat

/-- A finite word whose units are at most 2^E. -/
def Bd (f : Format) (E : Nat) (x : Nat) : Prop := ∃ s m p, f.read x = .number s m p ∧ f.leastPlace ≤ p ∧ m * 2 ^ (p - f.leastPlace).toNat ≤ 2 ^ E
/-- A finite word whose units are at least 2^F. -/
def Gb (f : Format) (F : Nat) (x : Nat) : Prop := ∃ s m p, f.read x = .number s m p ∧ f.leastPlace ≤ p ∧ 2 ^ F ≤ m * 2 ^ (p - f.leastPlace).toNat

theorem read_word_zero (f : Format) (neg : Bool) : f.read (f.word neg 0) = .number neg 0 f.leastPlace := by
  have hb : 0 < f.binade := Nat.two_pow_pos _
  have hsp : 0 < f.signWeight := Nat.two_pow_pos _
  unfold Format.read Format.word
  cases neg
  · simp [hb]
  · simp [hb, Nat.div_self hsp]

/-- 'nearest', taken apart. -/
theorem nearest_parts (f : Format) (neg : Bool) (mag : Nat) (place : Int) (h0 : mag ≠ 0) :
    ∃ (Q k : Nat), f.nearest neg mag place = f.word neg (min (Q * f.binade + k) f.infRung) ∧ k ≤ 2 * f.binade ∧ (Q = 0 ∨ f.binade ≤ k) ∧
      (∀ E : Nat, Le2 mag place (E + f.leastPlace) → k * 2 ^ Q ≤ 2 ^ E) ∧ (∀ F : Nat, Ge2 mag place (F + f.leastPlace) → 2 ^ F ≤ k * 2 ^ Q) := by
  have hlog := log2_le mag h0
  have hlt := lt_log2 mag
  have hbin : f.binade = 2 ^ f.fractionBits := rfl
  unfold Format.nearest
  rw [if_neg h0]
  dsimp only
  generalize hlast : max (place + (mag.log2 : Int) - (f.fractionBits : Int)) f.leastPlace = last
  have hlL : f.leastPlace ≤ last := by omega
  have hlp : place + (mag.log2 : Int) - (f.fractionBits : Int) ≤ last := by omega
  refine ⟨(last - f.leastPlace).toNat, _, rfl, ?_, ?_, ?_, ?_⟩
  · -- k ≤ 2 * binade
    by_cases hd : last ≤ place
    · have : (last - place).toNat = 0 := by omega
      rw [this, cut_zero, Nat.shiftLeft_eq, hbin]
      have h1 : mag * 2 ^ (place - last).toNat ≤ 2 ^ (mag.log2 + 1) * 2 ^ (place - last).toNat := Nat.mul_le_mul_right _ (by omega)
      rw [← Nat.pow_add] at h1
      have h2 : 2 ^ (mag.log2 + 1 + (place - last).toNat) ≤ 2 ^ (f.fractionBits + 1) := Nat.pow_le_pow_right (by omega) (by omega)
      rw [Nat.pow_succ 2 f.fractionBits] at h2
      omega
    · have : (place - last).toNat = 0 := by omega
      rw [this, Nat.shiftLeft_zero]
      apply cut_le
      rw [hbin]
      have h2 : 2 ^ (mag.log2 + 1) ≤ 2 ^ (f.fractionBits + 1 + (last - place).toNat) := Nat.pow_le_pow_right (by omega) (by omega)
      rw [Nat.pow_add 2 (f.fractionBits + 1), Nat.pow_succ 2 f.fractionBits, Nat.mul_comm (2 ^ f.fractionBits) 2] at h2
      omega
  · -- Q = 0 or full
    by_cases hz : last = f.leastPlace
    · left; omega
    · right
      have hle : last = place + (mag.log2 : Int) - (f.fractionBits : Int) := by omega
      by_cases hd : last ≤ place
      · have : (last - place).toNat = 0 := by omega
        rw [this, cut_zero, Nat.shiftLeft_eq, hbin]
        have h1 : 2 ^ mag.log2 * 2 ^ (place - last).toNat ≤ mag * 2 ^ (place - last).toNat := Nat.mul_le_mul_right _ hlog
        rw [← Nat.pow_add] at h1
        have : mag.log2 + (place - last).toNat = f.fractionBits := by omega
        rw [this] at h1
        exact h1
      · have : (place - last).toNat = 0 := by omega
        rw [this, Nat.shiftLeft_zero]
        apply le_cut
        rw [hbin, ← Nat.pow_add]
        have : f.fractionBits + (last - place).toNat = mag.log2 := by omega
        rw [this]; exact hlog
  · -- upper bound
    intro E hE
    unfold Le2 at hE
    have hpl : place + (mag.log2 : Int) ≤ E + f.leastPlace := by
      refine Int.not_lt.1 fun hc => ?_
      have h1 : 2 ^ mag.log2 * 2 ^ (place - (E + f.leastPlace)).toNat ≤ 2 ^ (E + f.leastPlace - place).toNat := Nat.le_trans (Nat.mul_le_mul_right _ hlog) hE
      rw [← Nat.pow_add] at h1
      have h2 := (Nat.pow_le_pow_iff_right (a := 2) (by omega)).1 h1
      omega
    have hQE : (last - f.leastPlace).toNat ≤ E := by omega
    have key : ∀ k, k ≤ 2 ^ (E - (last - f.leastPlace).toNat) → k * 2 ^ (last - f.leastPlace).toNat ≤ 2 ^ E := by
      intro k hk
      have := Nat.mul_le_mul_right (2 ^ (last - f.leastPlace).toNat) hk
      rw [← Nat.pow_add, Nat.sub_add_cancel hQE] at this
      exact this
    apply key
    by_cases hd : last ≤ place
    · have : (last - place).toNat = 0 := by omega
      rw [this, cut_zero, Nat.shiftLeft_eq]
      -- mag * 2^(place - last) ≤ 2^(E + L - last)
      by_cases hpe : place ≤ E + f.leastPlace
      · have e1 : (place - (E + f.leastPlace)).toNat = 0 := by omega
        rw [e1, Nat.pow_zero, Nat.mul_one] at hE
        have := Nat.mul_le_mul_right (2 ^ (place - last).toNat) hE
        rw [← Nat.pow_add] at this
        have e2 : (E + f.leastPlace - place).toNat + (place - last).toNat = E - (last - f.leastPlace).toNat := by omega
        rw [e2] at this
        exact this
      · exfalso
        have : 0 ≤ (mag.log2 : Int) := by omega
        omega
    · have : (place - last).toNat = 0 := by omega
      rw [this, Nat.shiftLeft_zero]
      apply cut_le
      have e1 : (place - (E + f.leastPlace)).toNat = 0 := by omega
      rw [e1, Nat.pow_zero, Nat.mul_one] at hE
      rw [← Nat.pow_add]
      have e2 : E - (last - f.leastPlace).toNat + (last - place).toNat = (E + f.leastPlace - place).toNat := by omega
      rw [e2]; exact hE
  · -- lower bound
    intro F hF
    unfold Ge2 at hF
    by_cases hQF : F ≤ (last - f.leastPlace).toNat
    · by_cases hz : last = f.leastPlace
      · have h0 : F = 0 := by omega
        subst h0
        have e0 : (last - f.leastPlace).toNat = 0 := by omega
        rw [e0, Nat.pow_zero, Nat.mul_one]
        by_cases hd : last ≤ place
        · have : (last - place).toNat = 0 := by omega
          rw [this, cut_zero, Nat.shiftLeft_eq]
          exact Nat.mul_pos (by omega) (Nat.two_pow_pos _)
        · have : (place - last).toNat = 0 := by omega
          rw [this, Nat.shiftLeft_zero]
          apply le_cut
          have e1 : (place - ((0 : Nat) + f.leastPlace)).toNat = 0 := by omega
          rw [e1, Nat.pow_zero, Nat.mul_one] at hF
          have e2 : ((0 : Nat) + f.leastPlace - place).toNat = (last - place).toNat := by omega
          rw [e2] at hF
          omega
      · have hle : last = place + (mag.log2 : Int) - (f.fractionBits : Int) := by omega
        have h1 : 2 ^ F ≤ 2 ^ (last - f.leastPlace).toNat := Nat.pow_le_pow_right (by omega) hQF
        refine Nat.le_trans h1 (Nat.le_mul_of_pos_left _ ?_)
        by_cases hd : last ≤ place
        · have : (last - place).toNat = 0 := by omega
          rw [this, cut_zero, Nat.shiftLeft_eq]
          exact Nat.mul_pos (by omega) (Nat.two_pow_pos _)
        · have : (place - last).toNat = 0 := by omega
          rw [this, Nat.shiftLeft_zero]
          apply le_cut
          rw [Nat.one_mul]
          refine Nat.le_trans ?_ hlog
          exact Nat.pow_le_pow_right (by omega) (by omega)
    · have key : ∀ k, 2 ^ (F - (last - f.leastPlace).toNat) ≤ k → 2 ^ F ≤ k * 2 ^ (last - f.leastPlace).toNat := by
        intro k hk
        have := Nat.mul_le_mul_right (2 ^ (last - f.leastPlace).toNat) hk
        rw [← Nat.pow_add, Nat.sub_add_cancel (by omega)] at this
        exact this
      apply key
      by_cases hd : last ≤ place
      · have : (last - place).toNat = 0 := by omega
        rw [this, cut_zero, Nat.shiftLeft_eq]
        by_cases hpe : place ≤ F + f.leastPlace
        · have e1 : (place - (F + f.leastPlace)).toNat = 0 := by omega
          rw [e1, Nat.pow_zero, Nat.mul_one] at hF
          have := Nat.mul_le_mul_right (2 ^ (place - last).toNat) hF
          rw [← Nat.pow_add] at this
          have e2 : (F + f.leastPlace - place).toNat + (place - last).toNat = F - (last - f.leastPlace).toNat := by omega
          rw [e2] at this
          exact this
        · have e2 : 2 ^ (F - (last - f.leastPlace).toNat) ≤ 2 ^ (place - last).toNat := Nat.pow_le_pow_right (by omega) (by omega)
          exact Nat.le_trans e2 (Nat.le_mul_of_pos_left _ (by omega))
      · have : (place - last).toNat = 0 := by omega
        rw [this, Nat.shiftLeft_zero]
        apply le_cut
        have e1 : (place - (F + f.leastPlace)).toNat = 0 := by omega
        rw [e1, Nat.pow_zero, Nat.mul_one] at hF
        rw [← Nat.pow_add]
        have e2 : F - (last - f.leastPlace).toNat + (last - place).toNat = (F + f.leastPlace - place).toNat := by omega
        rw [e2]; exact hF

/-- The greatest exponent (in units) that stays finite. -/
def top (f : Format) : Nat := f.fractionBits + 2 ^ f.exponentBits - 3

theorem infRung_of {f : Format} {E Q k : Nat} (hE : E ≤ top f) (heb : 2 ≤ f.exponentBits) (hk : k ≤ 2 * f.binade) (hQ : Q = 0 ∨ f.binade ≤ k) (hb : k * 2 ^ Q ≤ 2 ^ E) : Q * f.binade + k < f.infRung := by
  have hB : 0 < f.binade := Nat.two_pow_pos _
  have h4 : 2 ^ 2 ≤ 2 ^ f.exponentBits := Nat.pow_le_pow_right (by omega) heb
  unfold Format.infRung
  unfold top at hE
  generalize hX : 2 ^ f.exponentBits = X at *
  have hbin : f.binade = 2 ^ f.fractionBits := rfl
  rcases hQ with h | h
  · subst h
    rw [Nat.zero_mul, Nat.zero_add]
    have : 3 * f.binade ≤ (X - 1) * f.binade := Nat.mul_le_mul_right _ (by omega)
    omega
  · have h1 : 2 ^ (f.fractionBits + Q) ≤ 2 ^ E := by
      rw [Nat.pow_add, ← hbin]
      exact Nat.le_trans (Nat.mul_le_mul_right _ h) hb
    have h2 := (Nat.pow_le_pow_iff_right (a := 2) (by omega)).1 h1
    by_cases hq : Q + 3 = X
    · -- then k = binade
      have hEe : E = f.fractionBits + Q := by omega
      rw [hEe, Nat.pow_add, ← hbin] at hb
      have hk' : k ≤ f.binade := Nat.le_of_mul_le_mul_right hb (Nat.two_pow_pos _)
      have : (Q + 2) * f.binade = (X - 1) * f.binade := by congr 1; omega
      rw [← this, Nat.add_mul]
      omega
    · have : (Q + 3) * f.binade ≤ (X - 1) * f.binade := Nat.mul_le_mul_right _ (by omega)
      rw [Nat.add_mul] at this
      omega

theorem nearest_bd {f : Format} {E : Nat} (hE : E ≤ top f) (heb : 2 ≤ f.exponentBits) (neg : Bool) (mag : Nat) (place : Int) (h : Le2 mag place (E + f.leastPlace)) : Bd f E (f.nearest neg mag place) := by
  by_cases h0 : mag = 0
  · subst h0
    refine ⟨neg, 0, f.leastPlace, ?_, Int.le_refl _, by simp⟩
    rw [show f.nearest neg 0 place = f.word neg 0 by simp [Format.nearest]]
    exact read_word_zero f neg
  · obtain ⟨Q, k, he, hk, hQ, hu, hl⟩ := nearest_parts f neg mag place h0
    have hb := hu E h
    have hi := infRung_of hE heb hk hQ hb
    rw [he, Nat.min_eq_left (Nat.le_of_lt hi)]
    obtain ⟨m, p, hr, hp, hm⟩ := read_rung f neg Q k hk hQ hi
    exact ⟨neg, m, p, hr, hp, by rw [hm]; exact hb⟩

theorem nearest_gb {f : Format} {E F : Nat} (hE : E ≤ top f) (heb : 2 ≤ f.exponentBits) (neg : Bool) (mag : Nat) (place : Int) (h : Le2 mag place (E + f.leastPlace)) (hF : Ge2 mag place (F + f.leastPlace)) : Gb f F (f.nearest neg mag place) := by
  have h0 : mag ≠ 0 := by
    intro h0
    unfold Ge2 at hF
    rw [h0, Nat.zero_mul] at hF
    have := Nat.two_pow_pos (F + f.leastPlace - place).toNat
    omega
  obtain ⟨Q, k, he, hk, hQ, hu, hl⟩ := nearest_parts f neg mag place h0
  have hb := hu E h
  have hi := infRung_of hE heb hk hQ hb
  rw [he, Nat.min_eq_left (Nat.le_of_lt hi)]
  obtain ⟨m, p, hr, hp, hm⟩ := read_rung f neg Q k hk hQ hi
  exact ⟨neg, m, p, hr, hp, by rw [hm]; exact hl F hF⟩

theorem le2_of {mag : Nat} {p q L : Int} (hp : L ≤ p) (hq : L ≤ q) (h : mag * 2 ^ (p - L).toNat ≤ 2 ^ (q - L).toNat) : Le2 mag p q := by
  unfold Le2
  by_cases hpq : p ≤ q
  · have e1 : (p - q).toNat = 0 := by omega
    rw [e1, Nat.pow_zero, Nat.mul_one]
    have e2 : (q - L).toNat = (q - p).toNat + (p - L).toNat := by omega
    rw [e2, Nat.pow_add] at h
    exact Nat.le_of_mul_le_mul_right h (Nat.two_pow_pos _)
  · have e1 : (q - p).toNat = 0 := by omega
    rw [e1, Nat.pow_zero]
    have e2 : (p - L).toNat = (p - q).toNat + (q - L).toNat := by omega
    rw [e2, Nat.pow_add, ← Nat.mul_assoc] at h
    have h' : mag * 2 ^ (p - q).toNat * 2 ^ (q - L).toNat ≤ 1 * 2 ^ (q - L).toNat := by rw [Nat.one_mul]; exact h
    exact Nat.le_of_mul_le_mul_right h' (Nat.two_pow_pos _)

theorem ge2_of {mag : Nat} {p q L : Int} (hp : L ≤ p) (hq : L ≤ q) (h : 2 ^ (q - L).toNat ≤ mag * 2 ^ (p - L).toNat) : Ge2 mag p q := by
  unfold Ge2
  by_cases hpq : p ≤ q
  · have e1 : (p - q).toNat = 0 := by omega
    rw [e1, Nat.pow_zero, Nat.mul_one]
    have e2 : (q - L).toNat = (q - p).toNat + (p - L).toNat := by omega
    rw [e2, Nat.pow_add] at h
    exact Nat.le_of_mul_le_mul_right h (Nat.two_pow_pos _)
  · have e1 : (q - p).toNat = 0 := by omega
    rw [e1, Nat.pow_zero]
    have e2 : (p - L).toNat = (p - q).toNat + (q - L).toNat := by omega
    rw [e2, Nat.pow_add, ← Nat.mul_assoc] at h
    have h' : 1 * 2 ^ (q - L).toNat ≤ mag * 2 ^ (p - q).toNat * 2 ^ (q - L).toNat := by rw [Nat.one_mul]; exact h
    exact Nat.le_of_mul_le_mul_right h' (Nat.two_pow_pos _)

theorem signed_natAbs (s : Bool) (m u : Nat) : (signed s m u).natAbs = m * 2 ^ u := by
  cases s
  · show ((m <<< u : Nat) : Int).natAbs = _
    rw [Int.natAbs_natCast, Nat.shiftLeft_eq]
  · show (-((m <<< u : Nat) : Int)).natAbs = _
    rw [Int.natAbs_neg, Int.natAbs_natCast, Nat.shiftLeft_eq]

theorem Bd.mono {f : Format} {E E' x : Nat} (h : Bd f E x) (he : E ≤ E') : Bd f E' x := by
  obtain ⟨s, m, p, h1, h2, h3⟩ := h
  exact ⟨s, m, p, h1, h2, Nat.le_trans h3 (Nat.pow_le_pow_right (by omega) he)⟩

theorem sum_bd {f : Format} {E E' : Nat} {dx dy : Datum} (hx : ∃ s m p, dx = .number s m p ∧ f.leastPlace ≤ p ∧ m * 2 ^ (p - f.leastPlace).toNat ≤ 2 ^ E)
    (hy : ∃ s m p, dy = .number s m p ∧ f.leastPlace ≤ p ∧ m * 2 ^ (p - f.leastPlace).toNat ≤ 2 ^ E') (heb : 2 ≤ f.exponentBits) (ht : max E E' + 1 ≤ top f) :
    ∃ d, dx.sum dy = some d ∧ Bd f (max E E' + 1) (f.write d) := by
  obtain ⟨s, m, i, rfl, hi, hm⟩ := hx
  obtain ⟨t, n, j, rfl, hj, hn⟩ := hy
  refine ⟨_, rfl, ?_⟩
  show Bd f _ (f.nearest _ _ _)
  refine nearest_bd ht heb _ _ _ (le2_of (L := f.leastPlace) (by omega) (by omega) ?_)
  have e0 : (((max E E' + 1 : Nat) : Int) + f.leastPlace - f.leastPlace).toNat = max E E' + 1 := by omega
  rw [e0]
  have ha : (signed s m (i - min i j).toNat + signed t n (j - min i j).toNat).natAbs ≤ m * 2 ^ (i - min i j).toNat + n * 2 ^ (j - min i j).toNat := by
    refine Nat.le_trans (Int.natAbs_add_le _ _) ?_
    rw [signed_natAbs, signed_natAbs]
    exact Nat.le_refl _
  refine Nat.le_trans (Nat.mul_le_mul_right _ ha) ?_
  rw [Nat.add_mul, Nat.mul_assoc, Nat.mul_assoc, ← Nat.pow_add, ← Nat.pow_add]
  have e1 : (i - min i j).toNat + (min i j - f.leastPlace).toNat = (i - f.leastPlace).toNat := by omega
  have e2 : (j - min i j).toNat + (min i j - f.leastPlace).toNat = (j - f.leastPlace).toNat := by omega
  rw [e1, e2]
  have h1 : 2 ^ E ≤ 2 ^ (max E E') := Nat.pow_le_pow_right (by omega) (by omega)
  have h2 : 2 ^ E' ≤ 2 ^ (max E E') := Nat.pow_le_pow_right (by omega) (by omega)
  rw [Nat.pow_succ]
  omega

theorem add_bd {f : Format} {E E' x y : Nat} (hx : Bd f E x) (hy : Bd f E' y) (heb : 2 ≤ f.exponentBits) (ht : max E E' + 1 ≤ top f) :
    ∃ r, f.add x y = some r ∧ Bd f (max E E' + 1) r := by
  obtain ⟨d, hd, hb⟩ := sum_bd (f := f) hx hy heb ht
  exact ⟨_, by unfold Format.add; rw [hd]; rfl, hb⟩

theorem sub_bd {f : Format} {E E' x y : Nat} (hx : Bd f E x) (hy : Bd f E' y) (heb : 2 ≤ f.exponentBits) (ht : max E E' + 1 ≤ top f) :
    ∃ r, f.sub x y = some r ∧ Bd f (max E E' + 1) r := by
  obtain ⟨t, n, j, h1, h2, h3⟩ := hy
  obtain ⟨d, hd, hb⟩ := sum_bd (f := f) (dy := (f.read y).opposite) hx ⟨!t, n, j, by rw [h1]; rfl, h2, h3⟩ heb ht
  exact ⟨_, by unfold Format.sub; rw [hd]; rfl, hb⟩

theorem mul_bd {f : Format} {E E' K x y : Nat} (hK : f.leastPlace = -(K : Int)) (hx : Bd f E x) (hy : Bd f E' y) (heb : 2 ≤ f.exponentBits) (hlow : K ≤ E + E') (ht : E + E' - K ≤ top f) :
    ∃ r, f.mul x y = some r ∧ Bd f (E + E' - K) r := by
  obtain ⟨s, m, i, h1, hi, hm⟩ := hx
  obtain ⟨t, n, j, h2, hj, hn⟩ := hy
  refine ⟨f.nearest (s ^^ t) (m * n) (i + j), by unfold Format.mul; rw [h1, h2]; rfl, ?_⟩
  refine nearest_bd ht heb _ _ _ (le2_of (L := f.leastPlace + f.leastPlace) (by omega) (by omega) ?_)
  have e0 : (((E + E' - K : Nat) : Int) + f.leastPlace - (f.leastPlace + f.leastPlace)).toNat = E + E' := by omega
  have e1 : (i + j - (f.leastPlace + f.leastPlace)).toNat = (i - f.leastPlace).toNat + (j - f.leastPlace).toNat := by omega
  rw [e0, e1, Nat.pow_add, Nat.pow_add]
  have := Nat.mul_le_mul hm hn
  rw [show m * n * (2 ^ (i - f.leastPlace).toNat * 2 ^ (j - f.leastPlace).toNat) = m * 2 ^ (i - f.leastPlace).toNat * (n * 2 ^ (j - f.leastPlace).toNat) by
    rw [Nat.mul_assoc, Nat.mul_assoc]; congr 1; rw [← Nat.mul_assoc, Nat.mul_comm n, Nat.mul_assoc]]
  exact this

theorem quot_cut {D n Z : Nat} (hn : 0 < n) (h : D ≤ Z * n) : 2 * (D / n) + (D % n != 0).toNat ≤ 2 * Z := by
  have e := Nat.div_add_mod D n
  by_cases hr : D % n = 0
  · have : D / n ≤ Z := Nat.div_le_of_le_mul (by rw [Nat.mul_comm]; exact h)
    simp [hr]; omega
  · have hlt : D / n < Z := by
      apply Nat.lt_of_mul_lt_mul_left (a := n)
      rw [Nat.mul_comm n Z]
      omega
    have : (D % n != 0).toNat ≤ 1 := Bool.toNat_le _
    omega

theorem div_bd {f : Format} {E F K x y : Nat} (hK : f.leastPlace = -(K : Int)) (hx : Bd f E x) (hy : Gb f F y) (heb : 2 ≤ f.exponentBits) (hlow : F ≤ E + K) (ht : E + K - F ≤ top f) :
    ∃ r, f.div x y = some r ∧ Bd f (E + K - F) r := by
  obtain ⟨s, m, i, h1, hi, hm⟩ := hx
  obtain ⟨t, n, j, h2, hj, hn⟩ := hy
  have hn0 : n ≠ 0 := by
    intro h; subst h
    rw [Nat.zero_mul] at hn
    have := Nat.two_pow_pos F
    omega
  unfold Format.div
  rw [h1, h2]
  simp only [Datum.quotient, if_neg hn0]
  refine ⟨_, rfl, ?_⟩
  generalize hmore : f.fractionBits + 2 + n.log2 - m.log2 = more
  show Bd f _ (f.nearest _ _ _)
  refine nearest_bd ht heb _ _ _ ?_
  by_cases hm0 : m = 0
  · subst hm0
    simp [Le2]
  · rw [Nat.shiftLeft_eq]
    generalize hD : m * 2 ^ more = D
    have hlm := log2_le m hm0
    have hln := lt_log2 n
    have hDn : 2 * n ≤ D := by
      have h3 : 2 ^ m.log2 * 2 ^ more ≤ D := by rw [← hD]; exact Nat.mul_le_mul_right _ hlm
      rw [← Nat.pow_add] at h3
      have h4 : 2 ^ (n.log2 + 1 + 1) ≤ 2 ^ (m.log2 + more) := Nat.pow_le_pow_right (by omega) (by omega)
      rw [Nat.pow_succ] at h4
      omega
    have hprod : D * 2 ^ ((i - f.leastPlace).toNat + F) ≤ n * 2 ^ (E + more + (j - f.leastPlace).toNat) := by
      have h3 := Nat.mul_le_mul (Nat.mul_le_mul_right (2 ^ more) hm) hn
      rw [← hD, Nat.pow_add, Nat.pow_add, Nat.pow_add]
      have l : m * 2 ^ more * (2 ^ (i - f.leastPlace).toNat * 2 ^ F) = m * 2 ^ (i - f.leastPlace).toNat * 2 ^ more * 2 ^ F := by
        rw [← Nat.mul_assoc, Nat.mul_assoc m, Nat.mul_comm (2 ^ more), ← Nat.mul_assoc]
      have r : n * (2 ^ E * 2 ^ more * 2 ^ (j - f.leastPlace).toNat) = 2 ^ E * 2 ^ more * (n * 2 ^ (j - f.leastPlace).toNat) := by
        rw [← Nat.mul_assoc, Nat.mul_comm n, Nat.mul_assoc]
      rw [l, r]
      exact h3
    generalize hA : (i - f.leastPlace).toNat + F = A at hprod
    generalize hB : E + more + (j - f.leastPlace).toNat = B at hprod
    by_cases hAB : A ≤ B
    · have hZ : D ≤ 2 ^ (B - A) * n := by
        have : D * 2 ^ A ≤ (2 ^ (B - A) * n) * 2 ^ A := by
          rw [Nat.mul_comm (2 ^ (B - A)) n, Nat.mul_assoc, ← Nat.pow_add, Nat.sub_add_cancel hAB]
          exact hprod
        exact Nat.le_of_mul_le_mul_right this (Nat.two_pow_pos _)
      have hq := quot_cut (by omega : 0 < n) hZ
      rw [show 2 * 2 ^ (B - A) = 2 ^ (B - A + 1) by rw [Nat.pow_succ, Nat.mul_comm]] at hq
      unfold Le2
      have e1 : (i - j - (more : Int) - 1 - (((E + K - F : Nat) : Int) + f.leastPlace)).toNat = 0 := by omega
      have e2 : (((E + K - F : Nat) : Int) + f.leastPlace - (i - j - (more : Int) - 1)).toNat = B - A + 1 := by omega
      rw [e1, e2, Nat.pow_zero, Nat.mul_one]
      exact hq
    · exfalso
      have h5 : D * 2 ^ A ≤ n * 2 ^ B := hprod
      have h6 : 2 ^ B ≤ 2 ^ A := Nat.pow_le_pow_right (by omega) (by omega)
      have h7 : D * 2 ^ A ≤ n * 2 ^ A := Nat.le_trans h5 (Nat.mul_le_mul_left _ h6)
      have h8 := Nat.le_of_mul_le_mul_right h7 (Nat.two_pow_pos _)
      omega

theorem rootFrom_sq (n : Nat) : ∀ (t r : Nat), r * r ≤ n → Datum.rootFrom n t r * Datum.rootFrom n t r ≤ n := by
  intro t
  induction t with
  | zero => intro r h; exact h
  | succ t ih =>
    intro r h
    unfold Datum.rootFrom
    dsimp only
    split
    · rename_i h'; exact ih _ h'
    · exact ih _ h

theorem root_cut {n w Z : Nat} (hw : w * w ≤ n) (h : n ≤ Z * Z) : 2 * w + (w * w != n).toNat ≤ 2 * Z := by
  have hle : w ≤ Z := by
    refine Nat.not_lt.1 fun hc => ?_
    have := Nat.mul_self_lt_mul_self hc
    omega
  by_cases he : w = Z
  · subst he
    have : w * w = n := by omega
    simp [this]
  · have : (w * w != n).toNat ≤ 1 := Bool.toNat_le _
    omega

/-- A root of a number that is not below 0: at most 2^H where the number is at most 2^(2 H + 2 L) (all in units). -/
theorem sqrt_bd {f : Format} {E H K x : Nat} (hK : f.leastPlace = -(K : Int)) (hx : Bd f E x) (hneg : (f.read x).neg = false ∨ (f.read x).isZero = true) (heb : 2 ≤ f.exponentBits) (hE : E + K ≤ 2 * H) (ht : H ≤ top f) :
    ∃ r, f.sqrt x = some r ∧ Bd f H r := by
  obtain ⟨s, m, i, h1, hi, hm⟩ := hx
  unfold Format.sqrt
  rw [h1] at hneg ⊢
  simp only [Datum.root]
  by_cases hm0 : m = 0
  · rw [if_pos hm0]
    refine ⟨_, rfl, ?_⟩
    subst hm0
    show Bd f _ (f.nearest _ _ _)
    exact nearest_bd ht heb _ _ _ (by simp [Le2])
  · rw [if_neg hm0]
    have hs : s = false := by
      rcases hneg with h | h
      · exact h
      · exfalso
        revert h
        unfold Datum.isZero
        cases m with
        | zero => exact absurd rfl hm0
        | succ k => simp
    subst hs
    simp only [Bool.false_eq_true, if_false]
    refine ⟨_, rfl, ?_⟩
    generalize hmore : (2 * (f.fractionBits + 2) - m.log2) + ((i - ((2 * (f.fractionBits + 2) - m.log2 : Nat) : Int)) % 2).toNat = more
    show Bd f _ (f.nearest _ _ _)
    refine nearest_bd ht heb _ _ _ ?_
    have heven : (i - (more : Int)) % 2 = 0 := by omega
    obtain ⟨h, hh⟩ : ∃ h : Int, i - (more : Int) = 2 * h := ⟨(i - (more : Int)) / 2, by omega⟩
    have e0 : (i - (more : Int)) / 2 = h := by omega
    rw [e0, Nat.shiftLeft_eq]
    generalize hn : m * 2 ^ more = n
    generalize hw : Datum.rootFrom n (n.log2 / 2 + 1) 0 = w
    have hww : w * w ≤ n := by rw [← hw]; exact rootFrom_sq n _ 0 (Nat.zero_le _)
    -- 2^i ≤ 2^(E + L), hence h ≤ H + L
    have hiE : i + (K : Int) ≤ E := by
      refine Int.not_lt.1 fun hc => ?_
      have h3 : 1 * 2 ^ (i - f.leastPlace).toNat ≤ 2 ^ E := Nat.le_trans (Nat.mul_le_mul_right _ (by omega)) hm
      rw [Nat.one_mul] at h3
      have h4 := (Nat.pow_le_pow_iff_right (a := 2) (by omega)).1 h3
      omega
    have hz : h ≤ (H : Int) - K := by omega
    obtain ⟨z, hzz⟩ : ∃ z : Nat, (z : Int) = (H : Int) - K - h := ⟨((H : Int) - K - h).toNat, by omega⟩
    have hZ : n ≤ 2 ^ z * 2 ^ z := by
      rw [← hn, ← Nat.pow_add]
      have h5 : m * 2 ^ more * 2 ^ (i - f.leastPlace).toNat ≤ 2 ^ (z + z) * 2 ^ (i - f.leastPlace).toNat := by
        rw [← Nat.pow_add 2 (z + z), Nat.mul_assoc, Nat.mul_comm (2 ^ more), ← Nat.mul_assoc]
        refine Nat.le_trans (Nat.mul_le_mul_right _ hm) ?_
        rw [← Nat.pow_add]
        exact Nat.pow_le_pow_right (by omega) (by omega)
      exact Nat.le_of_mul_le_mul_right h5 (Nat.two_pow_pos _)
    have hc := root_cut hww hZ
    rw [show 2 * 2 ^ z = 2 ^ (z + 1) by rw [Nat.pow_succ, Nat.mul_comm]] at hc
    unfold Le2
    have e1 : (h - 1 - ((H : Int) + f.leastPlace)).toNat = 0 := by omega
    have e2 : ((H : Int) + f.leastPlace - (h - 1)).toNat = z + 1 := by omega
    rw [e1, e2, Nat.pow_zero, Nat.mul_one]
    exact hc

/-- A number's whole multiple with its sign. -/
def sv (s : Bool) (n : Nat) : Int := if s then -(n : Int) else n

theorem compare_scale (a b : Int) (k : Nat) : compare (a * 2 ^ k) (b * 2 ^ k) = compare a b := by
  have hp : (0 : Int) < 2 ^ k := by
    have := Nat.two_pow_pos k
    have e : ((2 ^ k : Nat) : Int) = (2 : Int) ^ k := by simp
    omega
  rcases Int.lt_trichotomy a b with h | h | h
  · rw [Int.compare_eq_lt.2 h, Int.compare_eq_lt.2 (Int.mul_lt_mul_of_pos_right h hp)]
  · subst h; simp
  · rw [Int.compare_eq_gt.2 h, Int.compare_eq_gt.2 (Int.mul_lt_mul_of_pos_right h hp)]

theorem signed_sv (s : Bool) (m u : Nat) : signed s m u = sv s (m * 2 ^ u) := by
  unfold signed sv
  rw [Nat.shiftLeft_eq]

theorem sv_scale (s : Bool) (n k : Nat) : sv s n * 2 ^ k = sv s (n * 2 ^ k) := by
  unfold sv
  cases s
  · simp
  · simp [Int.neg_mul]

theorem order_num {s t : Bool} {m n : Nat} {i j L : Int} (hi : L ≤ i) (hj : L ≤ j) :
    Datum.order (.number s m i) (.number t n j) = some (compare (sv s (m * 2 ^ (i - L).toNat)) (sv t (n * 2 ^ (j - L).toNat))) := by
  unfold Datum.order
  simp only [signed_sv]
  congr 1
  rw [← compare_scale _ _ (min i j - L).toNat, sv_scale, sv_scale, Nat.mul_assoc, Nat.mul_assoc, ← Nat.pow_add, ← Nat.pow_add]
  have e1 : (i - min i j).toNat + (min i j - L).toNat = (i - L).toNat := by omega
  have e2 : (j - min i j).toNat + (min i j - L).toNat = (j - L).toNat := by omega
  rw [e1, e2]

/-- A number whose digits the format has is written exactly. -/
theorem nearest_exact {f : Format} {E : Nat} (hE : E ≤ top f) (heb : 2 ≤ f.exponentBits) (neg : Bool) (mag : Nat) (place : Int) (hl : mag < 2 ^ (f.fractionBits + 1)) (hp : f.leastPlace ≤ place) (hb : mag * 2 ^ (place - f.leastPlace).toNat ≤ 2 ^ E) :
    ∃ m p, f.read (f.nearest neg mag place) = .number neg m p ∧ f.leastPlace ≤ p ∧ m * 2 ^ (p - f.leastPlace).toNat = mag * 2 ^ (place - f.leastPlace).toNat := by
  by_cases h0 : mag = 0
  · subst h0
    refine ⟨0, f.leastPlace, ?_, Int.le_refl _, by simp⟩
    rw [show f.nearest neg 0 place = f.word neg 0 by simp [Format.nearest]]
    exact read_word_zero f neg
  · have hlog := log2_le mag h0
    have hlg : mag.log2 ≤ f.fractionBits := by
      have := Nat.lt_of_le_of_lt hlog hl
      have := (Nat.pow_lt_pow_iff_right (a := 2) (by omega)).1 this
      omega
    obtain ⟨Q, k, he, hk, hQ, hu, hlo⟩ := nearest_parts f neg mag place h0
    have e0 : ((E : Int) + f.leastPlace - f.leastPlace).toNat = E := by omega
    have hle : k * 2 ^ Q ≤ 2 ^ E := hu E (le2_of (L := f.leastPlace) hp (by omega) (by rw [e0]; exact hb))
    have hi := infRung_of hE heb hk hQ hle
    -- the value is the same: from 'nearest' itself
    have hval : k * 2 ^ Q = mag * 2 ^ (place - f.leastPlace).toNat := by
      have hw : f.nearest neg mag place = f.word neg (min ((max (place + (mag.log2 : Int) - (f.fractionBits : Int)) f.leastPlace - f.leastPlace).toNat * f.binade + mag * 2 ^ (place - max (place + (mag.log2 : Int) - (f.fractionBits : Int)) f.leastPlace).toNat) f.infRung) := by
        unfold Format.nearest
        rw [if_neg h0]
        dsimp only
        have : (max (place + (mag.log2 : Int) - (f.fractionBits : Int)) f.leastPlace - place).toNat = 0 := by omega
        rw [this, cut_zero, Nat.shiftLeft_eq]
      generalize hL : max (place + (mag.log2 : Int) - (f.fractionBits : Int)) f.leastPlace = last at hw
      -- the same shape, taken apart by hand
      have hk2 : mag * 2 ^ (place - last).toNat ≤ 2 * f.binade := by
        have h1 : mag * 2 ^ (place - last).toNat ≤ 2 ^ (mag.log2 + 1) * 2 ^ (place - last).toNat := Nat.mul_le_mul_right _ (Nat.le_of_lt (lt_log2 mag))
        rw [← Nat.pow_add] at h1
        have h2 : 2 ^ (mag.log2 + 1 + (place - last).toNat) ≤ 2 ^ (f.fractionBits + 1) := Nat.pow_le_pow_right (by omega) (by omega)
        rw [Nat.pow_succ 2 f.fractionBits] at h2
        have hbin : f.binade = 2 ^ f.fractionBits := rfl
        omega
      have hQ2 : (last - f.leastPlace).toNat = 0 ∨ f.binade ≤ mag * 2 ^ (place - last).toNat := by
        by_cases hz : last = f.leastPlace
        · left; omega
        · right
          have h1 : 2 ^ mag.log2 * 2 ^ (place - last).toNat ≤ mag * 2 ^ (place - last).toNat := Nat.mul_le_mul_right _ hlog
          rw [← Nat.pow_add] at h1
          have : mag.log2 + (place - last).toNat = f.fractionBits := by omega
          rw [this] at h1
          exact h1
      have hv2 : mag * 2 ^ (place - last).toNat * 2 ^ (last - f.leastPlace).toNat = mag * 2 ^ (place - f.leastPlace).toNat := by
        rw [Nat.mul_assoc, ← Nat.pow_add]
        congr 2
        omega
      have hi2 := infRung_of hE heb hk2 hQ2 (by rw [hv2]; exact hb)
      rw [Nat.min_eq_left (Nat.le_of_lt hi2)] at hw
      rw [he, Nat.min_eq_left (Nat.le_of_lt hi)] at hw
      obtain ⟨m1, p1, r1, l1, v1⟩ := read_rung f neg Q k hk hQ hi
      obtain ⟨m2, p2, r2, l2, v2⟩ := read_rung f neg _ _ hk2 hQ2 hi2
      rw [hw, r2] at r1
      injection r1 with _ a b
      subst a; subst b
      rw [← v1, v2, hv2]
    obtain ⟨m, p, hr, hpp, hm⟩ := read_rung f neg Q k hk hQ hi
    rw [he, Nat.min_eq_left (Nat.le_of_lt hi)]
    exact ⟨m, p, hr, hpp, by rw [hm, hval]⟩

/-- The sign bit of a word that 'nearest' gives. -/
theorem nearest_sign (f : Format) (neg : Bool) (mag : Nat) (place : Int) : f.nearest neg mag place / f.signWeight = neg.toNat := by
  have hsp : 0 < f.signWeight := Nat.two_pow_pos _
  have key : ∀ r, r < f.signWeight → f.word neg r / f.signWeight = neg.toNat := by
    intro r hr
    unfold Format.word
    cases neg
    · simp only [Bool.false_eq_true, if_false, Bool.toNat_false]
      exact Nat.div_eq_of_lt hr
    · simp only [if_true, Bool.toNat_true]
      rw [Nat.add_comm f.signWeight, Nat.add_div_right _ hsp, Nat.div_eq_of_lt hr]
  unfold Format.nearest
  split
  · exact key _ hsp
  · exact key _ (Nat.lt_of_le_of_lt (Nat.min_le_right ..) f.infRung_lt)

/-- What a word is read as, from its sign bit and its rung. -/
theorem read_parts (f : Format) (x : Nat) : f.read x =
    if x % f.signWeight < f.binade then .number (x / f.signWeight % 2 == 1) (x % f.signWeight) f.leastPlace
    else if x % f.signWeight < f.infRung then .number (x / f.signWeight % 2 == 1) (f.binade + x % f.signWeight % f.binade) (f.leastPlace + (x % f.signWeight / f.binade - 1 : Nat))
    else if x % f.signWeight = f.infRung then .infinity (x / f.signWeight % 2 == 1) else .nan (x / f.signWeight % 2 == 1) (x % f.signWeight - f.infRung) := rfl

/-- A finite word: its digits and its place. -/
theorem read_fin {f : Format} {x : Nat} {s : Bool} {m : Nat} {p : Int} (heb : 2 ≤ f.exponentBits) (h : f.read x = .number s m p) :
    s = (x / f.signWeight % 2 == 1) ∧ f.leastPlace ≤ p ∧ m < 2 ^ (f.fractionBits + 1) ∧ (p - f.leastPlace).toNat + 3 ≤ 2 ^ f.exponentBits ∧ x % f.signWeight < f.infRung ∧
      (x % f.signWeight < f.binade → m * 2 ^ (p - f.leastPlace).toNat = x % f.signWeight) ∧ (f.binade ≤ x % f.signWeight → f.binade ≤ m * 2 ^ (p - f.leastPlace).toNat) ∧ (f.binade ≤ x % f.signWeight → f.binade ≤ m) := by
  have hB : 0 < f.binade := Nat.two_pow_pos _
  have hbin : f.binade = 2 ^ f.fractionBits := rfl
  have h4 : 2 ^ 2 ≤ 2 ^ f.exponentBits := Nat.pow_le_pow_right (by omega) heb
  have hinf : 3 * f.binade ≤ f.infRung := by
    unfold Format.infRung
    exact Nat.mul_le_mul_right _ (by omega)
  rw [read_parts] at h
  generalize hr : x % f.signWeight = r at *
  split at h
  · rename_i h1
    injection h with a b c
    subst b; subst c
    refine ⟨a.symm, Int.le_refl _, ?_, by omega, by omega, ?_, ?_, ?_⟩
    · rw [Nat.pow_succ]; omega
    · intro _; simp
    · intro h2; omega
    · intro h2; omega
  · rename_i h1
    split at h
    · rename_i h2
      injection h with a b c
      subst b; subst c
      have hm : r % f.binade < f.binade := Nat.mod_lt _ hB
      have e1 : (f.leastPlace + ((r / f.binade - 1 : Nat) : Int) - f.leastPlace).toNat = r / f.binade - 1 := by omega
      rw [e1]
      have hd : r / f.binade < 2 ^ f.exponentBits - 1 := by
        rw [Nat.div_lt_iff_lt_mul hB]
        exact h2
      have hd1 : 1 ≤ r / f.binade := (Nat.le_div_iff_mul_le hB).2 (by omega)
      refine ⟨a.symm, by omega, ?_, by omega, h2, ?_, ?_, ?_⟩
      · rw [Nat.pow_succ]; omega
      · intro h3; omega
      · intro _
        have := Nat.two_pow_pos (r / f.binade - 1)
        exact Nat.le_trans (Nat.le_add_right _ _) (Nat.le_mul_of_pos_right _ this)
      · intro _; omega
    · split at h <;> cases h

/-- Every finite word is bounded. -/
theorem fin_bd {f : Format} {x : Nat} {s : Bool} {m : Nat} {p : Int} (heb : 2 ≤ f.exponentBits) (h : f.read x = .number s m p) : Bd f (top f + 1) x := by
  obtain ⟨_, h1, h2, h3, _⟩ := read_fin heb h
  refine ⟨s, m, p, h, h1, ?_⟩
  refine Nat.le_trans (Nat.mul_le_mul_right _ (Nat.le_of_lt h2)) ?_
  rw [← Nat.pow_add]
  unfold top
  exact Nat.pow_le_pow_right (by omega) (by omega)
end Go.Proofs.Ytikgnpajjbjkcaa.Fl
