/- The logarithm as a plain function of bits: its operations told, its bounds. -/
import Derived.Test.YtfmnfidocicjkaaSine
set_option linter.unusedVariables false
namespace Go.Proofs.Ytfmnfidocicjkaa

/-- A shift of the digits is one of the place. -/
theorem nearest_shift (f : Ieee.Format) (neg : Bool) (mag k : Nat) (place : Int) : f.nearest neg (mag * 2 ^ k) place = f.nearest neg mag (place + k) := by
  by_cases h0 : mag = 0
  · subst h0; simp [Ieee.Format.nearest]
  · have hk : mag * 2 ^ k ≠ 0 := Nat.mul_ne_zero h0 (Nat.pos_iff_ne_zero.1 (Nat.two_pow_pos k))
    have hlog : (mag * 2 ^ k).log2 = mag.log2 + k := by
      have h1 := Fl.log2_le mag h0
      have h2 := Fl.lt_log2 mag
      have h3 := Fl.log2_le _ hk
      have h4 := Fl.lt_log2 (mag * 2 ^ k)
      have a1 : 2 ^ (mag.log2 + k) ≤ mag * 2 ^ k := by rw [Nat.pow_add]; exact Nat.mul_le_mul_right _ h1
      have a2 : mag * 2 ^ k < 2 ^ (mag.log2 + 1 + k) := by rw [Nat.pow_add]; exact Nat.mul_lt_mul_of_pos_right h2 (Nat.two_pow_pos k)
      have b1 := (Nat.pow_lt_pow_iff_right (a := 2) (by omega)).1 (Nat.lt_of_le_of_lt a1 h4)
      have b2 := (Nat.pow_lt_pow_iff_right (a := 2) (by omega)).1 (Nat.lt_of_le_of_lt h3 a2)
      omega
    unfold Ieee.Format.nearest
    rw [if_neg hk, if_neg h0, hlog]
    dsimp only
    have el : place + ((mag.log2 + k : Nat) : Int) - (f.fractionBits : Int) = place + (k : Int) + (mag.log2 : Int) - (f.fractionBits : Int) := by omega
    rw [el]
    generalize max (place + (k : Int) + (mag.log2 : Int) - (f.fractionBits : Int)) f.leastPlace = last
    congr 3
    by_cases hd : last ≤ place
    · have e1 : (last - place).toNat = 0 := by omega
      have e2 : (last - (place + k)).toNat = 0 := by omega
      rw [e1, e2, Fl.cut_zero, Fl.cut_zero, Nat.shiftLeft_eq, Nat.shiftLeft_eq, Nat.mul_assoc, ← Nat.pow_add]
      congr 2
      omega
    · have e1 : (place - last).toNat = 0 := by omega
      rw [e1, Nat.shiftLeft_zero]
      by_cases hd2 : last ≤ place + k
      · have e2 : (last - (place + k)).toNat = 0 := by omega
        rw [e2, Fl.cut_zero, Nat.shiftLeft_eq]
        obtain ⟨d, hd3⟩ : ∃ d, d = (last - place).toNat := ⟨_, rfl⟩
        have e3 : mag * 2 ^ k = mag * 2 ^ (place + k - last).toNat * 2 ^ d := by
          rw [Nat.mul_assoc, ← Nat.pow_add]; congr 2; omega
        rw [← hd3]
        refine Nat.le_antisymm (Fl.cut_le _ _ _ _ (by rw [e3]; exact Nat.le_refl _)) (Fl.le_cut _ _ _ _ (by rw [e3]; exact Nat.le_refl _))
      · have e2 : (place + k - last).toNat = 0 := by omega
        rw [e2, Nat.shiftLeft_zero]
        obtain ⟨d, hd3⟩ : ∃ d, d = (last - (place + k)).toNat := ⟨_, rfl⟩
        have e3 : (last - place).toNat = d + k := by omega
        rw [e3, ← hd3]
        have hp := Nat.two_pow_pos k
        unfold Ieee.Toward.cut
        dsimp only
        rw [hlog]
        have em : min (d + k) (mag.log2 + k + 2) = min d (mag.log2 + 2) + k := by omega
        rw [em]
        generalize min d (mag.log2 + 2) = g
        rw [Nat.one_shiftLeft, Nat.one_shiftLeft, Nat.pow_add, Nat.mul_div_mul_right _ _ hp, Nat.mul_mod_mul_right]
        generalize 2 ^ g = G'
        generalize mag % G' = r
        generalize mag / G' = l
        have c1 : decide (G' * 2 ^ k < 2 * (r * 2 ^ k)) = decide (G' < 2 * r) := by
          congr 1
          rw [← Nat.mul_assoc]
          exact propext (Nat.mul_lt_mul_right hp)
        have c2 : (G' * 2 ^ k == 2 * (r * 2 ^ k)) = (G' == 2 * r) := by
          rw [← Nat.mul_assoc]
          by_cases h : G' = 2 * r
          · rw [h]; simp
          · have : G' * 2 ^ k ≠ 2 * r * 2 ^ k := fun hc => h (Nat.eq_of_mul_eq_mul_right hp hc)
            rw [beq_eq_false_iff_ne.2 this, beq_eq_false_iff_ne.2 h]
        rw [c1, c2]

def two : Nat := 4611686018427387904
theorem read_two : Ieee.double.read two = .number false 4503599627370496 (-51) := by decide
theorem B_two : B 1075 two := B_pow (s := false) (p := -51) 1023 read_two (by decide)

/-- Half of a number that is not too small. -/
theorem half_ok {x E F m : Nat} {i : Int} (hr : Ieee.double.read x = .number false m i) (hi : -1074 ≤ i) (hE : m * 2 ^ (i + 1074).toNat ≤ 2 ^ (E + 1)) (hF : 2 ^ (F + 1) ≤ m * 2 ^ (i + 1074).toNat) (ht : E ≤ 2097) :
    floatBits .quo .f64 x two = some (fd x two) ∧ B E (fd x two) ∧ G F (fd x two) ∧ NN (fd x two) := by
  have hm : m < 2 ^ 53 := (Fl.read_fin eb64 hr).2.2.1
  have h0 : m ≠ 0 := by
    intro h; subst h; rw [Nat.zero_mul] at hF
    have := Nat.two_pow_pos (F + 1); omega
  have hl : m.log2 ≤ 52 := by
    have := Nat.lt_of_le_of_lt (Fl.log2_le m h0) hm
    have := (Nat.pow_lt_pow_iff_right (a := 2) (by omega)).1 this
    omega
  have l52 : Nat.log2 4503599627370496 = 52 := by decide
  have key : floatBits .quo .f64 x two = some (Ieee.double.nearest false m (i - 1)) := by
    show Ieee.double.div x two = _
    unfold Ieee.Format.div
    obtain ⟨n, hn⟩ : ∃ n : Nat, n = 4503599627370496 := ⟨_, rfl⟩
    have r2 := read_two
    rw [← hn] at r2 l52
    rw [hr, r2]
    simp only [Ieee.Datum.quotient]
    rw [if_neg (by omega), l52]
    obtain ⟨more, hmore⟩ : ∃ more : Nat, more = Ieee.double.fractionBits + 2 + 52 - m.log2 := ⟨_, rfl⟩
    rw [← hmore]
    have hfb : Ieee.double.fractionBits = 52 := rfl
    rw [hfb] at hmore
    obtain ⟨c, hc⟩ : ∃ c : Nat, more = c + 52 := ⟨more - 52, by omega⟩
    have hD : m <<< more = m * 2 ^ c * n := by
      rw [Nat.shiftLeft_eq, hc, Nat.pow_add, ← Nat.mul_assoc, hn]
    rw [hD, Nat.mul_div_cancel _ (by omega), Nat.mul_mod_left]
    show some (Ieee.double.nearest (false ^^ false) (2 * (m * 2 ^ c) + 0) (i - -51 - (more : Int) - 1)) = _
    rw [Nat.add_zero, show 2 * (m * 2 ^ c) = m * 2 ^ (c + 1) by rw [Nat.pow_succ, Nat.mul_comm 2, Nat.mul_assoc], nearest_shift]
    congr 2
    omega
  have e : fd x two = Ieee.double.nearest false m (i - 1) := by unfold fd; rw [key]; rfl
  rw [e]
  have hle : Fl.Le2 m (i - 1) ((E : Int) + Ieee.double.leastPlace) := by
    refine Fl.le2_of (L := -1075) (by omega) (by rw [least64]; omega) ?_
    have e1 : (i - 1 - -1075).toNat = (i + 1074).toNat := by congr 1; omega
    have e2 : ((E : Int) + Ieee.double.leastPlace - -1075).toNat = E + 1 := by rw [least64]; omega
    rw [e1, e2]; exact hE
  have hge : Fl.Ge2 m (i - 1) ((F : Int) + Ieee.double.leastPlace) := by
    refine Fl.ge2_of (L := -1075) (by omega) (by rw [least64]; omega) ?_
    have e1 : (i - 1 - -1075).toNat = (i + 1074).toNat := by congr 1; omega
    have e2 : ((F : Int) + Ieee.double.leastPlace - -1075).toNat = F + 1 := by rw [least64]; omega
    rw [e1, e2]; exact hF
  exact ⟨key, Fl.nearest_bd (by rw [top64]; exact ht) eb64 _ _ _ hle, Fl.nearest_gb (E := E) (by rw [top64]; exact ht) eb64 _ _ _ hle hge, nearest_NN ht _ _ hle⟩

/-- Twice a number: by a sum and by a product. -/
theorem twice_ok {x E F m : Nat} {i : Int} (hr : Ieee.double.read x = .number false m i) (hi : -1074 ≤ i) (hE : m * 2 ^ (i + 1074).toNat ≤ 2 ^ E) (hF : 2 ^ F ≤ m * 2 ^ (i + 1074).toNat) (ht : E + 1 ≤ 2097) :
    floatBits .add .f64 x x = some (fa x x) ∧ floatBits .mul .f64 x two = some (fa x x) ∧ B (E + 1) (fa x x) ∧ G (F + 1) (fa x x) ∧ NN (fa x x) := by
  have h0 : m ≠ 0 := by
    intro h; subst h; rw [Nat.zero_mul] at hF
    have := Nat.two_pow_pos F; omega
  have key : floatBits .add .f64 x x = some (Ieee.double.nearest false m (i + 1)) := by
    show Ieee.double.add x x = _
    unfold Ieee.Format.add
    rw [hr]
    have hs : Ieee.signed false m (i - min i i).toNat + Ieee.signed false m (i - min i i).toNat = ((m * 2 ^ 1 : Nat) : Int) := by
      have : (i - min i i).toNat = 0 := by omega
      rw [this, Fl.signed_sv]
      show ((m * 2 ^ 0 : Nat) : Int) + ((m * 2 ^ 0 : Nat) : Int) = _
      omega
    simp only [Ieee.Datum.sum, hs]
    show some (Ieee.double.nearest (if ((m * 2 ^ 1 : Nat) : Int) = 0 then false && false else decide (((m * 2 ^ 1 : Nat) : Int) < 0)) (m * 2 ^ 1) (min i i)) = _
    rw [if_neg (by omega), decide_eq_false (by omega), nearest_shift]
    congr 2
    omega
  have key2 : floatBits .mul .f64 x two = some (Ieee.double.nearest false m (i + 1)) := by
    show Ieee.double.mul x two = _
    unfold Ieee.Format.mul
    rw [hr, read_two]
    show some (Ieee.double.nearest (false ^^ false) (m * 4503599627370496) (i + -51)) = _
    rw [show (4503599627370496 : Nat) = 2 ^ 52 from rfl, nearest_shift]
    congr 2
    omega
  have e : fa x x = Ieee.double.nearest false m (i + 1) := by unfold fa; rw [key]; rfl
  rw [e]
  have hle : Fl.Le2 m (i + 1) (((E + 1 : Nat) : Int) + Ieee.double.leastPlace) := by
    refine Fl.le2_of (L := -1073) (by omega) (by rw [least64]; omega) ?_
    have e1 : (i + 1 - -1073).toNat = (i + 1074).toNat := by congr 1; omega
    have e2 : (((E + 1 : Nat) : Int) + Ieee.double.leastPlace - -1073).toNat = E := by rw [least64]; omega
    rw [e1, e2]; exact hE
  have hge : Fl.Ge2 m (i + 1) (((F + 1 : Nat) : Int) + Ieee.double.leastPlace) := by
    refine Fl.ge2_of (L := -1073) (by omega) (by rw [least64]; omega) ?_
    have e1 : (i + 1 - -1073).toNat = (i + 1074).toNat := by congr 1; omega
    have e2 : (((F + 1 : Nat) : Int) + Ieee.double.leastPlace - -1073).toNat = F := by rw [least64]; omega
    rw [e1, e2]; exact hF
  exact ⟨key, key2, Fl.nearest_bd (by rw [top64]; exact ht) eb64 _ _ _ hle, Fl.nearest_gb (E := E + 1) (by rw [top64]; exact ht) eb64 _ _ _ hle hge, nearest_NN ht _ _ hle⟩

/-! ### The logarithm -/
def c15 : Nat := 4609434218613702656
def c075 : Nat := 4604930618986332160
theorem read_c15 : Ieee.double.read c15 = .number false 6755399441055744 (-52) := by decide
theorem read_c075 : Ieee.double.read c075 = .number false 6755399441055744 (-53) := by decide

/-- A positive number: its digits, its place, its bounds. -/
def Pos (E F x : Nat) : Prop := ∃ m i, Ieee.double.read x = .number false m i ∧ -1074 ≤ i ∧ m * 2 ^ (i + 1074).toNat ≤ 2 ^ E ∧ 2 ^ F ≤ m * 2 ^ (i + 1074).toNat

theorem Pos_of {E F x : Nat} (hB : B E x) (hG : G F x) (hN : NN x) : Pos E F x := by
  obtain ⟨s, m, i, r1, h1, h2⟩ := hB
  obtain ⟨t, n, j, r2, h3, h4⟩ := hG
  obtain ⟨q, k, r3⟩ := hN
  rw [r1] at r2 r3
  injection r2 with a b c
  injection r3 with a' b' c'
  subst a'
  rw [least64] at h1 h2 h4
  have e : ∀ z : Int, (z - -1074).toNat = (z + 1074).toNat := fun z => by congr 1
  rw [e] at h2 h4
  rw [← b, ← c] at h4
  exact ⟨m, i, r1, h1, h2, h4⟩

/-- Against a number with known digits. -/
theorem order_pos {E F x c n : Nat} {j : Int} (h : Pos E F x) (hc : Ieee.double.read c = .number false n j) (hj : -1074 ≤ j) :
    ∃ U : Nat, U ≤ 2 ^ E ∧ 2 ^ F ≤ U ∧ geB x c = decide (n * 2 ^ (j + 1074).toNat ≤ U) ∧ ltB x c = decide (U < n * 2 ^ (j + 1074).toNat) ∧ (Pos E F x → ∀ E', U ≤ 2 ^ E' → Pos E' F x) := by
  obtain ⟨m, i, r, hi, h1, h2⟩ := h
  refine ⟨m * 2 ^ (i + 1074).toNat, h1, h2, ?_, ?_, fun _ E' h => ⟨m, i, r, hi, h, h2⟩⟩
  all_goals
    first | unfold geB | unfold ltB
    unfold Ieee.Format.order
    rw [r, hc, Fl.order_num (L := -1074) hi hj]
    have e : ∀ z : Int, (z - -1074).toNat = (z + 1074).toNat := fun z => by congr 1
    rw [e, e]
    generalize m * 2 ^ (i + 1074).toNat = U
    generalize n * 2 ^ (j + 1074).toNat = V
    rw [show Fl.sv false U = (U : Int) from rfl, show Fl.sv false V = (V : Int) from rfl]
    rcases Nat.lt_trichotomy U V with h | h | h
    · rw [Int.compare_eq_lt.2 (by omega)]
      first | (rw [decide_eq_false (by omega)]; rfl) | (rw [decide_eq_true (by omega)]; rfl)
    · rw [Int.compare_eq_eq.2 (by omega)]
      first | (rw [decide_eq_false (by omega)]; rfl) | (rw [decide_eq_true (by omega)]; rfl)
    · rw [Int.compare_eq_gt.2 (by omega)]
      first | (rw [decide_eq_false (by omega)]; rfl) | (rw [decide_eq_true (by omega)]; rfl)

/-- The halvings, with fuel. -/
def downV : Nat → Nat → Nat → Nat × Nat
  | 0, x, k => (x, k)
  | n + 1, x, k => if geB x c15 then downV n (fd x two) (k + 1) else (x, k)
/-- The doublings, with fuel. -/
def upV : Nat → Nat → Int → Nat × Int
  | 0, x, e => (x, e)
  | n + 1, x, e => if ltB x c075 then upV n (fa x x) (e - 1) else (x, e)

theorem down_step {k x : Nat} (h : Pos (1202 - k) 1 x) (hk : k ≤ 128) (hg : geB x c15 = true) : k < 128 ∧ floatBits .quo .f64 x two = some (fd x two) ∧ Pos (1202 - (k + 1)) 1 (fd x two) := by
  obtain ⟨K, hK⟩ : ∃ K : Nat, K = 1022 := ⟨_, rfl⟩
  obtain ⟨U, h1, h2, h3, _, _⟩ := order_pos h read_c15 (by decide)
  rw [hg] at h3
  have h4 := of_decide_eq_true h3.symm
  have e : (-52 + 1074 : Int).toNat = K := by rw [hK]; decide
  rw [e] at h4
  have h5 : 2 ^ 52 * 2 ^ K < 2 ^ (1202 - k) := by
    refine Nat.lt_of_lt_of_le ?_ (Nat.le_trans h4 h1)
    exact Nat.mul_lt_mul_of_pos_right (by decide) (Nat.two_pow_pos K)
  rw [← Nat.pow_add] at h5
  have h6 := (Nat.pow_lt_pow_iff_right (a := 2) (by omega)).1 h5
  have hk2 : k < 128 := by omega
  refine ⟨hk2, ?_⟩
  obtain ⟨m, i, r, hi, hE, hF⟩ := h
  -- a lower bound from the test
  have hge : 2 ^ 2 ≤ m * 2 ^ (i + 1074).toNat := by
    have h7 : decide (6755399441055744 * 2 ^ (-52 + 1074 : Int).toNat ≤ m * 2 ^ (i + 1074).toNat) = true := by
      obtain ⟨U', _, _, h3', _, _⟩ := order_pos (E := 1202 - k) (F := 1) ⟨m, i, r, hi, hE, hF⟩ read_c15 (by decide)
      have h8 : geB x c15 = decide (6755399441055744 * 2 ^ (-52 + 1074 : Int).toNat ≤ m * 2 ^ (i + 1074).toNat) := by
        unfold geB Ieee.Format.order
        rw [r, read_c15, Fl.order_num (L := -1074) hi (by decide)]
        have e : ∀ z : Int, (z - -1074).toNat = (z + 1074).toNat := fun z => by congr 1
        rw [e, e]
        generalize m * 2 ^ (i + 1074).toNat = A
        generalize 6755399441055744 * 2 ^ (-52 + 1074 : Int).toNat = V
        rw [show Fl.sv false A = (A : Int) from rfl, show Fl.sv false V = (V : Int) from rfl]
        rcases Nat.lt_trichotomy A V with h | h | h
        · rw [Int.compare_eq_lt.2 (by omega), decide_eq_false (by omega)]; rfl
        · rw [Int.compare_eq_eq.2 (by omega), decide_eq_true (by omega)]; rfl
        · rw [Int.compare_eq_gt.2 (by omega), decide_eq_true (by omega)]; rfl
      rw [← h8]; exact hg
    have h9 := of_decide_eq_true h7
    rw [e] at h9
    have := Nat.two_pow_pos K
    exact Nat.le_trans (by omega) (Nat.le_trans (Nat.mul_le_mul_left 6755399441055744 (show 1 ≤ 2 ^ K from this)) h9)
  obtain ⟨a, b, c, d⟩ := half_ok (E := 1202 - (k + 1)) (F := 1) r hi (by rw [show 1202 - (k + 1) + 1 = 1202 - k by omega]; exact hE) hge (by omega)
  exact ⟨a, Pos_of b c d⟩

theorem down_end {k x : Nat} (h : Pos (1202 - k) 1 x) (hg : geB x c15 = false) : Pos 1075 1 x := by
  obtain ⟨K, hK⟩ : ∃ K : Nat, K = 1022 := ⟨_, rfl⟩
  obtain ⟨U, h1, h2, h3, _, h5⟩ := order_pos h read_c15 (by decide)
  rw [hg] at h3
  have h4 := of_decide_eq_false h3.symm
  have e : (-52 + 1074 : Int).toNat = K := by rw [hK]; decide
  rw [e] at h4
  refine h5 h 1075 ?_
  rw [show 1075 = 53 + K by omega, Nat.pow_add]
  refine Nat.le_trans (Nat.le_of_lt (Nat.not_le.1 h4)) (Nat.mul_le_mul_right _ (by decide))

theorem up_step {j x : Nat} (h : Pos 1075 (1 + j) x) (hl : ltB x c075 = true) : j < 1074 ∧ floatBits .add .f64 x x = some (fa x x) ∧ floatBits .mul .f64 x two = some (fa x x) ∧ Pos 1075 (1 + (j + 1)) (fa x x) := by
  obtain ⟨K, hK⟩ : ∃ K : Nat, K = 1021 := ⟨_, rfl⟩
  obtain ⟨U, h1, h2, _, h3, h5⟩ := order_pos h read_c075 (by decide)
  rw [hl] at h3
  have h4 := of_decide_eq_true h3.symm
  have e : (-53 + 1074 : Int).toNat = K := by rw [hK]; decide
  rw [e] at h4
  have hle : U ≤ 2 ^ 1074 := by
    obtain ⟨M, hM⟩ : ∃ M : Nat, M = 1074 := ⟨_, rfl⟩
    rw [← hM, show M = 53 + K by omega, Nat.pow_add]
    exact Nat.le_trans (Nat.le_of_lt h4) (Nat.mul_le_mul_right _ (by decide))
  have hj : j < 1074 := by
    have := (Nat.pow_le_pow_iff_right (a := 2) (by omega)).1 (Nat.le_trans h2 hle)
    omega
  obtain ⟨m, i, r, hi, hE, hF⟩ := h5 h 1074 hle
  obtain ⟨a, b, c, d, n⟩ := twice_ok r hi hE hF (by omega)
  exact ⟨hj, a, b, by rw [show 1 + (j + 1) = 1 + j + 1 by omega]; exact Pos_of c d n⟩

/-- What is left lies between 0 and 1.5: less 1 it is at most 1. -/
theorem less_one {x j : Nat} (h : Pos 1075 (1 + j) x) : floatBits .sub .f64 x one = some (fs x one) ∧ B 1074 (fs x one) ∧ floatBits .add .f64 x one = some (fa x one) ∧ G 1074 (fa x one) := by
  obtain ⟨m, i, r, hi, hE, hF⟩ := h
  have ho : Ieee.double.read one = .number false 4503599627370496 (-52) := by decide
  obtain ⟨K, hK⟩ : ∃ K : Nat, K = 1022 := ⟨_, rfl⟩
  obtain ⟨M, hM⟩ : ∃ M : Nat, M = 1074 := ⟨_, rfl⟩
  have e : (-52 + 1074 : Int).toNat = K := by rw [hK]; decide
  have hone : 4503599627370496 * 2 ^ (-52 + 1074 : Int).toNat = 2 ^ M := by rw [e, show M = 52 + K by omega, Nat.pow_add]
  have h1 : floatBits .sub .f64 x one = some (fs x one) ∧ B M (fs x one) := by
    refine fs_exact r ho hi (by decide) (by omega) ?_
    rw [hone]
    rw [show 1075 = M + 1 by omega, Nat.pow_succ] at hE
    generalize m * 2 ^ (i + 1074).toNat = U at *
    generalize 2 ^ M = V at *
    show ((U : Int) - (V : Int)).natAbs ≤ V
    omega
  rw [hM] at h1
  have bx : B 1075 x := B_of r hi hE
  have gx : G (1 + j) x := G_of r hi hF
  have nx : NN x := ⟨m, i, r⟩
  obtain ⟨a, b⟩ := fa_ok bx B_one (by omega)
  have hcomm : fa one x = fa x one := by
    have hc : floatBits .add .f64 one x = floatBits .add .f64 x one := by
      show Ieee.double.add one x = Ieee.double.add x one
      unfold Ieee.Format.add
      rw [ho, r]
      simp only [Ieee.Datum.sum, Int.min_comm (-52) i, Int.add_comm (Ieee.signed false 4503599627370496 _)]
    unfold fa
    rw [hc]
  have g := (fa_NN B_one bx NN_one nx G_one (by omega)).2
  rw [hcomm] at g
  exact ⟨h1.1, h1.2, a, g⟩

def logPoly (u : Nat) : Nat → Nat
  | 0 => 0
  | j + 1 => fa (fd one (floatOfInt .f64 (25 - 2 * (j : Int)))) (fm u (logPoly u j))
theorem logPoly_bd {u : Nat} (hu : B 1074 u) : ∀ j, j ≤ 13 → B (1074 + j) (logPoly u j) := by
  intro j
  induction j with
  | zero => intro _; exact B_zero
  | succ j ih =>
    intro hj
    have h1 := ih (by omega)
    obtain ⟨g, _⟩ := int_G (n := 25 - 2 * (j : Int)) (by omega) (by omega)
    obtain ⟨_, b1⟩ := fd_ok B_one g (by omega) (by omega)
    obtain ⟨_, b2⟩ := fm_ok hu h1 (by omega) (by omega)
    obtain ⟨_, b3⟩ := fa_ok b1 b2 (by omega)
    exact b3.mono (by omega)
theorem logPoly_ok {u : Nat} (hu : B 1074 u) (j : Nat) (hj : j < 13) :
    floatBits .quo .f64 one (floatOfInt .f64 (25 - 2 * (j : Int))) = some (fd one (floatOfInt .f64 (25 - 2 * (j : Int)))) ∧ floatBits .mul .f64 u (logPoly u j) = some (fm u (logPoly u j)) ∧
      floatBits .add .f64 (fd one (floatOfInt .f64 (25 - 2 * (j : Int)))) (fm u (logPoly u j)) = some (logPoly u (j + 1)) := by
  have h1 := logPoly_bd hu j (by omega)
  obtain ⟨g, _⟩ := int_G (n := 25 - 2 * (j : Int)) (by omega) (by omega)
  obtain ⟨a1, b1⟩ := fd_ok B_one g (by omega) (by omega)
  obtain ⟨a2, b2⟩ := fm_ok hu h1 (by omega) (by omega)
  obtain ⟨a3, b3⟩ := fa_ok b1 b2 (by omega)
  exact ⟨a1, a2, a3⟩

def logTwo : Nat := 4604418534313441775
theorem B_logTwo : B 1074 logTwo := B_normal (s := false) (m := 6243314768165359) (p := -53) 1021 (by decide) (by decide) (by decide)
def logS (x : Nat) : Nat := fd (fs x one) (fa x one)
def logEnd (x : Nat) (e : Int) : Nat := fa (fm two (fm (logS x) (logPoly (fm (logS x) (logS x)) 13))) (fm (floatOfInt .f64 e) logTwo)
def logV (t : Nat) : Nat := logEnd (upV 1075 (downV 129 t 0).1 (downV 129 t 0).2).1 (upV 1075 (downV 129 t 0).1 (downV 129 t 0).2).2

theorem int_B {n : Int} (h1 : -2048 ≤ n) (h2 : n ≤ 2048) : B 1085 (floatOfInt .f64 n) := by
  show B 1085 (Ieee.double.nearest _ _ _)
  refine Fl.nearest_bd (by rw [top64]; omega) eb64 _ _ _ ?_
  rw [least64]
  unfold Fl.Le2
  have e1 : (0 - (((1085 : Nat) : Int) + -1074)).toNat = 0 := by omega
  have e2 : (((1085 : Nat) : Int) + -1074 - 0).toNat = 11 := by omega
  rw [e1, e2]
  omega

theorem log_ok {x j : Nat} {e : Int} (h : Pos 1075 (1 + j) x) (h1 : -2048 ≤ e) (h2 : e ≤ 2048) :
    floatBits .quo .f64 (fs x one) (fa x one) = some (logS x) ∧ floatBits .mul .f64 (logS x) (logS x) = some (fm (logS x) (logS x)) ∧ B 1074 (fm (logS x) (logS x)) ∧
      floatBits .mul .f64 (logS x) (logPoly (fm (logS x) (logS x)) 13) = some (fm (logS x) (logPoly (fm (logS x) (logS x)) 13)) ∧
      floatBits .mul .f64 two (fm (logS x) (logPoly (fm (logS x) (logS x)) 13)) = some (fm two (fm (logS x) (logPoly (fm (logS x) (logS x)) 13))) ∧
      floatBits .mul .f64 (floatOfInt .f64 e) logTwo = some (fm (floatOfInt .f64 e) logTwo) ∧
      floatBits .add .f64 (fm two (fm (logS x) (logPoly (fm (logS x) (logS x)) 13))) (fm (floatOfInt .f64 e) logTwo) = some (logEnd x e) ∧ B 1089 (logEnd x e) := by
  obtain ⟨_, b1, _, g⟩ := less_one h
  obtain ⟨a2, b2⟩ := fd_ok b1 g (by omega) (by omega)
  have b2' : B 1074 (logS x) := b2
  obtain ⟨a3, b3⟩ := fm_ok b2' b2' (by omega) (by omega)
  have b4 := logPoly_bd b3 13 (by omega)
  obtain ⟨a5, b5⟩ := fm_ok b2' b4 (by omega) (by omega)
  obtain ⟨a6, b6⟩ := fm_ok B_two b5 (by omega) (by omega)
  obtain ⟨a7, b7⟩ := fm_ok (int_B h1 h2) B_logTwo (by omega) (by omega)
  obtain ⟨a8, b8⟩ := fa_ok b6 b7 (by omega)
  exact ⟨a2, a3, b3, a5, a6, a7, a8, b8.mono (by omega)⟩

end Go.Proofs.Ytfmnfidocicjkaa
