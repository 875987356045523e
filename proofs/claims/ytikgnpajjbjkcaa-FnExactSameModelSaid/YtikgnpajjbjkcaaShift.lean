/- A shift of the digits is one of the place. -/
import Derived.Test.YtikgnpajjbjkcaaFl
set_option linter.unusedVariables false
namespace Go.Proofs.Ytikgnpajjbjkcaa

/-- A shift of the digits is one of the place. -/
theorem nearest_shift (f : Ieee.Format) (neg : Bool) (mag k : Nat) (place : Int) : f.nearest neg (mag * 2 ^ k) place = f.nearest neg mag (place + k) := by
  by_cases h0 : mag = 0
  · subst h0; simp [Ieee.Format.nearest]
  · have hk : mag * 2 ^ k ≠ 0 := Nat.mul_ne_zero h0 (Nat.pos_iff_ne_zero.1 (Nat.two_pow_pos k))
    have hlog : (mag * 2 ^ k).log2 = mag.log2 + k := by
      have h1 := Fl.log2_le mag h0
      have h2 := Fl.lt_log2 mag
      have h3 := Fl.log2_le _ hk
      have h4 := Fl.lt_log2 (mag * 2 ^ k)
      have a1 : 2 ^ (mag.log2 + k) ≤ mag * 2 ^ k := by rw [Nat.pow_add]; exact Nat.mul_le_mul_right _ h1
      have a2 : mag * 2 ^ k < 2 ^ (mag.log2 + 1 + k) := by rw [Nat.pow_add]; exact Nat.mul_lt_mul_of_pos_right h2 (Nat.two_pow_pos k)
      have b1 := (Nat.pow_lt_pow_iff_right (a := 2) (by omega)).1 (Nat.lt_of_le_of_lt a1 h4)
      have b2 := (Nat.pow_lt_pow_iff_right (a := 2) (by omega)).1 (Nat.lt_of_le_of_lt h3 a2)
      omega
    unfold Ieee.Format.nearest
    rw [if_neg hk, if_neg h0, hlog]
    dsimp only
    have el : place + ((mag.log2 + k : Nat) : Int) - (f.fractionBits : Int) = place + (k : Int) + (mag.log2 : Int) - (f.fractionBits : Int) := by omega
    rw [el]
    generalize max (place + (k : Int) + (mag.log2 : Int) - (f.fractionBits : Int)) f.leastPlace = last
    congr 3
    by_cases hd : last ≤ place
    · have e1 : (last - place).toNat = 0 := by omega
      have e2 : (last - (place + k)).toNat = 0 := by omega
      rw [e1, e2, Fl.cut_zero, Fl.cut_zero, Nat.shiftLeft_eq, Nat.shiftLeft_eq, Nat.mul_assoc, ← Nat.pow_add]
      congr 2
      omega
    · have e1 : (place - last).toNat = 0 := by omega
      rw [e1, Nat.shiftLeft_zero]
      by_cases hd2 : last ≤ place + k
      · have e2 : (last - (place + k)).toNat = 0 := by omega
        rw [e2, Fl.cut_zero, Nat.shiftLeft_eq]
        obtain ⟨d, hd3⟩ : ∃ d, d = (last - place).toNat := ⟨_, rfl⟩
        have e3 : mag * 2 ^ k = mag * 2 ^ (place + k - last).toNat * 2 ^ d := by
          rw [Nat.mul_assoc, ← Nat.pow_add]; congr 2; omega
        rw [← hd3]
        refine Nat.le_antisymm (Fl.cut_le _ _ _ _ (by rw [e3]; exact Nat.le_refl _)) (Fl.le_cut _ _ _ _ (by rw [e3]; exact Nat.le_refl _))
      · have e2 : (place + k - last).toNat = 0 := by omega
        rw [e2, Nat.shiftLeft_zero]
        obtain ⟨d, hd3⟩ : ∃ d, d = (last - (place + k)).toNat := ⟨_, rfl⟩
        have e3 : (last - place).toNat = d + k := by omega
        rw [e3, ← hd3]
        have hp := Nat.two_pow_pos k
        unfold Ieee.Toward.cut
        dsimp only
        rw [hlog]
        have em : min (d + k) (mag.log2 + k + 2) = min d (mag.log2 + 2) + k := by omega
        rw [em]
        generalize min d (mag.log2 + 2) = g
        rw [Nat.one_shiftLeft, Nat.one_shiftLeft, Nat.pow_add, Nat.mul_div_mul_right _ _ hp, Nat.mul_mod_mul_right]
        generalize 2 ^ g = G'
        generalize mag % G' = r
        generalize mag / G' = l
        have c1 : decide (G' * 2 ^ k < 2 * (r * 2 ^ k)) = decide (G' < 2 * r) := by
          congr 1
          rw [← Nat.mul_assoc]
          exact propext (Nat.mul_lt_mul_right hp)
        have c2 : (G' * 2 ^ k == 2 * (r * 2 ^ k)) = (G' == 2 * r) := by
          rw [← Nat.mul_assoc]
          by_cases h : G' = 2 * r
          · rw [h]; simp
          · have : G' * 2 ^ k ≠ 2 * r * 2 ^ k := fun hc => h (Nat.eq_of_mul_eq_mul_right hp hc)
            rw [beq_eq_false_iff_ne.2 this, beq_eq_false_iff_ne.2 h]
        rw [c1, c2]

end Go.Proofs.Ytikgnpajjbjkcaa
