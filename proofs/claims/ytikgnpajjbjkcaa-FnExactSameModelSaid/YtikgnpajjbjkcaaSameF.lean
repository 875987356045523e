/- Contracts: the law's own comparison of floats; the small functions on bits. -/
import Derived.Test.YtikgnpajjbjkcaaBits
set_option linter.unusedVariables false
namespace Go.Proofs.Ytikgnpajjbjkcaa
open Go.RowKit

/-- Two floats that the laws' comparison takes for one value. -/
def Same64 (a b : Nat) : Prop := (a = b ∧ nanB .f64 a = false) ∨ (nanB .f64 a = true ∧ nanB .f64 b = true)

theorem isZero_of_order {a : Nat} (h : Ieee.double.order a 0 = some .eq) : ∃ s p, Ieee.double.read a = .number s 0 p := by
  unfold Ieee.Format.order at h
  have h0 : Ieee.double.read 0 = .number false 0 (-1074) := by decide
  rw [h0] at h
  cases ha : Ieee.double.read a with
  | nan => rw [ha] at h; cases h
  | infinity s => rw [ha] at h; cases s <;> simp [Ieee.Datum.order] at h
  | number s m p =>
    rw [ha] at h
    have hp : (-1074 : Int) ≤ p := by
      have := (Fl.read_fin eb64 ha).2.1
      rw [least64] at this
      exact this
    rw [Fl.order_num (L := -1074) hp (Int.le_refl _)] at h
    have h2 := Option.some.inj h
    rw [Int.compare_eq_eq] at h2
    have hm : m * 2 ^ (p - -1074).toNat = 0 := by
      generalize m * 2 ^ (p - -1074).toNat = X at h2 ⊢
      rw [Nat.zero_mul] at h2
      unfold Fl.sv at h2
      cases s
      · simp only [Bool.false_eq_true, if_false] at h2
        omega
      · simp only [Bool.false_eq_true, if_false, if_true] at h2
        omega
    have := Nat.two_pow_pos (p - -1074).toNat
    have hm0 : m = 0 := by
      rcases Nat.mul_eq_zero.1 hm with h | h
      · exact h
      · omega
    subst hm0
    exact ⟨s, p, rfl⟩

/-- One divided by a zero. -/
theorem one_quo_zero {a : Nat} (h : Ieee.double.order a 0 = some .eq) : ∃ r, floatBits .quo .f64 4607182418800017408 a = some r := by
  obtain ⟨s, p, hr⟩ := isZero_of_order h
  have h1 : Ieee.double.read 4607182418800017408 = .number false 4503599627370496 (-52) := by decide
  refine ⟨Ieee.double.word (false ^^ s) Ieee.double.infRung, ?_⟩
  show Ieee.double.div _ _ = _
  unfold Ieee.Format.div
  rw [h1, hr]
  rfl

set_option maxRecDepth 100000 in
theorem sameFloat_any (a b : Nat) (w : World) (h : Same64 a b) : Calls Try.prog 40 #[.float .f64 a, .float .f64 b] w fun e w' => e = .returned (.bool true) ∧ w = w' := by
  rcases h with ⟨rfl, hn⟩ | ⟨ha, hb⟩
  · have ho := ne_self .f64 a
    rw [hn] at ho
    have he : (FloatKind.f64.format.order a a == some .eq) = true := by rw [order_self hn]; rfl
    clear hn
    cases hz : (FloatKind.f64.format.order a 0 == some Ordering.eq)
    · go_enter Try.func40, Try.ntmps40
      go_wp2
      go_ret
      exact ⟨rfl, rfl⟩
    · obtain ⟨r, hr⟩ := one_quo_zero (a := a) (beq_iff_eq.1 hz)
      have hq := fun W => run_float_arith (P := Try.prog) W .quo 51 .f64 4607182418800017408 a r hr
      clear hr
      go_enter Try.func40, Try.ntmps40
      go_wp2
      go_ret
      exact ⟨rfl, rfl⟩
  · have h1 := ne_self .f64 a
    have h2 := ne_self .f64 b
    rw [ha] at h1
    rw [hb] at h2
    clear ha hb
    go_enter Try.func40, Try.ntmps40
    go_wp2
    go_ret
    exact ⟨rfl, rfl⟩

end Go.Proofs.Ytikgnpajjbjkcaa
