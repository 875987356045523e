/- Contracts on narrowing and on not-a-numbers. -/
import Derived.Test.YtlcnelcbhehiaaaWalkA
import Derived.Test.YtlcnelcbhehiaaaFop
set_option linter.unusedVariables false
namespace Go.Proofs.Ytlcnelcbhehiaaa
open Go.RowKit

theorem cvn_bd {y E : Nat} (h : B E y) (hE : E ≤ 1201) (w : World) : (convert 25 22 (.float .f64 y)).run Try.prog w = .ok (.float .f32 (narrow y)) w :=
  run_convert_float_float w _ _ _ _ _ _ (by rw [Try.underlying25]; rfl) Try.underlying22 (narrow_bd h hE).1
theorem cvn_nan {y : Nat} (h : nanB .f64 y = true) (w : World) : (convert 25 22 (.float .f64 y)).run Try.prog w = .ok (.float .f32 (nanOf (.nanConv .f32 y) w)) w.drew :=
  run_conv_nan _ _ _ _ _ (by rw [Try.underlying25]; rfl) Try.underlying22 (by decide) h w

theorem l01Narrow_bd {y E : Nat} (h : B E y) (hE : E ≤ 1201) (w : World) : Calls Try.prog 21 #[.float .f64 y] w fun e w' => e = .returned (.float .f32 (narrow y)) ∧ w = w' := by
  have hc := cvn_bd h hE
  clear h hE
  go_enter Try.func21, Try.ntmps21
  go_wp2
  go_ret
  exact ⟨rfl, rfl⟩
/-- A not-a-number comes back as one. -/
def SomeNaN (k : FloatKind) (e : Ending) : Prop := ∃ r, e = .returned (.float k r) ∧ nanB k r = true
theorem l01Narrow_nan {y : Nat} (h : nanB .f64 y = true) (w : World) : Calls Try.prog 21 #[.float .f64 y] w fun e w' => SomeNaN .f32 e ∧ ∃ n, w' = w.drewN n := by
  have hc := cvn_nan h
  clear h
  go_enter Try.func21, Try.ntmps21
  go_wp2
  go_ret
  exact ⟨⟨_, rfl, nanOf_conv _ _ _⟩, 1, rfl⟩
theorem Narrow_bd {y E : Nat} (h : B E y) (hE : E ≤ 1201) (w : World) : Calls Try.prog 16 #[.float .f64 y] w fun e w' => e = .returned (.float .f32 (narrow y)) ∧ w = w' := by
  have hc := cvn_bd h hE
  clear h hE
  go_enter Try.func16, Try.ntmps16
  go_wp2
  go_ret
  exact ⟨rfl, rfl⟩

theorem wide_zero : wide 0 = 0 := by decide
theorem fin_nan32 {x : Nat} (h : finB .f32 x = true) : nanB .f32 x = false := by
  cases hn : nanB .f32 x
  · rfl
  · rw [fin_not_nan hn] at h; cases h
theorem wide_ord0 {x : Nat} (h : nanB .f32 x = false) : Ieee.double.order (wide x) 0 = Ieee.single.order x 0 := by
  have := wide_order h (show nanB .f32 0 = false by decide)
  rw [wide_zero] at this
  exact this
theorem B_wide {x : Nat} (h : finB .f32 x = true) : B 1202 (wide x) := by
  have hn := fin_nan32 h
  unfold finB at h
  cases hx : FloatKind.f32.decode x with
  | number s m p =>
    obtain ⟨_, h2, h3, h4, _⟩ := Fl.read_fin eb32 (show Ieee.single.read x = _ from hx)
    obtain ⟨_, hp, _, m', p', hr, hp', hv⟩ := wide_num hx
    obtain ⟨E, hE⟩ : ∃ E : Nat, E = 1202 := ⟨_, rfl⟩
    rw [← hE]
    refine B_of hr hp' ?_
    rw [hv]
    rw [least32] at h4
    have hfb : Ieee.single.fractionBits = 23 := rfl
    have heb : Ieee.single.exponentBits = 8 := rfl
    rw [hfb] at h3
    rw [heb] at h4
    refine Nat.le_trans (Nat.mul_le_mul_right _ (Nat.mul_le_mul_right _ (Nat.le_of_lt h3))) ?_
    rw [← Nat.pow_add, ← Nat.pow_add]
    exact Nat.pow_le_pow_right (by omega) (by unfold k925; omega)
  | infinity s => rw [hx] at h; cases h
  | nan s t => rw [hx] at h; cases h


def Wrap (R : Ending → World → Prop) (e : Ending) (w : World) : Prop := R e w

end Go.Proofs.Ytlcnelcbhehiaaa
