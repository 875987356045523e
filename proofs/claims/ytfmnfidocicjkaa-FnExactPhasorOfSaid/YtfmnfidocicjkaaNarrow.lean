/- Contracts on narrowing and on not-a-numbers. -/
import Derived.Test.YtfmnfidocicjkaaWalkA
import Derived.Test.YtfmnfidocicjkaaFop
set_option linter.unusedVariables false
namespace Go.Proofs.Ytfmnfidocicjkaa
open Go.RowKit

theorem cvn_bd {y E : Nat} (h : B E y) (hE : E ≤ 1201) (w : World) : (convert 22 28 (.float .f64 y)).run Try.prog w = .ok (.float .f32 (narrow y)) w :=
  run_convert_float_float w _ _ _ _ _ _ (by rw [Try.underlying22]; rfl) Try.underlying28 (narrow_bd h hE).1
theorem cvn_nan {y : Nat} (h : nanB .f64 y = true) (w : World) : (convert 22 28 (.float .f64 y)).run Try.prog w = .ok (.float .f32 (nanOf (.nanConv .f32 y) w)) w.drew :=
  run_conv_nan _ _ _ _ _ (by rw [Try.underlying22]; rfl) Try.underlying28 (by decide) h w

theorem l01Narrow_bd {y E : Nat} (h : B E y) (hE : E ≤ 1201) (w : World) : Calls Try.prog 45 #[.float .f64 y] w fun e w' => e = .returned (.float .f32 (narrow y)) ∧ w = w' := by
  have hc := cvn_bd h hE
  clear h hE
  go_enter Try.func45, Try.ntmps45
  go_wp2
  go_ret
  exact ⟨rfl, rfl⟩
/-- A not-a-number comes back as one. -/
def SomeNaN (k : FloatKind) (e : Ending) : Prop := ∃ r, e = .returned (.float k r) ∧ nanB k r = true
theorem l01Narrow_nan {y : Nat} (h : nanB .f64 y = true) (w : World) : Calls Try.prog 45 #[.float .f64 y] w fun e w' => SomeNaN .f32 e ∧ ∃ n, w' = w.drewN n := by
  have hc := cvn_nan h
  clear h
  go_enter Try.func45, Try.ntmps45
  go_wp2
  go_ret
  exact ⟨⟨_, rfl, nanOf_conv _ _ _⟩, 1, rfl⟩
theorem Narrow_bd {y E : Nat} (h : B E y) (hE : E ≤ 1201) (w : World) : Calls Try.prog 33 #[.float .f64 y] w fun e w' => e = .returned (.float .f32 (narrow y)) ∧ w = w' := by
  have hc := cvn_bd h hE
  clear h hE
  go_enter Try.func33, Try.ntmps33
  go_wp2
  go_ret
  exact ⟨rfl, rfl⟩
theorem notANumber_any (w : World) : Calls Try.prog 25 #[] w fun e w' => e = .returned (.float .f32 2143289344) ∧ w = w' := by
  go_enter Try.func25, Try.ntmps25
  go_wp2
  go_ret
  exact ⟨rfl, rfl⟩

theorem wide_zero : wide 0 = 0 := by decide
theorem fin_nan32 {x : Nat} (h : finB .f32 x = true) : nanB .f32 x = false := by
  cases hn : nanB .f32 x
  · rfl
  · rw [fin_not_nan hn] at h; cases h
theorem wide_ord0 {x : Nat} (h : nanB .f32 x = false) : Ieee.double.order (wide x) 0 = Ieee.single.order x 0 := by
  have := wide_order h (show nanB .f32 0 = false by decide)
  rw [wide_zero] at this
  exact this
theorem B_wide {x : Nat} (h : finB .f32 x = true) : B 1202 (wide x) := by
  have hn := fin_nan32 h
  unfold finB at h
  cases hx : FloatKind.f32.decode x with
  | number s m p =>
    obtain ⟨_, h2, h3, h4, _⟩ := Fl.read_fin eb32 (show Ieee.single.read x = _ from hx)
    obtain ⟨_, hp, _, m', p', hr, hp', hv⟩ := wide_num hx
    obtain ⟨E, hE⟩ : ∃ E : Nat, E = 1202 := ⟨_, rfl⟩
    rw [← hE]
    refine B_of hr hp' ?_
    rw [hv]
    rw [least32] at h4
    have hfb : Ieee.single.fractionBits = 23 := rfl
    have heb : Ieee.single.exponentBits = 8 := rfl
    rw [hfb] at h3
    rw [heb] at h4
    refine Nat.le_trans (Nat.mul_le_mul_right _ (Nat.mul_le_mul_right _ (Nat.le_of_lt h3))) ?_
    rw [← Nat.pow_add, ← Nat.pow_add]
    exact Nat.pow_le_pow_right (by omega) (by unfold k925; omega)
  | infinity s => rw [hx] at h; cases h
  | nan s t => rw [hx] at h; cases h


def Wrap (R : Ending → World → Prop) (e : Ending) (w : World) : Prop := R e w

def nan64 : Nat := 9221120237041090561
theorem NaN_any (w : World) : Calls Try.prog 56 #[] w fun e w' => e = .returned (.float .f64 nan64) ∧ w = w' := by
  go_enter Try.func56, Try.ntmps56
  go_wp2
  go_ret
  exact ⟨rfl, rfl⟩
theorem sub64_nan {x : Nat} (h : finB .f64 x = false) (w : World) : (binOp .sub 22 (.float .f64 x) (.float .f64 x)).run Try.prog w = .ok (.float .f64 (nanOf (.nanBits .f64 x x) w)) w.drew :=
  run_arith_nan (P := Try.prog) .sub 22 .f64 x x (by simp) (sub_self64_not h) w
theorem sub64_fin {x : Nat} (h : finB .f64 x = true) (w : World) : (binOp .sub 22 (.float .f64 x) (.float .f64 x)).run Try.prog w = .ok (.float .f64 0) w :=
  run_float_arith (P := Try.prog) w .sub 22 .f64 x x 0 (sub_self64 h)
theorem nanbits_ne (x y : Nat) (w : World) : (FloatKind.f64.format.order (nanOf (.nanBits .f64 x y) w) 0 != some .eq) = true := by
  rw [order_nan_left 0 (nanOf_bits .f64 x y w)]; rfl


end Go.Proofs.Ytfmnfidocicjkaa
