/- Walks of the angle's functions. -/
import Derived.Test.YtfmnfidocicjkaaCirc
import Derived.Test.YtfmnfidocicjkaaBits
import Derived.LoopTactic
import Derived.Outline
set_option linter.unusedVariables false
namespace Go.Proofs.Ytfmnfidocicjkaa
open Go.RowKit

theorem run_sqrt {P : Program} {x r : Nat} (h : Ieee.double.sqrt x = some r) (w : World) : (Extern.MathSqrt.sqrt #[Value.float .f64 x]).run P w = .ok (Value.float .f64 r) w := by
  have h' : FloatKind.f64.format.sqrt x = some r := h
  have e : Extern.MathSqrt.sqrt #[Value.float .f64 x] = (match FloatKind.f64.format.sqrt x with | some r => pure (Value.float .f64 r) | none => (do pure (Value.float .f64 (← choose (.nanBits .f64 x x))) : Sem Value)) := by kernel_rfl
  rw [e, h']
  rfl
theorem ext_sqrt {x r : Nat} (h : Ieee.double.sqrt x = some r) (w : World) : (callFunc 57 #[.float .f64 x]).run Try.prog w = .ok (.value (.float .f64 r)) w := by
  rw [run_callFunc_extern (e := Extern.MathSqrt.sqrt) Try.func57 (by kernel_rfl) (by kernel_rfl) (by kernel_rfl) (by kernel_rfl), run_sqrt h]
  rfl
theorem Sqrt_any {x r : Nat} (h : Ieee.double.sqrt x = some r) (w : World) : Calls Try.prog 51 #[.float .f64 x] w fun e w' => e = .returned (.float .f64 r) ∧ w = w' := by
  have hs := ext_sqrt h
  clear h
  go_enter Try.func51, Try.ntmps51
  go_wp2
  go_ret
  exact ⟨rfl, rfl⟩

def atIter (t : Nat) : Nat → Nat
  | 0 => t
  | i + 1 => atStep (atIter t i)
theorem atIter_bd {t : Nat} (h : B 1075 t) : ∀ i, B 1075 (atIter t i) := by
  intro i
  induction i with
  | zero => exact h
  | succ i ih => exact (atStep_ok ih).2.2.2.2.2

theorem flatAngle_any (t : Nat) (w : World) (ht : B 1075 t) : Calls Try.prog 32 #[.float .f64 t] w fun e w' => e = .returned (.float .f64 (flatV t)) ∧ w = w' := by
  have HT := Lib.hid (atIter_bd ht)
  clear ht
  have HS := Lib.hid (fun i => atStep_ok (HT.out i))
  have HF := Lib.hid (flat_ok (HT.out 3))
  have HP := Lib.hid (fun j hj => atPoly_ok HF.out.2.1 j hj)
  go_enter Try.func32, Try.ntmps32
  go_wp2
  go_loop [0, 6] (fun v i => ∃ k : Nat, k ≤ 3 ∧ i = .int .i64 k ∧ v = .float .f64 (atIter t k)) (fun _ i => 3 - (intOf i).toNat)
  case atStart => exact ⟨0, by omega, rfl, rfl⟩
  case round =>
    obtain ⟨k, hk, rfl, rfl⟩ := hrel
    by_cases hlt : k < 3
    · obtain ⟨a1, a2, a3, a4, a5, _⟩ := HS.out k
      generalize hz : atStep (atIter t k) = z at *
      have HZ := Lib.hid hz
      clear hz
      have q1 := fun W => run_float_arith (P := Try.prog) W .mul 22 .f64 _ _ _ a1
      have q2 := fun W => run_float_arith (P := Try.prog) W .add 22 .f64 4607182418800017408 _ _ a2
      have q3 := fun W => Sqrt_any a3 W
      have q4 := fun W => run_float_arith (P := Try.prog) W .add 22 .f64 4607182418800017408 _ _ a4
      have q5 := fun W => run_float_arith (P := Try.prog) W .quo 22 .f64 _ _ _ a5
      clear a1 a2 a3 a4 a5
      have Q3 := Lib.hid q3
      clear q3
      go_wp2_with (go_at_call 51; refine (Q3.out _).mono ?_; rintro e w' ⟨rfl, rfl⟩)
      go_round
      case rel => exact ⟨k + 1, by omega, by go_num, by rw [← HZ.out]; rfl⟩
      case measure => simp [intOf]; omega
    · have hk3 : k = 3 := by omega
      subst hk3
      clear hlt hk
      have HI := Lib.hid (show flatV t = fd (fm eight (fm (atIter t 3) (atPoly (fm (atIter t 3) (atIter t 3)) 8))) turn from rfl)
      obtain ⟨a1, _, a3, a4, a5, _⟩ := HF.out
      generalize hz : atIter t 3 = z at *
      clear hz
      have q1 := fun W => run_float_arith (P := Try.prog) W .mul 22 .f64 _ _ _ a1
      have q3 := fun W => run_float_arith (P := Try.prog) W .mul 22 .f64 _ _ _ a3
      have q4 := fun W => run_float_arith (P := Try.prog) W .mul 22 .f64 4620693217682128896 _ _ a4
      have q5 := fun W => run_float_arith (P := Try.prog) W .quo 22 .f64 _ 4618760256179416344 _ a5
      clear a1 a3 a4 a5
      go_wp2
      go_loop [4, 5] (fun v i => ∃ k : Nat, ∃ kk : Int, k ≤ 8 ∧ Hid (kk = 15 - 2 * (k : Int)) ∧ -1 ≤ kk ∧ kk ≤ 15 ∧ i = .int .i64 kk ∧ v = .float .f64 (atPoly (fm z z) k)) (fun _ i => (intOf i + 1).toNat)
      case atStart => exact ⟨0, 15, by omega, by simp [Hid], by omega, by omega, rfl, rfl⟩
      case round =>
        obtain ⟨k, kk, hk, hkk, hk1, hk2, rfl, rfl⟩ := hrel
        by_cases h1 : 1 ≤ kk
        · have hk8 : k < 8 := by have := hkk; unfold Hid at this; omega
          obtain ⟨b1, b2, b3⟩ := HP.out k hk8
          rw [show 15 - 2 * (k : Int) = kk from hkk.symm] at b1 b3
          generalize hp : atPoly (fm z z) (k + 1) = p' at *
          have HPP := Lib.hid hp
          clear hp
          generalize atPoly (fm z z) k = pp at *
          have r1 := fun W => run_float_arith (P := Try.prog) W .quo 22 .f64 4607182418800017408 _ _ b1
          have r2 := fun W => run_float_arith (P := Try.prog) W .mul 22 .f64 _ _ _ b2
          have r3 := fun W => run_float_arith (P := Try.prog) W .sub 22 .f64 _ _ _ b3
          clear b1 b2 b3
          go_wp2
          go_round
          case rel => exact ⟨k + 1, kk - 2, by omega, by have := hkk; unfold Hid at this ⊢; omega, by omega, by omega, rfl, by rw [HPP.out]⟩
          case measure => simp [intOf]; omega
        · have hk8 : k = 8 := by have := hkk; unfold Hid at this; omega
          subst hk8
          go_wp2
          go_ret
          exact ⟨ret_float HI.out.symm, rfl⟩
end Go.Proofs.Ytfmnfidocicjkaa
