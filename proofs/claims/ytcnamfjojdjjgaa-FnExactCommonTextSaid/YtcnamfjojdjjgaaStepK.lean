/- EditSteps: the program's law. -/
import Derived.Test.YtcnamfjojdjjgaaStepI
import Derived.Test.YtcnamfjojdjjgaaStepS
set_option linter.unusedVariables false
namespace Go.Proofs.Ytcnamfjojdjjgaa
open Go.RowKit
theorem codesOK_steps (a b : ByteArray) (ha : a.size ≤ 48) (hb : b.size ≤ 48) : CodesOK a.size b.size (stepG a b 1 1 1 1000000) := by
  intro i j hi hj
  have e : ∀ i j, stepG a b 1 1 1 1000000 i j = stepE (bx a) (bx b) i j := fun _ _ => rfl
  rw [e]
  cases i with
  | zero =>
    cases j with
    | zero => exact .inl ⟨rfl, rfl, stepE_00⟩
    | succ j => exact .inr (.inr (.inr ⟨by omega, stepE_0j j⟩))
  | succ i =>
    cases j with
    | zero => exact .inr (.inr (.inl ⟨by omega, stepE_i0 i⟩))
    | succ j =>
      have hv := stepE_ss (x := bx a) (y := bx b) i j (by omega) (by omega)
      generalize stepE (bx a) (bx b) (i + 1) (j + 1) = v at *
      have k : v = 61 ∨ v = 33 ∨ v = 45 ∨ v = 43 := by
        rw [hv]
        clear hv
        generalize costE (bx a) (bx b) 1 1 1 1000000 (i + 1) (j + 1) = z
        by_cases c1 : costE (bx a) (bx b) 1 1 1 1000000 i j + (if bx a i = bx b j then 0 else 1) = z
        · rw [if_pos c1]
          by_cases c2 : bx a i = bx b j
          · rw [if_pos c2]; exact .inl rfl
          · rw [if_neg c2]; exact .inr (.inl rfl)
        · rw [if_neg c1]
          by_cases c3 : costE (bx a) (bx b) 1 1 1 1000000 i (j + 1) + 1 = z
          · rw [if_pos c3]; exact .inr (.inr (.inl rfl))
          · rw [if_neg c3]; exact .inr (.inr (.inr rfl))
      rcases k with k | k | k | k
      · exact .inr (.inl ⟨by omega, by omega, .inl k⟩)
      · exact .inr (.inl ⟨by omega, by omega, .inr k⟩)
      · exact .inr (.inr (.inl ⟨by omega, k⟩))
      · exact .inr (.inr (.inr ⟨by omega, k⟩))
theorem implEditSteps_law (a b : ByteArray) (w : World) (h0 : a.size ≤ 1048576) (h1 : b.size ≤ 1048576) :
    Calls Try.prog 18 #[.string a, .string b] w fun e w' => e = .returned (.tuple #[.string (vEditSteps0 a b), .bool (vEditSteps1 a b)]) ∧ Below w.heap.size w w' := by
  have HT := Lib.hid (fun W => areTexts_any (some ⟨w.heap.size, 0, none⟩) 2 2 (two a b) W (by omega))
  have HV0 := Lib.hid (show vEditSteps0 a b = if vEditSteps1 a b then textL (stepsL a b).reverse else ⟨#[]⟩ from rfl)
  have HV1 := Lib.hid (show vEditSteps1 a b = (textB a && textB b) from rfl)
  rw [textsB_two] at HT
  generalize vEditSteps0 a b = v0 at *
  generalize vEditSteps1 a b = v1 at *
  cases ht : (textB a && textB b)
  · rw [ht] at HT HV1
    clear ht
    go_enter Try.func18, Try.ntmps18
    go_wp2_with (first
      | (go_at_call 40
         refine (HT.out _ (cells_two rfl)).mono ?_
         rintro e u1 ⟨rfl, rfl⟩))
    go_ret2
    exact ⟨ret_sb (by rw [HV0.out, HV1.out]; rfl) (by rw [HV1.out]), (by repeat (first | exact Below.refl _ _ | exact Hid.out (by assumption) | refine below_alloc ?_ _ | refine Below.setCell ?_ (by simp <;> omega) _ | refine Below.alloc ?_ (by simp <;> omega) _ | refine Below.drew ?_ | refine below_drewN ?_ _))⟩
  · have hta : textB a = true := by revert ht; cases textB a <;> simp
    have htb : textB b = true := by revert ht; cases textB b <;> simp
    rw [ht] at HT HV1
    have HC := Lib.hid (fun W => steps_any a b 1 1 1 1000000 W ⟨by omega, by omega, by omega, by omega⟩ (textB_le hta) (textB_le htb) (codesOK_steps a b (textB_le hta) (textB_le htb)))
    have HL := Lib.hid (show backE (stepG a b 1 1 1 1000000) (a.size + b.size) a.size b.size = stepsL a b from rfl)
    rw [HL.out] at HC
    clear ht hta htb HL
    generalize stepsL a b = k at *
    go_enter Try.func18, Try.ntmps18
    go_wp2_with (first
      | (go_at_call 40
         refine (HT.out _ (cells_two rfl)).mono ?_
         rintro e u1 ⟨rfl, rfl⟩)
      | (go_at_call 43
         refine (HC.out _).mono ?_
         rintro e u3 ⟨rfl, hb⟩
         have PU := Lib.hid (Below.step' (w := w) (by repeat (first | exact Below.refl _ _ | exact Hid.out (by assumption) | refine below_alloc ?_ _ | refine Below.setCell ?_ (by simp <;> omega) _ | refine Below.alloc ?_ (by simp <;> omega) _ | refine Below.drew ?_ | refine below_drewN ?_ _)) (Nat.le_refl _) hb)
         clear hb)
      | go_in)
    go_ret2
    exact ⟨ret_sb (by rw [HV0.out, HV1.out]; rfl) (by rw [HV1.out]), PU.out⟩
end Go.Proofs.Ytcnamfjojdjjgaa
