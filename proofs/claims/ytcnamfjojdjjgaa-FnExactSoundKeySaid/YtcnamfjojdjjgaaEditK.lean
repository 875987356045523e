/- Least edits: their costs, both sides' answers; the program's. -/
import Derived.Test.YtcnamfjojdjjgaaEditC
set_option linter.unusedVariables false
namespace Go.Proofs.Ytcnamfjojdjjgaa
open Go.RowKit
def vEditCost1 (a b : ByteArray) (p o c : Int) : Bool := (textB a && textB b) && (costB p && costB o && costB c)
def vEditCost0 (a b : ByteArray) (p o c : Int) : Int := if vEditCost1 a b p o c then costE (bx a) (bx b) p o c 1000000 a.size b.size else 0
def vSwapCost1 (a b : ByteArray) : Bool := textB a && textB b
def vSwapCost0 (a b : ByteArray) : Int := if vSwapCost1 a b then costE (bx a) (bx b) 1 1 1 1 a.size b.size else 0
theorem textB_le {s : ByteArray} (h : textB s = true) : s.size ≤ 48 := by unfold textB at h; exact of_decide_eq_true h
theorem costB_le {n : Int} (h : costB n = true) : 0 ≤ n ∧ n ≤ 1000 := by
  rcases costB_cases n with ⟨h1, h2, e⟩ | ⟨h1, h2, e⟩ | ⟨h1, e⟩
  · exact ⟨h1, h2⟩
  · rw [e] at h; cases h
  · rw [e] at h; cases h
theorem ret_ib {a b : Int} {x y : Bool} (h : a = b) (k : x = y) : Ending.returned (.tuple #[.int .i64 a, .bool x]) = .returned (.tuple #[.int .i64 b, .bool y]) := by rw [h, k]
theorem implEditCost_law (a b : ByteArray) (p o c : Int) (w : World) (h0 : a.size ≤ 1048576) (h1 : b.size ≤ 1048576) :
    Calls Try.prog 16 #[.string a, .string b, .int .i64 p, .int .i64 o, .int .i64 c] w fun e w' => e = .returned (.tuple #[.int .i64 (vEditCost0 a b p o c), .bool (vEditCost1 a b p o c)]) ∧ Below w.heap.size w w' := by
  have HT := Lib.hid (fun W => areTexts_any (some ⟨w.heap.size, 0, none⟩) 2 2 (two a b) W (by omega))
  have HV0 := Lib.hid (show vEditCost0 a b p o c = if vEditCost1 a b p o c then costE (bx a) (bx b) p o c 1000000 a.size b.size else 0 from rfl)
  have HV1 := Lib.hid (show vEditCost1 a b p o c = ((textB a && textB b) && (costB p && costB o && costB c)) from rfl)
  rw [textsB_two] at HT
  generalize vEditCost0 a b p o c = v0 at *
  generalize vEditCost1 a b p o c = v1 at *
  cases ht : (textB a && textB b)
  · rw [ht] at HT HV1
    clear ht
    go_enter Try.func16, Try.ntmps16
    go_wp2_with (first
      | (go_at_call 40
         refine (HT.out _ (cells_two rfl)).mono ?_
         rintro e u1 ⟨rfl, rfl⟩))
    go_ret2
    exact ⟨ret_ib (by rw [HV0.out, HV1.out]; rfl) (by rw [HV1.out]; rfl), (by repeat (first | exact Below.refl _ _ | exact Hid.out (by assumption) | refine below_alloc ?_ _ | refine Below.setCell ?_ (by simp <;> omega) _ | refine Below.alloc ?_ (by simp <;> omega) _ | refine Below.drew ?_ | refine below_drewN ?_ _))⟩
  · have hta : textB a = true := by revert ht; cases textB a <;> simp
    have htb : textB b = true := by revert ht; cases textB b <;> simp
    rw [ht] at HT HV1
    have HW := Lib.hid (fun W => areWeights_any (some ⟨w.heap.size + 1, 0, none⟩) 3 3 (row3 p o c) W (by omega))
    rw [costsB_3] at HW
    cases hc : (costB p && costB o && costB c)
    · rw [hc] at HW HV1
      clear ht hta htb hc
      go_enter Try.func16, Try.ntmps16
      go_wp2_with (first
        | (go_at_call 40
           refine (HT.out _ (cells_two rfl)).mono ?_
           rintro e u1 ⟨rfl, rfl⟩)
        | (go_at_call 41
           refine (HW.out _ (cells_3 (by simp))).mono ?_
           rintro e u2 ⟨rfl, rfl⟩))
      go_ret2
      exact ⟨ret_ib (by rw [HV0.out, HV1.out]; rfl) (by rw [HV1.out]; rfl), (by repeat (first | exact Below.refl _ _ | exact Hid.out (by assumption) | refine below_alloc ?_ _ | refine Below.setCell ?_ (by simp <;> omega) _ | refine Below.alloc ?_ (by simp <;> omega) _ | refine Below.drew ?_ | refine below_drewN ?_ _))⟩
    · have hcp : costB p = true := by revert hc; cases costB p <;> simp
      have hco : costB o = true := by revert hc; cases costB p <;> cases costB o <;> simp
      have hcc : costB c = true := by revert hc; cases costB p <;> cases costB o <;> cases costB c <;> simp
      rw [hc] at HW HV1
      have hp := costB_le hcp
      have ho := costB_le hco
      have hk := costB_le hcc
      have HC := Lib.hid (fun W => cost_any a b p o c 1000000 W ⟨hp, ho, by omega, by omega⟩ (textB_le hta) (textB_le htb))
      clear ht hta htb hc hcp hco hcc hp ho hk
      generalize costE (bx a) (bx b) p o c 1000000 a.size b.size = k at *
      go_enter Try.func16, Try.ntmps16
      go_wp2_with (first
        | (go_at_call 40
           refine (HT.out _ (cells_two rfl)).mono ?_
           rintro e u1 ⟨rfl, rfl⟩)
        | (go_at_call 41
           refine (HW.out _ (cells_3 (by simp))).mono ?_
           rintro e u2 ⟨rfl, rfl⟩)
        | (go_at_call 42
           refine (HC.out _).mono ?_
           rintro e u3 ⟨rfl, hb⟩
           have PU := Lib.hid (Below.step' (w := w) (by repeat (first | exact Below.refl _ _ | exact Hid.out (by assumption) | refine below_alloc ?_ _ | refine Below.setCell ?_ (by simp <;> omega) _ | refine Below.alloc ?_ (by simp <;> omega) _ | refine Below.drew ?_ | refine below_drewN ?_ _)) (Nat.le_refl _) hb)
           clear hb))
      go_ret2
      exact ⟨ret_ib (by rw [HV0.out, HV1.out]; rfl) (by rw [HV1.out]; rfl), PU.out⟩
theorem implSwapCost_law (a b : ByteArray) (w : World) (h0 : a.size ≤ 1048576) (h1 : b.size ≤ 1048576) :
    Calls Try.prog 22 #[.string a, .string b] w fun e w' => e = .returned (.tuple #[.int .i64 (vSwapCost0 a b), .bool (vSwapCost1 a b)]) ∧ Below w.heap.size w w' := by
  have HT := Lib.hid (fun W => areTexts_any (some ⟨w.heap.size, 0, none⟩) 2 2 (two a b) W (by omega))
  have HV0 := Lib.hid (show vSwapCost0 a b = if vSwapCost1 a b then costE (bx a) (bx b) 1 1 1 1 a.size b.size else 0 from rfl)
  have HV1 := Lib.hid (show vSwapCost1 a b = (textB a && textB b) from rfl)
  rw [textsB_two] at HT
  generalize vSwapCost0 a b = v0 at *
  generalize vSwapCost1 a b = v1 at *
  cases ht : (textB a && textB b)
  · rw [ht] at HT HV1
    clear ht
    go_enter Try.func22, Try.ntmps22
    go_wp2_with (first
      | (go_at_call 40
         refine (HT.out _ (cells_two rfl)).mono ?_
         rintro e u1 ⟨rfl, rfl⟩))
    go_ret2
    exact ⟨ret_ib (by rw [HV0.out, HV1.out]; rfl) (by rw [HV1.out]), (by repeat (first | exact Below.refl _ _ | exact Hid.out (by assumption) | refine below_alloc ?_ _ | refine Below.setCell ?_ (by simp <;> omega) _ | refine Below.alloc ?_ (by simp <;> omega) _ | refine Below.drew ?_ | refine below_drewN ?_ _))⟩
  · have hta : textB a = true := by revert ht; cases textB a <;> simp
    have htb : textB b = true := by revert ht; cases textB b <;> simp
    rw [ht] at HT HV1
    have HC := Lib.hid (fun W => cost_any a b 1 1 1 1 W ⟨by omega, by omega, by omega, by omega⟩ (textB_le hta) (textB_le htb))
    clear ht hta htb
    generalize costE (bx a) (bx b) 1 1 1 1 a.size b.size = k at *
    go_enter Try.func22, Try.ntmps22
    go_wp2_with (first
      | (go_at_call 40
         refine (HT.out _ (cells_two rfl)).mono ?_
         rintro e u1 ⟨rfl, rfl⟩)
      | (go_at_call 42
         refine (HC.out _).mono ?_
         rintro e u3 ⟨rfl, hb⟩
         have PU := Lib.hid (Below.step' (w := w) (by repeat (first | exact Below.refl _ _ | exact Hid.out (by assumption) | refine below_alloc ?_ _ | refine Below.setCell ?_ (by simp <;> omega) _ | refine Below.alloc ?_ (by simp <;> omega) _ | refine Below.drew ?_ | refine below_drewN ?_ _)) (Nat.le_refl _) hb)
         clear hb)
      | go_in)
    go_ret2
    exact ⟨ret_ib (by rw [HV0.out, HV1.out]; rfl) (by rw [HV1.out]), PU.out⟩
end Go.Proofs.Ytcnamfjojdjjgaa
