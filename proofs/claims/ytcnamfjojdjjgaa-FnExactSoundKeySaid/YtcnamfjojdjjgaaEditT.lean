/- EditCost: the reference's answer. -/
import Derived.Test.YtcnamfjojdjjgaaEditS2
set_option linter.unusedVariables false
namespace Go.Proofs.Ytcnamfjojdjjgaa
open Go.RowKit
/-- The last cell of the last row. -/
theorem IRows.last {base : Nat} {W : World} {v : Value} {m n : Nat} {F : Nat → Nat → Int} {R : Nat → Option Addr} {cp : Nat → Nat} (h : IRows base W v (m + 1) (n + 1) F R cp) :
    ∃ gb cap y c, v = .slice (some ⟨gb, 0, none⟩) (m + 1) cap ∧ W.cell? ⟨gb, m, none⟩ = some (.slice (some y) (n + 1) c) ∧ W.cell? (y.add n) = some (.int .i64 (F m n)) := by
  obtain ⟨gb, cap, hv, hc⟩ := h.at (by omega)
  obtain ⟨y, hy, k1⟩ := h.rows m (by omega) n (by omega)
  have := hc m (by omega)
  rw [hy] at this
  exact ⟨gb, cap, y, _, hv, this, k1⟩
set_option maxRecDepth 20000 in
theorem specEditCost_law (a b : ByteArray) (p o c : Int) (w : World) (h0 : a.size ≤ 1048576) (h1 : b.size ≤ 1048576) :
    Calls Try.prog 15 #[.string a, .string b, .int .i64 p, .int .i64 o, .int .i64 c] w fun e w' => e = .returned (.tuple #[.int .i64 (vEditCost0 a b p o c), .bool (vEditCost1 a b p o c)]) ∧ Below w.heap.size w w' := by
  have HT := Lib.hid (fun W => l04Two_any a b W)
  have HV0 := Lib.hid (show vEditCost0 a b p o c = if vEditCost1 a b p o c then costE (bx a) (bx b) p o c 1000000 a.size b.size else 0 from rfl)
  have HV1 := Lib.hid (show vEditCost1 a b p o c = ((textB a && textB b) && (costB p && costB o && costB c)) from rfl)
  generalize vEditCost0 a b p o c = v0 at *
  generalize vEditCost1 a b p o c = v1 at *
  cases ht : (textB a && textB b)
  · rw [ht] at HT HV1
    clear ht
    go_enter Try.func15, Try.ntmps15
    go_wp2_with (first
      | (go_at_call 37
         refine (HT.out _).mono ?_
         rintro e u1 ⟨rfl, rfl⟩))
    go_ret2
    exact ⟨ret_ib (by rw [HV0.out, HV1.out]; rfl) (by rw [HV1.out]; rfl), (by repeat (first | exact Below.refl _ _ | exact Hid.out (by assumption) | refine below_alloc ?_ _ | refine Below.setCell ?_ (by simp <;> omega) _ | refine Below.alloc ?_ (by simp <;> omega) _ | refine Below.drew ?_ | refine below_drewN ?_ _))⟩
  · have hta : textB a = true := by revert ht; cases textB a <;> simp
    have htb : textB b = true := by revert ht; cases textB b <;> simp
    rw [ht] at HT HV1
    have HW := Lib.hid (fun W => l04Costs_any (some ⟨w.heap.size, 0, none⟩) 3 3 (row3 p o c) W (by omega))
    rw [costsB_3] at HW
    cases hc : (costB p && costB o && costB c)
    · rw [hc] at HW HV1
      clear ht hta htb hc
      go_enter Try.func15, Try.ntmps15
      go_wp2_with (first
        | (go_at_call 37
           refine (HT.out _).mono ?_
           rintro e u1 ⟨rfl, rfl⟩)
        | (go_at_call 38
           refine (HW.out _ (cells_3 (by simp))).mono ?_
           rintro e u2 ⟨rfl, rfl⟩))
      go_ret2
      exact ⟨ret_ib (by rw [HV0.out, HV1.out]; rfl) (by rw [HV1.out]; rfl), (by repeat (first | exact Below.refl _ _ | exact Hid.out (by assumption) | refine below_alloc ?_ _ | refine Below.setCell ?_ (by simp <;> omega) _ | refine Below.alloc ?_ (by simp <;> omega) _ | refine Below.drew ?_ | refine below_drewN ?_ _))⟩
    · have hcp : costB p = true := by revert hc; cases costB p <;> simp
      have hco : costB o = true := by revert hc; cases costB p <;> cases costB o <;> simp
      have hcc : costB c = true := by revert hc; cases costB p <;> cases costB o <;> cases costB c <;> simp
      rw [hc] at HW HV1
      have hp := costB_le hcp
      have ho := costB_le hco
      have hk := costB_le hcc
      have HC := Lib.hid (fun W => l04Edits_any a b p o c _ W (tells_costE (x := bx a) (y := bx b) hp ho hk.1) (textB_le hta) (textB_le htb) hp ho hk)
      have d1 : (a.size : Int) < (a.size : Int) + 1 := by omega
      have d2 : (b.size : Int) < (b.size : Int) + 1 := by omega
      clear ht hta htb hc hcp hco hcc hp ho hk
      go_enter Try.func15, Try.ntmps15
      go_wp2_with (first
        | (go_at_call 37
           refine (HT.out _).mono ?_
           rintro e u1 ⟨rfl, rfl⟩)
        | (go_at_call 38
           refine (HW.out _ (cells_3 (by simp))).mono ?_
           rintro e u2 ⟨rfl, rfl⟩)
        | (go_at_call 39
           refine (HC.out _).mono ?_
           rintro e u3 ⟨v, R, cp, rfl, hr, hb⟩
           have PU := Lib.hid (Below.step' (w := w) (by repeat (first | exact Below.refl _ _ | exact Hid.out (by assumption) | refine below_alloc ?_ _ | refine Below.setCell ?_ (by simp <;> omega) _ | refine Below.alloc ?_ (by simp <;> omega) _ | refine Below.drew ?_ | refine below_drewN ?_ _)) (Nat.le_refl _) hb)
           obtain ⟨gb, cap, y, cc, rfl, k1, k2⟩ := hr.last
           generalize costE (bx a) (bx b) p o c 1000000 a.size b.size = k at *
           clear hb hr))
      go_ret2
      exact ⟨ret_ib (by rw [HV0.out, HV1.out]; rfl) (by rw [HV1.out]; rfl), PU.out⟩
end Go.Proofs.Ytcnamfjojdjjgaa
