/- LocalGain: both sides' answer; the program's. -/
import Derived.Test.YtcnamfjojdjjgaaLocF
import Derived.Test.YtcnamfjojdjjgaaEditT
set_option linter.unusedVariables false
namespace Go.Proofs.Ytcnamfjojdjjgaa
open Go.RowKit
def topLoc (a b : ByteArray) (sm df gap : Int) : Int := mxF (gridI (locE (bx a) (bx b) sm df gap) (b.size + 1)) ((a.size + 1) * (b.size + 1) - 1)
def vLocalGain1 (a b : ByteArray) (p o c : Int) : Bool := (textB a && textB b) && (costB p && costB o && costB c)
def vLocalGain0 (a b : ByteArray) (p o c : Int) : Int := if vLocalGain1 a b p o c then topLoc a b p o c else 0
theorem maxI_any (x : Addr) (n c : Nat) (f : Nat → Int) (w : World) (h0 : 0 < n) (hn : n ≤ 1048576) (hA : Cells w (some x) n (fun i => .int .i64 (f i))) :
    Calls Try.prog 51 #[.slice (some x) n c] w fun e w' => e = .returned (.int .i64 (mxF f (n - 1))) ∧ w = w' := by
  have HA := Lib.hid hA
  obtain ⟨y, hy, hc0⟩ := hA 0 h0
  cases hy
  have k0 : w.cell? x = some (.int .i64 (f 0)) := hc0
  have e0 : ¬ (n : Int) < 1 := by omega
  have e1 : (0 : Int) < n := by omega
  have H0 := Lib.hid (show mxF f 0 = f 0 from rfl)
  clear hA hc0
  go_enter Try.func51, Try.ntmps51
  go_wp2_with fail
  go_loop [3, 4] (fun m ii => ∃ t : Nat, 1 ≤ t ∧ t ≤ n ∧ ii = .int .i64 t ∧ m = .int .i64 (mxF f (t - 1))) (fun _ ii => n - (intOf ii).toNat)
  case atStart => exact ⟨1, Nat.le_refl _, by omega, rfl, by rw [show 1 - 1 = 0 from rfl, H0.out]⟩
  case round =>
    obtain ⟨t, ht1, ht, rfl, rfl⟩ := hrel
    clear k0
    by_cases hlt : t < n
    · have d1 : (t : Int) < n := by omega
      obtain ⟨y, hy, hy0⟩ := HA.out t hlt
      cases hy
      have k1 : w.cell? (x.add t) = some (.int .i64 (f t)) := hy0
      clear hy0
      have HS := Lib.hid (show mxF f t = max (mxF f (t - 1)) (f t) by
        obtain ⟨u, rfl⟩ : ∃ u, t = u + 1 := ⟨t - 1, by omega⟩
        rfl)
      generalize mxF f (t - 1) = m0 at *
      generalize f t = z at *
      go_wp2_with fail
      go_round
      case rel => exact ⟨t + 1, by omega, by omega, by go_num, by rw [Nat.add_sub_cancel, HS.out]⟩
      case measure => simp [intOf]; omega
    · have d1 : ¬ (t : Int) < n := by omega
      obtain rfl : n = t := by omega
      go_wp2_with fail
      go_ret
      exact ⟨rfl, rfl⟩
theorem field0_gridI (u v : Value) (w : World) : (Instr.field 70 (.agg #[u, v]) 0).run Try.prog w = .ok u w := by kernel_rfl
set_option maxRecDepth 20000 in
theorem implLocalGain_law (a b : ByteArray) (p o c : Int) (w : World) (h0 : a.size ≤ 1048576) (h1 : b.size ≤ 1048576) :
    Calls Try.prog 26 #[.string a, .string b, .int .i64 p, .int .i64 o, .int .i64 c] w fun e w' => e = .returned (.tuple #[.int .i64 (vLocalGain0 a b p o c), .bool (vLocalGain1 a b p o c)]) ∧ Below w.heap.size w w' := by
  have HT := Lib.hid (fun W => areTexts_any (some ⟨w.heap.size, 0, none⟩) 2 2 (two a b) W (by omega))
  have HV0 := Lib.hid (show vLocalGain0 a b p o c = if vLocalGain1 a b p o c then topLoc a b p o c else 0 from rfl)
  have HV1 := Lib.hid (show vLocalGain1 a b p o c = ((textB a && textB b) && (costB p && costB o && costB c)) from rfl)
  rw [textsB_two] at HT
  generalize vLocalGain0 a b p o c = v0 at *
  generalize vLocalGain1 a b p o c = v1 at *
  cases ht : (textB a && textB b)
  · rw [ht] at HT HV1
    clear ht
    go_enter Try.func26, Try.ntmps26
    go_wp2_with (first
      | (go_at_call 40
         refine (HT.out _ (cells_two rfl)).mono ?_
         rintro e u1 ⟨rfl, rfl⟩))
    go_ret2
    exact ⟨ret_ib (by rw [HV0.out, HV1.out]; rfl) (by rw [HV1.out]; rfl), (by repeat (first | exact Below.refl _ _ | exact Hid.out (by assumption) | refine below_alloc ?_ _ | refine Below.setCell ?_ (by simp <;> omega) _ | refine Below.alloc ?_ (by simp <;> omega) _ | refine Below.drew ?_ | refine below_drewN ?_ _))⟩
  · have hta : textB a = true := by revert ht; cases textB a <;> simp
    have htb : textB b = true := by revert ht; cases textB b <;> simp
    rw [ht] at HT HV1
    have HW := Lib.hid (fun W => areWeights_any (some ⟨w.heap.size + 1, 0, none⟩) 3 3 (row3 p o c) W (by omega))
    rw [costsB_3] at HW
    cases hc : (costB p && costB o && costB c)
    · rw [hc] at HW HV1
      clear ht hta htb hc
      go_enter Try.func26, Try.ntmps26
      go_wp2_with (first
        | (go_at_call 40
           refine (HT.out _ (cells_two rfl)).mono ?_
           rintro e u1 ⟨rfl, rfl⟩)
        | (go_at_call 41
           refine (HW.out _ (cells_3 (by simp))).mono ?_
           rintro e u2 ⟨rfl, rfl⟩))
      go_ret2
      exact ⟨ret_ib (by rw [HV0.out, HV1.out]; rfl) (by rw [HV1.out]; rfl), (by repeat (first | exact Below.refl _ _ | exact Hid.out (by assumption) | refine below_alloc ?_ _ | refine Below.setCell ?_ (by simp <;> omega) _ | refine Below.alloc ?_ (by simp <;> omega) _ | refine Below.drew ?_ | refine below_drewN ?_ _))⟩
    · have hcp : costB p = true := by revert hc; cases costB p <;> simp
      have hco : costB o = true := by revert hc; cases costB p <;> cases costB o <;> simp
      have hcc : costB c = true := by revert hc; cases costB p <;> cases costB o <;> cases costB c <;> simp
      rw [hc] at HW HV1
      have hp := costB_le hcp
      have ho := costB_le hco
      have hk := costB_le hcc
      have HC := Lib.hid (fun W => filledGridI_any a b p o 0 c W hp ho hk (textB_le hta) (textB_le htb))
      have hsm := grid_small (textB_le hta) (textB_le htb)
      have hpos : 0 < (a.size + 1) * (b.size + 1) := Nat.mul_pos (by omega) (by omega)
      have HM := Lib.hid (fun G W h => maxI_any ⟨G, 0, none⟩ ((a.size + 1) * (b.size + 1)) ((a.size + 1) * (b.size + 1)) (gridI (locE (bx a) (bx b) p o c) (b.size + 1)) W hpos (by omega) h)
      have hfi := fun (W : World) G => field0_gridI (.slice (some ⟨G, 0, none⟩) ((a.size + 1) * (b.size + 1)) ((a.size + 1) * (b.size + 1))) (.int .i64 ((b.size : Int) + 1)) W
      have HTop := Lib.hid (show mxF (gridI (locE (bx a) (bx b) p o c) (b.size + 1)) ((a.size + 1) * (b.size + 1) - 1) = topLoc a b p o c from rfl)
      clear ht hta htb hc hcp hco hcc hp ho hk hpos
      generalize topLoc a b p o c = k at *
      generalize hNN : (a.size + 1) * (b.size + 1) = NN at *
      have HN := Lib.hid hNN
      clear hNN
      go_enter Try.func26, Try.ntmps26
      go_wp2_with (first
        | (go_at_call 40
           refine (HT.out _ (cells_two rfl)).mono ?_
           rintro e u1 ⟨rfl, rfl⟩)
        | (go_at_call 41
           refine (HW.out _ (cells_3 (by simp))).mono ?_
           rintro e u2 ⟨rfl, rfl⟩)
        | (go_at_call 52
           refine (HC.out _).mono ?_
           rintro e u3 ⟨G, rfl, hG, hK, hb⟩
           rw [HN.out]
           have HK := Lib.hid hK
           have PU := Lib.hid (Below.step' (w := w) (by repeat (first | exact Below.refl _ _ | exact Hid.out (by assumption) | refine below_alloc ?_ _ | refine Below.setCell ?_ (by simp <;> omega) _ | refine Below.alloc ?_ (by simp <;> omega) _ | refine Below.drew ?_ | refine below_drewN ?_ _)) (Nat.le_refl _) hb)
           clear hb hG hK)
        | (go_at_call 51
           refine (HM.out G _ (fun i hi => ⟨_, rfl, by
             rw [add0]
             have hd : i = i / (b.size + 1) * (b.size + 1) + i % (b.size + 1) := by have := Nat.div_add_mod i (b.size + 1); rw [Nat.mul_comm] at this; omega
             have hm := Nat.mod_lt i (show 0 < b.size + 1 by omega)
             have hlt : i / (b.size + 1) < a.size + 1 := Nat.div_lt_of_lt_mul (by rw [Nat.mul_comm, HN.out]; omega)
             have := HK.out (i / (b.size + 1)) (i % (b.size + 1)) hm (.inl hlt)
             rw [← hd] at this
             exact this⟩)).mono ?_
           rintro e u4 ⟨rfl, rfl⟩
           rw [HTop.out]))
      go_ret2
      exact ⟨ret_ib (by rw [HV0.out, HV1.out]; rfl) (by rw [HV1.out]; rfl), PU.out⟩
end Go.Proofs.Ytcnamfjojdjjgaa
