/- The chance of a word: the program's, whole. -/
import Derived.Test.YtikgnpajjbjkcaaChanI
set_option linter.unusedVariables false
namespace Go.Proofs.Ytikgnpajjbjkcaa
open Go.RowKit
/-- A part of a row. -/
def PartRes (w w' : World) (e : Ending) (N : Nat) (V : Nat → Nat) : Prop := ∃ x : Addr, e = .returned (.slice (some x) N N) ∧ Cells w' (some x) N (fun i => .float .f32 (V i)) ∧ Below w.heap.size w w'
set_option maxRecDepth 20000 in
set_option maxHeartbeats 4000000 in
theorem lastRow_any (N L : Nat) (A B C D : Option Addr) (c d q p e : Nat) (f g h : Nat → Nat) (v : Nat → Int) (w : World) (N1 : 1 ≤ N) (N2 : N ≤ 5) (L2 : L ≤ 4) (hp : p ≤ 12) (hv : ∀ k, k < p → 0 ≤ v k ∧ (v k).toNat < L)
    (hf : ∀ i, i < N → S 149 (f i)) (hg : ∀ i, i < N * N → S 149 (g i)) (hh : ∀ i, i < N * L → S 149 (h i))
    (hA : Cells w A N (fun i => .float .f32 (f i))) (hB : Cells w B (N * N) (fun i => .float .f32 (g i))) (hC : Cells w C (N * L) (fun i => .float .f32 (h i))) (hD : Cells w D p (fun i => .int .i64 (v i))) :
    Calls Try.prog 114 #[.agg #[.int .i64 N, .int .i64 L, .slice A N c, .slice B (N * N) d, .slice C (N * L) q], .slice D p e] w fun e w' => PartRes w w' e N (fwdR f g h N L v p) := by
  have HF := Lib.hid (fun W t1 t2 t3 t4 => forwardRows_any N L A B C D c d q p e f g h v W N1 N2 L2 hp hv hf hg hh t1 t2 t3 t4)
  have HA := Lib.hid hA
  have HB := Lib.hid hB
  have HC := Lib.hid hC
  have HD := Lib.hid hD
  have HKeep := Lib.hid (show ∀ W, Below (w.heap.size + 1) (w.alloc (.cells #[.int .i64 N, .int .i64 L, .slice A N c, .slice B (N * N) d, .slice C (N * L) q] 27)) W → (W.cell? ⟨w.heap.size, 0, none⟩ = some (.int .i64 N) ∧ W.cell? ⟨w.heap.size, 1, none⟩ = some (.int .i64 L) ∧ W.cell? ⟨w.heap.size, 2, none⟩ = some (.slice A N c) ∧ W.cell? ⟨w.heap.size, 3, none⟩ = some (.slice B (N * N) d) ∧ W.cell? ⟨w.heap.size, 4, none⟩ = some (.slice C (N * L) q)) from fun W hW => by
    have Y := Box5.below (Box5.new w 27 (.int .i64 N) (.int .i64 L) (.slice A N c) (.slice B (N * N) d) (.slice C (N * L) q)) (by simpa using hW)
    exact ⟨Y.c0, Y.c1, Y.c2, Y.c3, Y.c4⟩)
  have hpN : p * N + N = (p + 1) * N := (Nat.succ_mul p N).symm
  have hpb : (p + 1) * N ≤ 13 * 5 := Nat.mul_le_mul (by omega) N2
  clear hA hB hC hD hf hg hh hv
  go_enter Try.func114, Try.ntmps114
  go_wp2_with fail
  go_region_held3 (fun W => W.cell? ⟨w.heap.size, 0, none⟩ = some (.int .i64 N) ∧ W.cell? ⟨w.heap.size, 1, none⟩ = some (.int .i64 L) ∧ W.cell? ⟨w.heap.size, 2, none⟩ = some (.slice A N c) ∧ W.cell? ⟨w.heap.size, 3, none⟩ = some (.slice B (N * N) d) ∧ W.cell? ⟨w.heap.size, 4, none⟩ = some (.slice C (N * L) q))
    (exact HKeep.out _ (by repeat (first | exact Below.refl _ _ | exact Hid.out (by assumption) | refine below_alloc ?_ _ | refine Below.setCell ?_ (by simp <;> omega) _ | refine Below.alloc ?_ (by simp <;> omega) _ | refine Below.drew ?_ | refine below_drewN ?_ _)))
    (first
      | (go_at_call 74
         refine (HF.out _ (HA.out.below (by repeat (first | exact Below.refl _ _ | exact Hid.out (by assumption) | refine below_alloc ?_ _ | refine Below.setCell ?_ (by simp <;> omega) _ | refine Below.alloc ?_ (by simp <;> omega) _ | refine Below.drew ?_ | refine below_drewN ?_ _))) (HB.out.below (by repeat (first | exact Below.refl _ _ | exact Hid.out (by assumption) | refine below_alloc ?_ _ | refine Below.setCell ?_ (by simp <;> omega) _ | refine Below.alloc ?_ (by simp <;> omega) _ | refine Below.drew ?_ | refine below_drewN ?_ _))) (HC.out.below (by repeat (first | exact Below.refl _ _ | exact Hid.out (by assumption) | refine below_alloc ?_ _ | refine Below.setCell ?_ (by simp <;> omega) _ | refine Below.alloc ?_ (by simp <;> omega) _ | refine Below.drew ?_ | refine below_drewN ?_ _))) (HD.out.below (by repeat (first | exact Below.refl _ _ | exact Hid.out (by assumption) | refine below_alloc ?_ _ | refine Below.setCell ?_ (by simp <;> omega) _ | refine Below.alloc ?_ (by simp <;> omega) _ | refine Below.drew ?_ | refine below_drewN ?_ _)))).mono ?_
         rintro e u1 ⟨A2, d2, g2, rfl, h1, h2, h3, hb⟩
         have P := Lib.hid (show Below (w.heap.size + 1) (w.alloc (.cells #[.int .i64 N, .int .i64 L, .slice A N c, .slice B (N * N) d, .slice C (N * L) q] 27)) u1 from Below.step (by repeat (first | exact Below.refl _ _ | exact Hid.out (by assumption) | refine below_alloc ?_ _ | refine Below.setCell ?_ (by simp <;> omega) _ | refine Below.alloc ?_ (by simp <;> omega) _ | refine Below.drew ?_ | refine below_drewN ?_ _)) (by simp) hb)
         obtain ⟨xx, rfl, -⟩ := h3 0 (by omega)
         have O3 := Lib.hid h3.cells
         have HRo := Lib.hid (fun W => rowOf_any xx ((p + 1) * N) d2 p N W (by omega) (by omega) (by omega))
         clear hb h1 h2 h3)
      | (go_at_call 69
         refine (HRo.out _).mono ?_
         rintro e w' ⟨rfl, rfl⟩))
  all_goals (
    go_wp2_with fail
    have HR := Lib.hid (show PartRes w u1 (.returned (.slice (some (xx.add (p * N))) N N)) N (fwdR f g h N L v p) from
      ⟨_, rfl, (Cells.part (n := (p + 1) * N) O3.out (show p * N + N ≤ (p + 1) * N by omega)).congr fun j hj => by rw [flat_at hj], ((Below.refl _ _).alloc (Nat.le_refl _) _).trans (P.out.mono (by omega))⟩)
    go_ret
    exact HR.out)

set_option maxHeartbeats 1000000 in
theorem chanceOfWord_any (N L : Nat) (A B C D : Option Addr) (c d q p e : Nat) (f g h : Nat → Nat) (v : Nat → Int) (w : World) (N1 : 1 ≤ N) (N2 : N ≤ 5) (L2 : L ≤ 4) (hp : p ≤ 12) (hv : ∀ k, k < p → 0 ≤ v k ∧ (v k).toNat < L)
    (hf : ∀ i, i < N → S 149 (f i)) (hg : ∀ i, i < N * N → S 149 (g i)) (hh : ∀ i, i < N * L → S 149 (h i))
    (hA : Cells w A N (fun i => .float .f32 (f i))) (hB : Cells w B (N * N) (fun i => .float .f32 (g i))) (hC : Cells w C (N * L) (fun i => .float .f32 (h i))) (hD : Cells w D p (fun i => .int .i64 (v i))) :
    Calls Try.prog 78 #[.agg #[.int .i64 N, .int .i64 L, .slice A N c, .slice B (N * N) d, .slice C (N * L) q], .slice D p e] w fun e w' => e = .returned (.float .f32 (chanF f g h N L v p)) ∧ Below w.heap.size w w' := by
  have HL := Lib.hid (fun W t1 t2 t3 t4 => lastRow_any N L A B C D c d q p e f g h v W N1 N2 L2 hp hv hf hg hh t1 t2 t3 t4)
  have HS := Lib.hid (fun R W t => sumOfRow_any R N N (fwdR f g h N L v p) W (by omega) t (chan_add N2 hp hf hg hh fun k hk => (hv k hk).2))
  have HA := Lib.hid hA
  have HB := Lib.hid hB
  have HC := Lib.hid hC
  have HD := Lib.hid hD
  have HE := Lib.hid (show chanF f g h N L v p = sumF (fwdR f g h N L v p) N from rfl)
  clear hA hB hC hD hf hg hh hv
  go_enter Try.func78, Try.ntmps78
  go_wp2_with fail
  refine (HL.out _ (HA.out.below (by repeat (first | exact Below.refl _ _ | exact Hid.out (by assumption) | refine below_alloc ?_ _ | refine Below.setCell ?_ (by simp <;> omega) _ | refine Below.alloc ?_ (by simp <;> omega) _ | refine Below.drew ?_ | refine below_drewN ?_ _))) (HB.out.below (by repeat (first | exact Below.refl _ _ | exact Hid.out (by assumption) | refine below_alloc ?_ _ | refine Below.setCell ?_ (by simp <;> omega) _ | refine Below.alloc ?_ (by simp <;> omega) _ | refine Below.drew ?_ | refine below_drewN ?_ _))) (HC.out.below (by repeat (first | exact Below.refl _ _ | exact Hid.out (by assumption) | refine below_alloc ?_ _ | refine Below.setCell ?_ (by simp <;> omega) _ | refine Below.alloc ?_ (by simp <;> omega) _ | refine Below.drew ?_ | refine below_drewN ?_ _))) (HD.out.below (by repeat (first | exact Below.refl _ _ | exact Hid.out (by assumption) | refine below_alloc ?_ _ | refine Below.setCell ?_ (by simp <;> omega) _ | refine Below.alloc ?_ (by simp <;> omega) _ | refine Below.drew ?_ | refine below_drewN ?_ _)))).mono ?_
  rintro e w1 ⟨x, rfl, h1, hb⟩
  have HR := Lib.hid h1
  have NB := Lib.hid (Below.step (w := w) (by repeat (first | exact Below.refl _ _ | exact Hid.out (by assumption) | refine below_alloc ?_ _ | refine Below.setCell ?_ (by simp <;> omega) _ | refine Below.alloc ?_ (by simp <;> omega) _ | refine Below.drew ?_ | refine below_drewN ?_ _)) (Nat.le_refl _) hb)
  clear hb h1
  go_wp2_with fail
  refine (HS.out _ _ HR.out).mono ?_
  rintro e w2 ⟨rfl, hb⟩
  have NB2 := Lib.hid (Below.step (w := w) (by repeat (first | exact Below.refl _ _ | exact Hid.out (by assumption) | refine below_alloc ?_ _ | refine Below.setCell ?_ (by simp <;> omega) _ | refine Below.alloc ?_ (by simp <;> omega) _ | refine Below.drew ?_ | refine below_drewN ?_ _)) (Nat.le_refl _) hb)
  clear hb
  go_wp2_with fail
  go_ret
  exact ⟨by rw [HE.out]; rfl, NB2.out⟩
set_option maxHeartbeats 1000000 in
theorem implChanceOf_any
  (s l : Int) (A B C : Option Addr) (n c m d o q : Nat) (f g h : Nat → Nat)
  (D : Option Addr) (p e : Nat) (v : Nat → Int) (w : World)
  (hn : n ≤ 1048576) (hm : m ≤ 1048576) (ho : o ≤ 1048576) (hc : n ≤ c ∧ c ≤ 1048576) (hd : m ≤ d ∧ d ≤ 1048576) (hq : o ≤ q ∧ q ≤ 1048576) (hA : Cells w A n (fun i => .float .f32 (f i))) (hB : Cells w B m (fun i => .float .f32 (g i))) (hC : Cells w C o (fun i => .float .f32 (h i)))
  (hp : p ≤ 1048576) (hD : Cells w D p (fun i => .int .i64 (v i)))
  : Calls Try.prog 39 #[.agg #[.int .i64 s, .int .i64 l, .slice A n c, .slice B m d, .slice C o q], .slice D p e] w fun e w' => e = .returned (.tuple #[.float .f32 (chanV s l n m o f g h v p), .bool (showOk s l n m o f g h v p)]) ∧ Below w.heap.size w w' := by
  have HWd := Lib.hid (fun W k1 k2 k3 k4 => canShow_any s l A B C n c m d o q f g h D p e v W hn hm ho hc hd hq k1 k2 k3 hp k4)
  have HA := Lib.hid hA
  have HB := Lib.hid hB
  have HC := Lib.hid hC
  have HD := Lib.hid hD
  have HV := Lib.hid (show showOk s l n m o f g h v p = false → chanV s l n m o f g h v p = 0 from fun k => by unfold chanV; rw [k]; rfl)
  have HV2 := Lib.hid (show showOk s l n m o f g h v p = true → chanV s l n m o f g h v p = chanF f g h s.toNat l.toNat v p from fun k => by unfold chanV; rw [k]; rfl)
  have HO := Lib.hid (show showOk s l n m o f g h v p = (validMod s l n m o f g h && wordB v p (l - 1)) from rfl)
  clear hA hB hC hD
  cases h1 : showOk s l n m o f g h v p
  · rw [HV.out h1]
    rw [← HO.out, h1] at HWd
    clear h1 HO HV HV2
    go_enter Try.func39, Try.ntmps39
    go_wp2_with fail
    refine (HWd.out _ (HA.out.below (by repeat (first | exact Below.refl _ _ | exact Hid.out (by assumption) | refine below_alloc ?_ _ | refine Below.setCell ?_ (by simp <;> omega) _ | refine Below.alloc ?_ (by simp <;> omega) _ | refine Below.drew ?_ | refine below_drewN ?_ _))) (HB.out.below (by repeat (first | exact Below.refl _ _ | exact Hid.out (by assumption) | refine below_alloc ?_ _ | refine Below.setCell ?_ (by simp <;> omega) _ | refine Below.alloc ?_ (by simp <;> omega) _ | refine Below.drew ?_ | refine below_drewN ?_ _))) (HC.out.below (by repeat (first | exact Below.refl _ _ | exact Hid.out (by assumption) | refine below_alloc ?_ _ | refine Below.setCell ?_ (by simp <;> omega) _ | refine Below.alloc ?_ (by simp <;> omega) _ | refine Below.drew ?_ | refine below_drewN ?_ _))) (HD.out.below (by repeat (first | exact Below.refl _ _ | exact Hid.out (by assumption) | refine below_alloc ?_ _ | refine Below.setCell ?_ (by simp <;> omega) _ | refine Below.alloc ?_ (by simp <;> omega) _ | refine Below.drew ?_ | refine below_drewN ?_ _)))).mono ?_
    rintro e w1 ⟨rfl, hb⟩
    have NB := Lib.hid (Below.step (w := w) (by repeat (first | exact Below.refl _ _ | exact Hid.out (by assumption) | refine below_alloc ?_ _ | refine Below.setCell ?_ (by simp <;> omega) _ | refine Below.alloc ?_ (by simp <;> omega) _ | refine Below.drew ?_ | refine below_drewN ?_ _)) (Nat.le_refl _) hb)
    clear hb
    go_wp2_with fail
    refine bodyPost_ret (v := .tuple #[.float .f32 0, .bool false]) (by simp [results, Try.results39, go_sem]) rfl ⟨rfl, NB.out⟩
  · rw [HV2.out h1]
    have h1' := h1
    rw [HO.out, Bool.and_eq_true] at h1'
    obtain ⟨N, L, rfl, rfl, N1, N2, L1, L2, rfl, rfl, rfl, hf, hg, hh⟩ := validMod_nat h1'.1
    obtain ⟨hp2, hw⟩ := word_lt h1'.2
    rw [← HO.out, h1] at HWd
    have HCh := Lib.hid (fun W k1 k2 k3 k4 => chanceOfWord_any n L A B C D c d q p e f g h v W N1 N2 L2 hp2 hw hf hg hh k1 k2 k3 k4)
    rw [show ((n : Int)).toNat = n from rfl, show ((L : Int)).toNat = L from rfl]
    generalize chanF f g h n L v p = r at *
    clear h1 h1' HO HV HV2 hf hg hh hw
    go_enter Try.func39, Try.ntmps39
    go_wp2_with fail
    refine (HWd.out _ (HA.out.below (by repeat (first | exact Below.refl _ _ | exact Hid.out (by assumption) | refine below_alloc ?_ _ | refine Below.setCell ?_ (by simp <;> omega) _ | refine Below.alloc ?_ (by simp <;> omega) _ | refine Below.drew ?_ | refine below_drewN ?_ _))) (HB.out.below (by repeat (first | exact Below.refl _ _ | exact Hid.out (by assumption) | refine below_alloc ?_ _ | refine Below.setCell ?_ (by simp <;> omega) _ | refine Below.alloc ?_ (by simp <;> omega) _ | refine Below.drew ?_ | refine below_drewN ?_ _))) (HC.out.below (by repeat (first | exact Below.refl _ _ | exact Hid.out (by assumption) | refine below_alloc ?_ _ | refine Below.setCell ?_ (by simp <;> omega) _ | refine Below.alloc ?_ (by simp <;> omega) _ | refine Below.drew ?_ | refine below_drewN ?_ _))) (HD.out.below (by repeat (first | exact Below.refl _ _ | exact Hid.out (by assumption) | refine below_alloc ?_ _ | refine Below.setCell ?_ (by simp <;> omega) _ | refine Below.alloc ?_ (by simp <;> omega) _ | refine Below.drew ?_ | refine below_drewN ?_ _)))).mono ?_
    rintro e w1 ⟨rfl, hb⟩
    have NB := Lib.hid (show Below w.heap.size w w1 from Below.trans (by repeat (first | exact Below.refl _ _ | exact Hid.out (by assumption) | refine below_alloc ?_ _ | refine Below.setCell ?_ (by simp <;> omega) _ | refine Below.alloc ?_ (by simp <;> omega) _ | refine Below.drew ?_ | refine below_drewN ?_ _)) (hb.mono (by simp)))
    have X1 := Lib.hid (Box5.below (Box5.new w 27 (.int .i64 n) (.int .i64 L) (.slice A n c) (.slice B (n * n) d) (.slice C (n * L) q)) hb)
    obtain ⟨x0, x1, x2, x3, x4⟩ := X1.out
    clear hb
    go_wp2_with fail
    refine (HCh.out _ (HA.out.below NB.out) (HB.out.below NB.out) (HC.out.below NB.out) (HD.out.below NB.out)).mono ?_
    rintro e w2 ⟨rfl, hb⟩
    have NB2 := Lib.hid (NB.out.trans (hb.mono NB.out.size))
    clear hb
    go_wp2_with fail
    refine bodyPost_ret (v := .tuple #[.float .f32 r, .bool true]) (by simp [results, Try.results39, go_sem]) rfl ⟨rfl, NB2.out⟩
end Go.Proofs.Ytikgnpajjbjkcaa
