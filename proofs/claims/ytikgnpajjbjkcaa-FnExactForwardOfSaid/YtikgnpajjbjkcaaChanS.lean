/- The chance of a word: the reference's. -/
import Derived.Test.YtikgnpajjbjkcaaFwdS2
set_option linter.unusedVariables false
namespace Go.Proofs.Ytikgnpajjbjkcaa
open Go.RowKit
/-- A valid model, and a word for its letters. -/
def showOk (s l : Int) (n m o : Nat) (f g h : Nat → Nat) (v : Nat → Int) (p : Nat) : Bool := validMod s l n m o f g h && wordB v p (l - 1)
def chanV (s l : Int) (n m o : Nat) (f g h : Nat → Nat) (v : Nat → Int) (p : Nat) : Nat := if showOk s l n m o f g h v p then chanF f g h s.toNat l.toNat v p else 0
theorem chan_add {f g h : Nat → Nat} {N L p : Nat} {v : Nat → Int} (hN : N ≤ 5) (hp : p ≤ 12) (hf : ∀ i, i < N → S 149 (f i)) (hg : ∀ i, i < N * N → S 149 (g i)) (hh : ∀ i, i < N * L → S 149 (h i)) (hw : ∀ k, k < p → (v k).toNat < L) :
    ∀ k, k < N → floatBits .add .f32 (sumF (fwdR f g h N L v p) k) (fwdR f g h N L v p k) = some (sumF (fwdR f g h N L v p) (k + 1)) := fun k hk =>
  sumF_ok (n := N) (E := 149 + 5 * p) (fun i hi => fwdR_S hN hp hf hg hh hw p (Nat.le_refl _) i hi) (by omega) hk
theorem chanF_S {f g h : Nat → Nat} {N L p : Nat} {v : Nat → Int} (hN : N ≤ 5) (hp : p ≤ 12) (hf : ∀ i, i < N → S 149 (f i)) (hg : ∀ i, i < N * N → S 149 (g i)) (hh : ∀ i, i < N * L → S 149 (h i)) (hw : ∀ k, k < p → (v k).toNat < L) :
    S (149 + 5 * p + N) (chanF f g h N L v p) := sumF_S (fun i hi => fwdR_S hN hp hf hg hh hw p (Nat.le_refl _) i hi) (by omega) N (Nat.le_refl _)
theorem chanV_nan (s l : Int) (n m o : Nat) (f g h : Nat → Nat) (v : Nat → Int) (p : Nat) : nanB .f32 (chanV s l n m o f g h v p) = false := by
  unfold chanV
  cases e : showOk s l n m o f g h v p
  · rw [if_neg (by decide)]; decide
  · rw [if_pos rfl]
    unfold showOk at e
    rw [Bool.and_eq_true] at e
    obtain ⟨N, L, rfl, rfl, _, _, _, _, _, _, _, hf, hg, hh⟩ := validMod_nat e.1
    obtain ⟨hp, hw⟩ := word_lt e.2
    exact S_nan (chanF_S (by omega) hp hf hg hh fun k hk => (hw k hk).2)

set_option maxHeartbeats 1000000 in
theorem l03Chance_any (P N L : Nat) (A B C D : Option Addr) (n c m d o q p e : Nat) (f g h : Nat → Nat) (v : Nat → Int) (w : World) (N1 : 1 ≤ N) (N2 : N ≤ 5) (L2 : L ≤ 4) (hp : p ≤ 12) (hv : ∀ k, k < p → 0 ≤ v k ∧ (v k).toNat < L)
    (hf : ∀ i, i < N → S 149 (f i)) (hg : ∀ i, i < N * N → S 149 (g i)) (hh : ∀ i, i < N * L → S 149 (h i))
    (hA : Cells w A N (fun i => .float .f32 (f i))) (hB : Cells w B (N * N) (fun i => .float .f32 (g i))) (hC : Cells w C (N * L) (fun i => .float .f32 (h i))) (hD : Cells w D p (fun i => .int .i64 (v i)))
    (b : Box5 w P (.int .i64 N) (.int .i64 L) (.slice A N c) (.slice B (N * N) d) (.slice C (N * L) q)) :
    Calls Try.prog 77 #[.pointer (some ⟨P, 0, none⟩), .slice D p e] w fun e w' => e = .returned (.float .f32 (chanF f g h N L v p)) ∧ Below w.heap.size w w' := by
  have HF := Lib.hid (l03Forward_any P N L A B C D n c m d o q p e f g h v w N1 N2 L2 hp hv hf hg hh hA hB hC hD b)
  have HS := Lib.hid (fun R rc W t => l03Sum_any R N rc (fwdR f g h N L v p) W (by omega) t (chan_add N2 hp hf hg hh fun k hk => (hv k hk).2))
  have HE := Lib.hid (show chanF f g h N L v p = sumF (fwdR f g h N L v p) N from rfl)
  clear hA hB hC hD b hf hg hh hv
  go_enter Try.func77, Try.ntmps77
  go_wp2_with fail
  refine HF.out.mono ?_
  rintro e w1 ⟨A2, d2, R, cp, rfl, h1, h2, hb⟩
  have NB := Lib.hid hb
  have HR := Lib.hid (h2 p (by omega))
  obtain ⟨x, rfl, hx⟩ := h1 p (by omega)
  have hx2 : w1.cell? (x.add p) = some (.slice (R p) N (cp p)) := hx
  have d1 : (p : Int) < (p : Int) + 1 := by omega
  clear hb h1 h2 hx
  go_wp2_with fail
  refine (HS.out _ _ _ HR.out).mono ?_
  rintro e w2 ⟨rfl, rfl⟩
  go_wp2_with fail
  go_ret
  exact ⟨by rw [HE.out]; rfl, NB.out⟩

set_option maxHeartbeats 1000000 in
theorem specChanceOf_any
  (s l : Int) (A B C : Option Addr) (n c m d o q : Nat) (f g h : Nat → Nat)
  (D : Option Addr) (p e : Nat) (v : Nat → Int) (w : World)
  (hn : n ≤ 1048576) (hm : m ≤ 1048576) (ho : o ≤ 1048576) (hc : n ≤ c ∧ c ≤ 1048576) (hd : m ≤ d ∧ d ≤ 1048576) (hq : o ≤ q ∧ q ≤ 1048576) (hA : Cells w A n (fun i => .float .f32 (f i))) (hB : Cells w B m (fun i => .float .f32 (g i))) (hC : Cells w C o (fun i => .float .f32 (h i)))
  (hp : p ≤ 1048576) (hD : Cells w D p (fun i => .int .i64 (v i)))
  : Calls Try.prog 38 #[.agg #[.int .i64 s, .int .i64 l, .slice A n c, .slice B m d, .slice C o q], .slice D p e] w fun e w' => e = .returned (.tuple #[.float .f32 (chanV s l n m o f g h v p), .bool (showOk s l n m o f g h v p)]) ∧ Below w.heap.size w w' := by
  have HWd := Lib.hid (fun P W k1 k2 k3 k4 b => l03Word_any P s l A B C n c m d o q f g h D p e v W hn hm ho hc hd hq k1 k2 k3 hp k4 b)
  have HA := Lib.hid hA
  have HB := Lib.hid hB
  have HC := Lib.hid hC
  have HD := Lib.hid hD
  have HV := Lib.hid (show showOk s l n m o f g h v p = false → chanV s l n m o f g h v p = 0 from fun k => by unfold chanV; rw [k]; rfl)
  have HV2 := Lib.hid (show showOk s l n m o f g h v p = true → chanV s l n m o f g h v p = chanF f g h s.toNat l.toNat v p from fun k => by unfold chanV; rw [k]; rfl)
  have HO := Lib.hid (show showOk s l n m o f g h v p = (validMod s l n m o f g h && wordB v p (l - 1)) from rfl)
  clear hA hB hC hD
  cases h1 : showOk s l n m o f g h v p
  · rw [HV.out h1]
    rw [← HO.out, h1] at HWd
    clear h1 HO HV HV2
    go_enter Try.func38, Try.ntmps38
    go_wp2_with fail
    refine (HWd.out w.heap.size _ (HA.out.below (by repeat (first | exact Below.refl _ _ | exact Hid.out (by assumption) | refine below_alloc ?_ _ | refine Below.setCell ?_ (by simp <;> omega) _ | refine Below.alloc ?_ (by simp <;> omega) _ | refine Below.drew ?_ | refine below_drewN ?_ _))) (HB.out.below (by repeat (first | exact Below.refl _ _ | exact Hid.out (by assumption) | refine below_alloc ?_ _ | refine Below.setCell ?_ (by simp <;> omega) _ | refine Below.alloc ?_ (by simp <;> omega) _ | refine Below.drew ?_ | refine below_drewN ?_ _))) (HC.out.below (by repeat (first | exact Below.refl _ _ | exact Hid.out (by assumption) | refine below_alloc ?_ _ | refine Below.setCell ?_ (by simp <;> omega) _ | refine Below.alloc ?_ (by simp <;> omega) _ | refine Below.drew ?_ | refine below_drewN ?_ _))) (HD.out.below (by repeat (first | exact Below.refl _ _ | exact Hid.out (by assumption) | refine below_alloc ?_ _ | refine Below.setCell ?_ (by simp <;> omega) _ | refine Below.alloc ?_ (by simp <;> omega) _ | refine Below.drew ?_ | refine below_drewN ?_ _))) (Box5.new w _ _ _ _ _ _)).mono ?_
    rintro e w' ⟨rfl, rfl⟩
    go_wp2_with fail
    refine bodyPost_ret (v := .tuple #[.float .f32 0, .bool false]) (by simp [results, Try.results38, go_sem]) rfl ⟨rfl, (by repeat (first | exact Below.refl _ _ | exact Hid.out (by assumption) | refine below_alloc ?_ _ | refine Below.setCell ?_ (by simp <;> omega) _ | refine Below.alloc ?_ (by simp <;> omega) _ | refine Below.drew ?_ | refine below_drewN ?_ _))⟩
  · rw [HV2.out h1]
    have h1' := h1
    rw [HO.out, Bool.and_eq_true] at h1'
    obtain ⟨N, L, rfl, rfl, N1, N2, L1, L2, rfl, rfl, rfl, hf, hg, hh⟩ := validMod_nat h1'.1
    obtain ⟨hp2, hw⟩ := word_lt h1'.2
    rw [← HO.out, h1] at HWd
    have HCh := Lib.hid (fun P W k1 k2 k3 k4 b => l03Chance_any P n L A B C D n c (n * n) d (n * L) q p e f g h v W N1 N2 L2 hp2 hw hf hg hh k1 k2 k3 k4 b)
    rw [show ((n : Int)).toNat = n from rfl, show ((L : Int)).toNat = L from rfl]
    generalize chanF f g h n L v p = r at *
    clear h1 h1' HO HV HV2 hf hg hh hw
    go_enter Try.func38, Try.ntmps38
    go_wp2_with fail
    refine (HWd.out w.heap.size _ (HA.out.below (by repeat (first | exact Below.refl _ _ | exact Hid.out (by assumption) | refine below_alloc ?_ _ | refine Below.setCell ?_ (by simp <;> omega) _ | refine Below.alloc ?_ (by simp <;> omega) _ | refine Below.drew ?_ | refine below_drewN ?_ _))) (HB.out.below (by repeat (first | exact Below.refl _ _ | exact Hid.out (by assumption) | refine below_alloc ?_ _ | refine Below.setCell ?_ (by simp <;> omega) _ | refine Below.alloc ?_ (by simp <;> omega) _ | refine Below.drew ?_ | refine below_drewN ?_ _))) (HC.out.below (by repeat (first | exact Below.refl _ _ | exact Hid.out (by assumption) | refine below_alloc ?_ _ | refine Below.setCell ?_ (by simp <;> omega) _ | refine Below.alloc ?_ (by simp <;> omega) _ | refine Below.drew ?_ | refine below_drewN ?_ _))) (HD.out.below (by repeat (first | exact Below.refl _ _ | exact Hid.out (by assumption) | refine below_alloc ?_ _ | refine Below.setCell ?_ (by simp <;> omega) _ | refine Below.alloc ?_ (by simp <;> omega) _ | refine Below.drew ?_ | refine below_drewN ?_ _))) (Box5.new w _ _ _ _ _ _)).mono ?_
    rintro e w' ⟨rfl, rfl⟩
    go_wp2_with fail
    refine (HCh.out w.heap.size _ (HA.out.below (by repeat (first | exact Below.refl _ _ | exact Hid.out (by assumption) | refine below_alloc ?_ _ | refine Below.setCell ?_ (by simp <;> omega) _ | refine Below.alloc ?_ (by simp <;> omega) _ | refine Below.drew ?_ | refine below_drewN ?_ _))) (HB.out.below (by repeat (first | exact Below.refl _ _ | exact Hid.out (by assumption) | refine below_alloc ?_ _ | refine Below.setCell ?_ (by simp <;> omega) _ | refine Below.alloc ?_ (by simp <;> omega) _ | refine Below.drew ?_ | refine below_drewN ?_ _))) (HC.out.below (by repeat (first | exact Below.refl _ _ | exact Hid.out (by assumption) | refine below_alloc ?_ _ | refine Below.setCell ?_ (by simp <;> omega) _ | refine Below.alloc ?_ (by simp <;> omega) _ | refine Below.drew ?_ | refine below_drewN ?_ _))) (HD.out.below (by repeat (first | exact Below.refl _ _ | exact Hid.out (by assumption) | refine below_alloc ?_ _ | refine Below.setCell ?_ (by simp <;> omega) _ | refine Below.alloc ?_ (by simp <;> omega) _ | refine Below.drew ?_ | refine below_drewN ?_ _))) (Box5.new w _ _ _ _ _ _)).mono ?_
    rintro e w2 ⟨rfl, hb⟩
    have NB := Lib.hid (Below.step (w := w) (by repeat (first | exact Below.refl _ _ | exact Hid.out (by assumption) | refine below_alloc ?_ _ | refine Below.setCell ?_ (by simp <;> omega) _ | refine Below.alloc ?_ (by simp <;> omega) _ | refine Below.drew ?_ | refine below_drewN ?_ _)) (Nat.le_refl _) hb)
    clear hb
    go_wp2_with fail
    refine bodyPost_ret (v := .tuple #[.float .f32 r, .bool true]) (by simp [results, Try.results38, go_sem]) rfl ⟨rfl, NB.out⟩
end Go.Proofs.Ytikgnpajjbjkcaa
