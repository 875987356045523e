/- The rows of a forward look as one list: both sides. -/
import Derived.Test.YtikgnpajjbjkcaaChanI2
set_option linter.unusedVariables false
namespace Go.Proofs.Ytikgnpajjbjkcaa
open Go.RowKit
/-- A list of floats of its own, and whether it is told. -/
def FRes (w w' : World) (e : Ending) (v : Bool) (n : Nat) (F : Nat → Nat) : Prop :=
  ∃ (A : Option Addr) (c g : Nat), e = .returned (.tuple #[.slice A n c, .bool v]) ∧ w.heap.size ≤ g ∧ True ∧ OwnC w' g A n (fun i => .float .f32 (F i)) ∧ Below w.heap.size w w'
def ifN (v : Bool) (x : Nat) : Nat := if v then x else 0
theorem FRes.none_ {w w' : World} {e : Ending} {n : Nat} {F : Nat → Nat} (he : e = .returned (.tuple #[.slice none 0 0, .bool false])) (hb : Below w.heap.size w w') : FRes w w' e false (ifN false n) F :=
  ⟨none, 0, w.heap.size, he, Nat.le_refl _, trivial, by unfold ifN; simp only [Bool.false_eq_true, if_false]; exact OwnC.zero, hb⟩
theorem FRes.some_ {w w1 w2 : World} {e : Ending} {n c g : Nat} {A : Option Addr} {F : Nat → Nat} (he : e = .returned (.tuple #[.slice A n c, .bool true])) (hg : w.heap.size ≤ g) (ho : OwnC w2 g A n (fun i => .float .f32 (F i))) (hb : Below w.heap.size w w2) : FRes w w2 e true (ifN true n) F :=
  ⟨A, c, g, he, hg, trivial, ho, hb⟩
def fwdN (s l : Int) (n m o : Nat) (f g h : Nat → Nat) (v : Nat → Int) (p : Nat) : Nat := ifN (showOk s l n m o f g h v p) ((p + 1) * s.toNat)
def fwdL (s l : Int) (f g h : Nat → Nat) (v : Nat → Int) : Nat → Nat := flatR (fwdR f g h s.toNat l.toNat v) s.toNat
theorem fwdN_le (s l : Int) (n m o : Nat) (f g h : Nat → Nat) (v : Nat → Int) (p : Nat) : fwdN s l n m o f g h v p ≤ 1048576 := by
  unfold fwdN ifN
  cases e : showOk s l n m o f g h v p
  · simp
  · unfold showOk at e
    rw [Bool.and_eq_true] at e
    obtain ⟨N, L, rfl, rfl, _, h2, _⟩ := validMod_nat e.1
    obtain ⟨hp, -⟩ := word_lt e.2
    have : (p + 1) * N ≤ 13 * 5 := Nat.mul_le_mul (by omega) h2
    simp
    omega

set_option maxRecDepth 20000 in
set_option maxHeartbeats 2000000 in
theorem l03Flat_any (A : Option Addr) (n d N : Nat) (R : Nat → Option Addr) (cp : Nat → Nat) (F : Nat → Nat → Nat) (w : World) (N1 : 1 ≤ N) (N2 : N ≤ 5) (hn : n ≤ 13) (hA : Cells w A n (fun i => .slice (R i) N (cp i))) (hR : ∀ i, i < n → Cells w (R i) N (fun j => .float .f32 (F i j))) :
    Calls Try.prog 71 #[.slice A n d] w fun e w' => FRow w w' e (n * N) (flatR F N) := by
  obtain ⟨fi, hfi, hfz, hfs, hfb⟩ := info_parts infoF1
  have HA := Lib.hid hA
  have HR := Lib.hid hR
  clear hA hR
  go_enter Try.func71, Try.ntmps71
  go_wp2_with fail
  go_loopw [3, 4, 8] (fun out _ kk wr => ∃ k : Nat, k ≤ n ∧ kk = .int .i64 k ∧ Hid (wr.ownsRow w.heap.size 36 1 out (k * N) (listV (k * N * 1) (fun t => .float .f32 (flatR F N t)))) ∧ Hid (Below w.heap.size w wr)) (fun _ _ kk _ => n - (intOf kk).toNat)
  case atStart => exact ⟨0, Nat.zero_le _, rfl, by rw [Nat.zero_mul]; exact World.ownsRow_lit w #[] 0 (Nat.le_refl _) (by unfold maxLen; omega) rfl, (by repeat (first | exact Below.refl _ _ | exact Hid.out (by assumption) | refine below_alloc ?_ _ | refine Below.setCell ?_ (by simp <;> omega) _ | refine Below.alloc ?_ (by simp <;> omega) _ | refine Below.drew ?_ | refine below_drewN ?_ _))⟩
  case round =>
    obtain ⟨k, hk, rfl, HO, HW⟩ := hrel
    have hsz := HW.out.size
    by_cases hlt : k < n
    · have d1 : (k : Int) < n := by omega
      obtain ⟨y, rfl, hy0⟩ := HA.out k hlt
      have hy : wr.cell? (y.add k) = some (.slice (R k) N (cp k)) := by rw [HW.out.cell (World.block_lt_of_cell? _ _ hy0)]; exact hy0
      have HRk := Lib.hid (show Cells wr (R k) (N * 1) (fun j => .float .f32 (F k j)) by rw [Nat.mul_one]; exact (HR.out k hlt).below HW.out)
      have hkb : (k + 1) * N ≤ 13 * 5 := Nat.mul_le_mul (by omega) N2
      have hkk : k * N + N = (k + 1) * N := (Nat.succ_mul k N).symm
      clear hy0
      go_wp2_with (first
        | (at_builtin
           refine wpList_append_cells _ rfl _ _ 22 rfl w.heap.size 36 fi (.float .f32 0) 1 4 Try.underlying22 hfi hfz hfs hfb rfl (by decide) _ (k * N) _ rfl HO.out
             (R k) N (cp k) (fun j => .float .f32 (F k j)) rfl HRk.out (fun _ _ => rfl) (by unfold maxLen; omega) (by omega) (by omega) ?_
           intro v1 w2 hown hgrow hwhere
           rw [list_app (U := fun t => .float .f32 (flatR F N t)) (fun _ _ => rfl) (fun j hj => by rw [flat_at hj])] at hown
           have HO2 := Lib.hid (show w2.ownsRow w.heap.size 36 1 v1 ((k + 1) * N) (listV ((k + 1) * N * 1) (fun t => .float .f32 (flatR F N t))) by rw [← hkk]; exact hown)
           have HW2 := Lib.hid (show Below w.heap.size w w2 from Below.grown HW.out hgrow (by omega) (fun j hj => (HO.out.lt j hj).1))
           clear hown hgrow hwhere)
        | go_in)
      exact ⟨⟨k + 1, by omega, by simp, HO2.out, HW2.out⟩, by simp [intOf]; omega⟩
    · have d1 : ¬ (k : Int) < n := by omega
      obtain rfl : n = k := by omega
      obtain ⟨A2, c2, g2, rfl, h1, h2, h3⟩ := own_cells HO.out
      have HF := Lib.hid (show FRow w wr (.returned (.slice A2 (n * N) c2)) (n * N) (flatR F N) from ⟨A2, c2, g2, rfl, h1, h2, h3, HW.out⟩)
      clear h1 h2 h3 HO
      go_wp2_with fail
      go_ret
      exact HF.out

set_option maxHeartbeats 1000000 in
theorem specForwardOf_any
  (s l : Int) (A B C : Option Addr) (n c m d o q : Nat) (f g h : Nat → Nat)
  (D : Option Addr) (p e : Nat) (v : Nat → Int) (w : World)
  (hn : n ≤ 1048576) (hm : m ≤ 1048576) (ho : o ≤ 1048576) (hc : n ≤ c ∧ c ≤ 1048576) (hd : m ≤ d ∧ d ≤ 1048576) (hq : o ≤ q ∧ q ≤ 1048576) (hA : Cells w A n (fun i => .float .f32 (f i))) (hB : Cells w B m (fun i => .float .f32 (g i))) (hC : Cells w C o (fun i => .float .f32 (h i)))
  (hp : p ≤ 1048576) (hD : Cells w D p (fun i => .int .i64 (v i)))
  : Calls Try.prog 28 #[.agg #[.int .i64 s, .int .i64 l, .slice A n c, .slice B m d, .slice C o q], .slice D p e] w fun e w' => FRes w w' e (showOk s l n m o f g h v p) (fwdN s l n m o f g h v p) (fwdL s l f g h v) := by
  have HWd := Lib.hid (fun P W k1 k2 k3 k4 b => l03Word_any P s l A B C n c m d o q f g h D p e v W hn hm ho hc hd hq k1 k2 k3 hp k4 b)
  have HA := Lib.hid hA
  have HB := Lib.hid hB
  have HC := Lib.hid hC
  have HD := Lib.hid hD
  have HO := Lib.hid (show showOk s l n m o f g h v p = (validMod s l n m o f g h && wordB v p (l - 1)) from rfl)
  clear hA hB hC hD
  unfold fwdN
  cases h1 : showOk s l n m o f g h v p
  · rw [← HO.out, h1] at HWd
    clear h1 HO
    generalize fwdL s l f g h v = F at *
    go_enter Try.func28, Try.ntmps28
    go_wp2_with fail
    refine (HWd.out w.heap.size _ (HA.out.below (by repeat (first | exact Below.refl _ _ | exact Hid.out (by assumption) | refine below_alloc ?_ _ | refine Below.setCell ?_ (by simp <;> omega) _ | refine Below.alloc ?_ (by simp <;> omega) _ | refine Below.drew ?_ | refine below_drewN ?_ _))) (HB.out.below (by repeat (first | exact Below.refl _ _ | exact Hid.out (by assumption) | refine below_alloc ?_ _ | refine Below.setCell ?_ (by simp <;> omega) _ | refine Below.alloc ?_ (by simp <;> omega) _ | refine Below.drew ?_ | refine below_drewN ?_ _))) (HC.out.below (by repeat (first | exact Below.refl _ _ | exact Hid.out (by assumption) | refine below_alloc ?_ _ | refine Below.setCell ?_ (by simp <;> omega) _ | refine Below.alloc ?_ (by simp <;> omega) _ | refine Below.drew ?_ | refine below_drewN ?_ _))) (HD.out.below (by repeat (first | exact Below.refl _ _ | exact Hid.out (by assumption) | refine below_alloc ?_ _ | refine Below.setCell ?_ (by simp <;> omega) _ | refine Below.alloc ?_ (by simp <;> omega) _ | refine Below.drew ?_ | refine below_drewN ?_ _))) (Box5.new w _ _ _ _ _ _)).mono ?_
    rintro e w' ⟨rfl, rfl⟩
    go_wp2_with fail
    refine bodyPost_ret (v := .tuple #[.slice none 0 0, .bool false]) (by simp [results, Try.results28, go_sem]) rfl (FRes.none_ rfl (by repeat (first | exact Below.refl _ _ | exact Hid.out (by assumption) | refine below_alloc ?_ _ | refine Below.setCell ?_ (by simp <;> omega) _ | refine Below.alloc ?_ (by simp <;> omega) _ | refine Below.drew ?_ | refine below_drewN ?_ _)))
  · have h1' := h1
    rw [HO.out, Bool.and_eq_true] at h1'
    obtain ⟨N, L, rfl, rfl, N1, N2, L1, L2, rfl, rfl, rfl, hf, hg, hh⟩ := validMod_nat h1'.1
    obtain ⟨hp2, hw⟩ := word_lt h1'.2
    rw [← HO.out, h1] at HWd
    have HFo := Lib.hid (fun P W k1 k2 k3 k4 b => l03Forward_any P n L A B C D n c (n * n) d (n * L) q p e f g h v W N1 N2 L2 hp2 hw hf hg hh k1 k2 k3 k4 b)
    have HFl := Lib.hid (fun A2 d2 R cp W t1 t2 => l03Flat_any A2 (p + 1) d2 n R cp (fwdR f g h n L v) W N1 N2 (by omega) t1 t2)
    have HE := Lib.hid (show fwdL n L f g h v = flatR (fwdR f g h n L v) n from rfl)
    rw [HE.out, show ((n : Int)).toNat = n from rfl]
    clear h1 h1' HO hf hg hh hw HE
    go_enter Try.func28, Try.ntmps28
    go_wp2_with fail
    refine (HWd.out w.heap.size _ (HA.out.below (by repeat (first | exact Below.refl _ _ | exact Hid.out (by assumption) | refine below_alloc ?_ _ | refine Below.setCell ?_ (by simp <;> omega) _ | refine Below.alloc ?_ (by simp <;> omega) _ | refine Below.drew ?_ | refine below_drewN ?_ _))) (HB.out.below (by repeat (first | exact Below.refl _ _ | exact Hid.out (by assumption) | refine below_alloc ?_ _ | refine Below.setCell ?_ (by simp <;> omega) _ | refine Below.alloc ?_ (by simp <;> omega) _ | refine Below.drew ?_ | refine below_drewN ?_ _))) (HC.out.below (by repeat (first | exact Below.refl _ _ | exact Hid.out (by assumption) | refine below_alloc ?_ _ | refine Below.setCell ?_ (by simp <;> omega) _ | refine Below.alloc ?_ (by simp <;> omega) _ | refine Below.drew ?_ | refine below_drewN ?_ _))) (HD.out.below (by repeat (first | exact Below.refl _ _ | exact Hid.out (by assumption) | refine below_alloc ?_ _ | refine Below.setCell ?_ (by simp <;> omega) _ | refine Below.alloc ?_ (by simp <;> omega) _ | refine Below.drew ?_ | refine below_drewN ?_ _))) (Box5.new w _ _ _ _ _ _)).mono ?_
    rintro e w' ⟨rfl, rfl⟩
    go_wp2_with fail
    refine (HFo.out w.heap.size _ (HA.out.below (by repeat (first | exact Below.refl _ _ | exact Hid.out (by assumption) | refine below_alloc ?_ _ | refine Below.setCell ?_ (by simp <;> omega) _ | refine Below.alloc ?_ (by simp <;> omega) _ | refine Below.drew ?_ | refine below_drewN ?_ _))) (HB.out.below (by repeat (first | exact Below.refl _ _ | exact Hid.out (by assumption) | refine below_alloc ?_ _ | refine Below.setCell ?_ (by simp <;> omega) _ | refine Below.alloc ?_ (by simp <;> omega) _ | refine Below.drew ?_ | refine below_drewN ?_ _))) (HC.out.below (by repeat (first | exact Below.refl _ _ | exact Hid.out (by assumption) | refine below_alloc ?_ _ | refine Below.setCell ?_ (by simp <;> omega) _ | refine Below.alloc ?_ (by simp <;> omega) _ | refine Below.drew ?_ | refine below_drewN ?_ _))) (HD.out.below (by repeat (first | exact Below.refl _ _ | exact Hid.out (by assumption) | refine below_alloc ?_ _ | refine Below.setCell ?_ (by simp <;> omega) _ | refine Below.alloc ?_ (by simp <;> omega) _ | refine Below.drew ?_ | refine below_drewN ?_ _))) (Box5.new w _ _ _ _ _ _)).mono ?_
    rintro e w2 ⟨A2, d2, R, cp, rfl, h1, h2, hb⟩
    have H1 := Lib.hid h1
    have H2 := Lib.hid h2
    have NB := Lib.hid (Below.step (w := w) (by repeat (first | exact Below.refl _ _ | exact Hid.out (by assumption) | refine below_alloc ?_ _ | refine Below.setCell ?_ (by simp <;> omega) _ | refine Below.alloc ?_ (by simp <;> omega) _ | refine Below.drew ?_ | refine below_drewN ?_ _)) (Nat.le_refl _) hb)
    clear hb h1 h2
    go_wp2_with fail
    refine (HFl.out _ _ _ _ _ H1.out H2.out).mono ?_
    rintro e w3 ⟨A3, d3, g3, rfl, h0, h1, h3, hb⟩
    have O3 := Lib.hid h3
    have L3 := Lib.hid (Nat.le_trans NB.out.size h1)
    have NB3 := Lib.hid (NB.out.trans (hb.mono NB.out.size))
    clear hb h0 h1 h3
    go_wp2_with fail
    refine bodyPost_ret (v := .tuple #[.slice A3 ((p + 1) * n) d3, .bool true]) (by simp [results, Try.results28, go_sem]) rfl (FRes.some_ (w1 := w) rfl L3.out O3.out NB3.out)

set_option maxHeartbeats 1000000 in
theorem implForwardOf_any
  (s l : Int) (A B C : Option Addr) (n c m d o q : Nat) (f g h : Nat → Nat)
  (D : Option Addr) (p e : Nat) (v : Nat → Int) (w : World)
  (hn : n ≤ 1048576) (hm : m ≤ 1048576) (ho : o ≤ 1048576) (hc : n ≤ c ∧ c ≤ 1048576) (hd : m ≤ d ∧ d ≤ 1048576) (hq : o ≤ q ∧ q ≤ 1048576) (hA : Cells w A n (fun i => .float .f32 (f i))) (hB : Cells w B m (fun i => .float .f32 (g i))) (hC : Cells w C o (fun i => .float .f32 (h i)))
  (hp : p ≤ 1048576) (hD : Cells w D p (fun i => .int .i64 (v i)))
  : Calls Try.prog 30 #[.agg #[.int .i64 s, .int .i64 l, .slice A n c, .slice B m d, .slice C o q], .slice D p e] w fun e w' => FRes w w' e (showOk s l n m o f g h v p) (fwdN s l n m o f g h v p) (fwdL s l f g h v) := by
  have HWd := Lib.hid (fun W k1 k2 k3 k4 => canShow_any s l A B C n c m d o q f g h D p e v W hn hm ho hc hd hq k1 k2 k3 hp k4)
  have HA := Lib.hid hA
  have HB := Lib.hid hB
  have HC := Lib.hid hC
  have HD := Lib.hid hD
  have HO := Lib.hid (show showOk s l n m o f g h v p = (validMod s l n m o f g h && wordB v p (l - 1)) from rfl)
  clear hA hB hC hD
  unfold fwdN
  cases h1 : showOk s l n m o f g h v p
  · rw [← HO.out, h1] at HWd
    clear h1 HO
    generalize fwdL s l f g h v = F at *
    go_enter Try.func30, Try.ntmps30
    go_wp2_with fail
    refine (HWd.out _ (HA.out.below (by repeat (first | exact Below.refl _ _ | exact Hid.out (by assumption) | refine below_alloc ?_ _ | refine Below.setCell ?_ (by simp <;> omega) _ | refine Below.alloc ?_ (by simp <;> omega) _ | refine Below.drew ?_ | refine below_drewN ?_ _))) (HB.out.below (by repeat (first | exact Below.refl _ _ | exact Hid.out (by assumption) | refine below_alloc ?_ _ | refine Below.setCell ?_ (by simp <;> omega) _ | refine Below.alloc ?_ (by simp <;> omega) _ | refine Below.drew ?_ | refine below_drewN ?_ _))) (HC.out.below (by repeat (first | exact Below.refl _ _ | exact Hid.out (by assumption) | refine below_alloc ?_ _ | refine Below.setCell ?_ (by simp <;> omega) _ | refine Below.alloc ?_ (by simp <;> omega) _ | refine Below.drew ?_ | refine below_drewN ?_ _))) (HD.out.below (by repeat (first | exact Below.refl _ _ | exact Hid.out (by assumption) | refine below_alloc ?_ _ | refine Below.setCell ?_ (by simp <;> omega) _ | refine Below.alloc ?_ (by simp <;> omega) _ | refine Below.drew ?_ | refine below_drewN ?_ _)))).mono ?_
    rintro e w1 ⟨rfl, hb⟩
    have NB := Lib.hid (Below.step (w := w) (by repeat (first | exact Below.refl _ _ | exact Hid.out (by assumption) | refine below_alloc ?_ _ | refine Below.setCell ?_ (by simp <;> omega) _ | refine Below.alloc ?_ (by simp <;> omega) _ | refine Below.drew ?_ | refine below_drewN ?_ _)) (Nat.le_refl _) hb)
    clear hb
    go_wp2_with fail
    refine bodyPost_ret (v := .tuple #[.slice none 0 0, .bool false]) (by simp [results, Try.results30, go_sem]) rfl (FRes.none_ rfl NB.out)
  · have h1' := h1
    rw [HO.out, Bool.and_eq_true] at h1'
    obtain ⟨N, L, rfl, rfl, N1, N2, L1, L2, rfl, rfl, rfl, hf, hg, hh⟩ := validMod_nat h1'.1
    obtain ⟨hp2, hw⟩ := word_lt h1'.2
    rw [← HO.out, h1] at HWd
    have HFo := Lib.hid (fun W k1 k2 k3 k4 => forwardRows_any n L A B C D c d q p e f g h v W N1 N2 L2 hp2 hw hf hg hh k1 k2 k3 k4)
    have HE := Lib.hid (show fwdL n L f g h v = flatR (fwdR f g h n L v) n from rfl)
    rw [HE.out, show ((n : Int)).toNat = n from rfl]
    clear h1 h1' HO hf hg hh hw HE
    go_enter Try.func30, Try.ntmps30
    go_wp2_with fail
    refine (HWd.out _ (HA.out.below (by repeat (first | exact Below.refl _ _ | exact Hid.out (by assumption) | refine below_alloc ?_ _ | refine Below.setCell ?_ (by simp <;> omega) _ | refine Below.alloc ?_ (by simp <;> omega) _ | refine Below.drew ?_ | refine below_drewN ?_ _))) (HB.out.below (by repeat (first | exact Below.refl _ _ | exact Hid.out (by assumption) | refine below_alloc ?_ _ | refine Below.setCell ?_ (by simp <;> omega) _ | refine Below.alloc ?_ (by simp <;> omega) _ | refine Below.drew ?_ | refine below_drewN ?_ _))) (HC.out.below (by repeat (first | exact Below.refl _ _ | exact Hid.out (by assumption) | refine below_alloc ?_ _ | refine Below.setCell ?_ (by simp <;> omega) _ | refine Below.alloc ?_ (by simp <;> omega) _ | refine Below.drew ?_ | refine below_drewN ?_ _))) (HD.out.below (by repeat (first | exact Below.refl _ _ | exact Hid.out (by assumption) | refine below_alloc ?_ _ | refine Below.setCell ?_ (by simp <;> omega) _ | refine Below.alloc ?_ (by simp <;> omega) _ | refine Below.drew ?_ | refine below_drewN ?_ _)))).mono ?_
    rintro e w1 ⟨rfl, hb⟩
    have NB := Lib.hid (show Below w.heap.size w w1 from Below.trans (by repeat (first | exact Below.refl _ _ | exact Hid.out (by assumption) | refine below_alloc ?_ _ | refine Below.setCell ?_ (by simp <;> omega) _ | refine Below.alloc ?_ (by simp <;> omega) _ | refine Below.drew ?_ | refine below_drewN ?_ _)) (hb.mono (by simp)))
    have X1 := Lib.hid (Box5.below (Box5.new w 27 (.int .i64 n) (.int .i64 L) (.slice A n c) (.slice B (n * n) d) (.slice C (n * L) q)) hb)
    obtain ⟨x0, x1, x2, x3, x4⟩ := X1.out
    clear hb
    go_wp2_with fail
    refine (HFo.out _ (HA.out.below NB.out) (HB.out.below NB.out) (HC.out.below NB.out) (HD.out.below NB.out)).mono ?_
    rintro e w3 ⟨A3, d3, g3, rfl, h0, h1, h3, hb⟩
    have O3 := Lib.hid h3
    have L3 := Lib.hid (Nat.le_trans NB.out.size h1)
    have NB3 := Lib.hid (NB.out.trans (hb.mono NB.out.size))
    clear hb h0 h1 h3 x0 x1 x2 x3 x4
    go_wp2_with fail
    refine bodyPost_ret (v := .tuple #[.slice A3 ((p + 1) * n) d3, .bool true]) (by simp [results, Try.results30, go_sem]) rfl (FRes.some_ (w1 := w) rfl L3.out O3.out NB3.out)
end Go.Proofs.Ytikgnpajjbjkcaa
