/- Changes: whether they are valid, on both sides. -/
import Derived.Test.YtehemjcpdblonaaLongW
import Derived.Test.YtehemjcpdblonaaChangeM
import Derived.Deep.CutRange
set_option linter.unusedVariables false
namespace Go.Proofs.Ytehemjcpdblonaa
open Go.RowKit

/-- A valid change. -/
def validC (l : Int) (n m o p : Nat) (f g h u : Nat → Int) : Bool := lettersB f n l 4 && (lettersB g m l 4 && (lettersB h o l 4 && (lettersB u p l 4 && decide (0 < m))))
theorem validC_spec (l : Int) (n m o p : Nat) (f g h u : Nat → Int) :
    validC l n m o p f g h u = (decide (n ≤ 4) && (decide (1 ≤ m) && (decide (m ≤ 4) && (decide (o ≤ 4) && (decide (p ≤ 4) && (lettersB f n l 24 && (lettersB g m l 24 && (lettersB h o l 24 && lettersB u p l 24)))))))) := by
  unfold validC lettersB
  rw [Bool.eq_iff_iff]
  simp only [Bool.and_eq_true, decide_eq_true_eq]
  constructor
  · rintro ⟨⟨a, b, c⟩, ⟨_, d, e⟩, ⟨_, i, j⟩, ⟨_, k, q⟩, r⟩
    exact ⟨b, by omega, d, i, k, ⟨a, by omega, c⟩, ⟨a, by omega, e⟩, ⟨a, by omega, j⟩, ⟨a, by omega, q⟩⟩
  · rintro ⟨b, r, d, i, k, ⟨a, _, c⟩, ⟨_, _, e⟩, ⟨_, _, j⟩, ⟨_, _, q⟩⟩
    exact ⟨⟨a, b, c⟩, ⟨a, d, e⟩, ⟨a, i, j⟩, ⟨a, k, q⟩, by omega⟩

set_option maxHeartbeats 1000000 in
theorem implValidChange_any
  (A B C D : Option Addr) (n c m d o q p t : Nat) (f g h u : Nat → Int) (l : Int) (w : World) (hn : n ≤ 1048576) (hm : m ≤ 1048576) (ho : o ≤ 1048576) (hp : p ≤ 1048576)
  (hA : Cells w A n (fun i => .int .i64 (f i))) (hB : Cells w B m (fun i => .int .i64 (g i))) (hC : Cells w C o (fun i => .int .i64 (h i))) (hD : Cells w D p (fun i => .int .i64 (u i)))
  : Calls Try.prog 22 #[.agg #[.slice A n c, .slice B m d, .slice C o q, .slice D p t], .int .i64 l] w fun e w' => e = .returned (.bool (validC l n m o p f g h u)) ∧ Below w.heap.size w w' := by
  have HU := Lib.hid (show validC l n m o p f g h u = (lettersB f n l 4 && (lettersB g m l 4 && (lettersB h o l 4 && (lettersB u p l 4 && decide (0 < m))))) from rfl)
  have HF := Lib.hid (fun W k => areLetters_any A n c f l 4 W hn k)
  have HG := Lib.hid (fun W k => areLetters_any B m d g l 4 W hm k)
  have HH := Lib.hid (fun W k => areLetters_any C o q h l 4 W ho k)
  have HV := Lib.hid (fun W k => areLetters_any D p t u l 4 W hp k)
  have HA := Lib.hid hA
  have HB := Lib.hid hB
  have HC := Lib.hid hC
  have HD := Lib.hid hD
  clear hA hB hC hD
  generalize validC l n m o p f g h u = r at *
  generalize lettersB f n l 4 = r1 at *
  generalize lettersB g m l 4 = r2 at *
  generalize lettersB h o l 4 = r3 at *
  generalize lettersB u p l 4 = r4 at *
  have X0 := Lib.hid (Box4.alloc (Box4.new w 30 (.slice A n c) (.slice B m d) (.slice C o q) (.slice D p t)) (.cells #[.slice A n c, .slice B m d, .slice C o q, .slice D p t] 22))
  have X1 := Lib.hid (show Box4 ((w.alloc (.cells #[.slice A n c, .slice B m d, .slice C o q, .slice D p t] 30)).alloc (.cells #[.slice A n c, .slice B m d, .slice C o q, .slice D p t] 22)) (w.heap.size + 1) (.slice A n c) (.slice B m d) (.slice C o q) (.slice D p t) from by simpa using Box4.new (w.alloc (.cells #[.slice A n c, .slice B m d, .slice C o q, .slice D p t] 30)) 22 (.slice A n c) (.slice B m d) (.slice C o q) (.slice D p t))
  go_enter Try.func22, Try.ntmps22
  go_wp2_with fail
  go_loopw [6, 17] (fun _ i wr => ∃ k : Nat, k ≤ 4 ∧ i = .int .i64 k ∧ Hid (Below w.heap.size w wr) ∧ Hid (Box4 wr w.heap.size (.slice A n c) (.slice B m d) (.slice C o q) (.slice D p t)) ∧ Hid (Box4 wr (w.heap.size + 1) (.slice A n c) (.slice B m d) (.slice C o q) (.slice D p t)) ∧ ((1 ≤ k → r1 = true) ∧ (2 ≤ k → r2 = true) ∧ (3 ≤ k → r3 = true) ∧ (4 ≤ k → r4 = true))) (fun _ i _ => 4 - (intOf i).toNat)
  case atStart => exact ⟨0, by omega, rfl, (by repeat (first | exact Below.refl _ _ | exact Hid.out (by assumption) | refine below_alloc ?_ _ | refine Below.setCell ?_ (by simp <;> omega) _ | refine Below.alloc ?_ (by simp <;> omega) _ | refine Below.drew ?_ | refine below_drewN ?_ _)), X0.out, X1.out, by omega, by omega, by omega, by omega⟩
  case round =>
    obtain ⟨k, hk, rfl, HB0, Y, Z, k1, k2, k3, k4⟩ := hrel
    obtain ⟨y0, y1, y2, y3⟩ := Y.out
    obtain ⟨z0, z1, z2, z3⟩ := Z.out
    rcases (show k = 0 ∨ k = 1 ∨ k = 2 ∨ k = 3 ∨ k = 4 by omega) with rfl | rfl | rfl | rfl | rfl
    · clear k1 k2 k3 k4
      go_wp2_with fail
      refine (HF.out _ (HA.out.below (by repeat (first | exact Below.refl _ _ | exact Hid.out (by assumption) | refine below_alloc ?_ _ | refine Below.setCell ?_ (by simp <;> omega) _ | refine Below.alloc ?_ (by simp <;> omega) _ | refine Below.drew ?_ | refine below_drewN ?_ _)))).mono ?_
      rintro e w1 ⟨rfl, hb⟩
      have N1 := Lib.hid (show Below w.heap.size w w1 from Below.trans (by repeat (first | exact Below.refl _ _ | exact Hid.out (by assumption) | refine below_alloc ?_ _ | refine Below.setCell ?_ (by simp <;> omega) _ | refine Below.alloc ?_ (by simp <;> omega) _ | refine Below.drew ?_ | refine below_drewN ?_ _)) (hb.mono (by have := HB0.out.size; first | exact this | (simp; omega))))
      have Y1 := Lib.hid (Box4.below (Y.out) (hb.mono (by first | exact Nat.le_refl _ | simp)))
      have Z1 := Lib.hid (Box4.below (Z.out) (hb.mono (by first | exact Nat.le_refl _ | simp)))
      clear hb
      cases r1
      · go_wp2_with fail
        go_ret
        exact ⟨ret_bool (by rw [HU.out]; simp), N1.out⟩
      · go_wp2_with fail
        exact ⟨⟨1, by omega, by simp, N1.out, Y1.out, Z1.out, by simp⟩, by simp [intOf]⟩
    · obtain rfl := k1 (by omega)
      clear k1 k2 k3 k4
      go_wp2_with fail
      refine (HG.out _ (HB.out.below (by repeat (first | exact Below.refl _ _ | exact Hid.out (by assumption) | refine below_alloc ?_ _ | refine Below.setCell ?_ (by simp <;> omega) _ | refine Below.alloc ?_ (by simp <;> omega) _ | refine Below.drew ?_ | refine below_drewN ?_ _)))).mono ?_
      rintro e w1 ⟨rfl, hb⟩
      have N1 := Lib.hid (show Below w.heap.size w w1 from Below.trans (by repeat (first | exact Below.refl _ _ | exact Hid.out (by assumption) | refine below_alloc ?_ _ | refine Below.setCell ?_ (by simp <;> omega) _ | refine Below.alloc ?_ (by simp <;> omega) _ | refine Below.drew ?_ | refine below_drewN ?_ _)) (hb.mono (by have := HB0.out.size; first | exact this | (simp; omega))))
      have Y1 := Lib.hid (Box4.below (Y.out) (hb.mono (by first | exact Nat.le_refl _ | simp)))
      have Z1 := Lib.hid (Box4.below (Z.out) (hb.mono (by first | exact Nat.le_refl _ | simp)))
      clear hb
      cases r2
      · go_wp2_with fail
        go_ret
        exact ⟨ret_bool (by rw [HU.out]; simp), N1.out⟩
      · go_wp2_with fail
        exact ⟨⟨2, by omega, by simp, N1.out, Y1.out, Z1.out, by simp⟩, by simp [intOf]⟩
    · obtain rfl := k1 (by omega)
      obtain rfl := k2 (by omega)
      clear k1 k2 k3 k4
      go_wp2_with fail
      refine (HH.out _ (HC.out.below (by repeat (first | exact Below.refl _ _ | exact Hid.out (by assumption) | refine below_alloc ?_ _ | refine Below.setCell ?_ (by simp <;> omega) _ | refine Below.alloc ?_ (by simp <;> omega) _ | refine Below.drew ?_ | refine below_drewN ?_ _)))).mono ?_
      rintro e w1 ⟨rfl, hb⟩
      have N1 := Lib.hid (show Below w.heap.size w w1 from Below.trans (by repeat (first | exact Below.refl _ _ | exact Hid.out (by assumption) | refine below_alloc ?_ _ | refine Below.setCell ?_ (by simp <;> omega) _ | refine Below.alloc ?_ (by simp <;> omega) _ | refine Below.drew ?_ | refine below_drewN ?_ _)) (hb.mono (by have := HB0.out.size; first | exact this | (simp; omega))))
      have Y1 := Lib.hid (Box4.below (Y.out) (hb.mono (by first | exact Nat.le_refl _ | simp)))
      have Z1 := Lib.hid (Box4.below (Z.out) (hb.mono (by first | exact Nat.le_refl _ | simp)))
      clear hb
      cases r3
      · go_wp2_with fail
        go_ret
        exact ⟨ret_bool (by rw [HU.out]; simp), N1.out⟩
      · go_wp2_with fail
        exact ⟨⟨3, by omega, by simp, N1.out, Y1.out, Z1.out, by simp⟩, by simp [intOf]⟩
    · obtain rfl := k1 (by omega)
      obtain rfl := k2 (by omega)
      obtain rfl := k3 (by omega)
      clear k1 k2 k3 k4
      go_wp2_with fail
      refine (HV.out _ (HD.out.below (by repeat (first | exact Below.refl _ _ | exact Hid.out (by assumption) | refine below_alloc ?_ _ | refine Below.setCell ?_ (by simp <;> omega) _ | refine Below.alloc ?_ (by simp <;> omega) _ | refine Below.drew ?_ | refine below_drewN ?_ _)))).mono ?_
      rintro e w1 ⟨rfl, hb⟩
      have N1 := Lib.hid (show Below w.heap.size w w1 from Below.trans (by repeat (first | exact Below.refl _ _ | exact Hid.out (by assumption) | refine below_alloc ?_ _ | refine Below.setCell ?_ (by simp <;> omega) _ | refine Below.alloc ?_ (by simp <;> omega) _ | refine Below.drew ?_ | refine below_drewN ?_ _)) (hb.mono (by have := HB0.out.size; first | exact this | (simp; omega))))
      have Y1 := Lib.hid (Box4.below (Y.out) (hb.mono (by first | exact Nat.le_refl _ | simp)))
      have Z1 := Lib.hid (Box4.below (Z.out) (hb.mono (by first | exact Nat.le_refl _ | simp)))
      clear hb
      cases r4
      · go_wp2_with fail
        go_ret
        exact ⟨ret_bool (by rw [HU.out]; simp), N1.out⟩
      · go_wp2_with fail
        exact ⟨⟨4, by omega, by simp, N1.out, Y1.out, Z1.out, by simp⟩, by simp [intOf]⟩
    · obtain rfl := k1 (by omega)
      obtain rfl := k2 (by omega)
      obtain rfl := k3 (by omega)
      obtain rfl := k4 (by omega)
      clear k1 k2 k3 k4
      go_wp2_with fail
      go_ret
      exact ⟨ret_bool (by rw [HU.out]; simp), HB0.out⟩
set_option maxHeartbeats 4000000 in
theorem l05Is_any (P : Nat)
  (A B C D : Option Addr) (n c m d o q p t : Nat) (f g h u : Nat → Int) (l : Int) (w : World) (hn : n ≤ 1048576) (hm : m ≤ 1048576) (ho : o ≤ 1048576) (hp : p ≤ 1048576)
  (hA : Cells w A n (fun i => .int .i64 (f i))) (hB : Cells w B m (fun i => .int .i64 (g i))) (hC : Cells w C o (fun i => .int .i64 (h i))) (hD : Cells w D p (fun i => .int .i64 (u i)))
  (b : Box4 w P (.slice A n c) (.slice B m d) (.slice C o q) (.slice D p t))
  : Calls Try.prog 57 #[.pointer (some ⟨P, 0, none⟩), .int .i64 l] w fun e w' => e = .returned (.bool (validC l n m o p f g h u)) ∧ w = w' := by
  have HU := Lib.hid (validC_spec l n m o p f g h u)
  have HF := Lib.hid (l05Long_any A n c f l w hn hA)
  have HG := Lib.hid (l05Long_any B m d g l w hm hB)
  have HH := Lib.hid (l05Long_any C o q h l w ho hC)
  have HV := Lib.hid (l05Long_any D p t u l w hp hD)
  obtain ⟨b0, b1, b2, b3⟩ := b
  clear hA hB hC hD
  generalize validC l n m o p f g h u = r at *
  generalize lettersB f n l 24 = r1 at *
  generalize lettersB g m l 24 = r2 at *
  generalize lettersB h o l 24 = r3 at *
  generalize lettersB u p l 24 = r4 at *
  by_cases a0 : n ≤ 4
  rotate_left
  · have d0 : ¬ (n : Int) ≤ 4 := by omega
    have HU := Lib.hid (show r = false by rw [HU.out]; simp [a0])
    clear a0
    go_enter Try.func57, Try.ntmps57
    go_wp2_with ((first | (go_at_call_of 54 (Value.slice A n c); refine HF.out.mono ?_) | (go_at_call_of 54 (Value.slice B m d); refine HG.out.mono ?_) | (go_at_call_of 54 (Value.slice C o q); refine HH.out.mono ?_) | (go_at_call_of 54 (Value.slice D p t); refine HV.out.mono ?_)); rintro e w' ⟨rfl, rfl⟩)
    go_ret
    exact ⟨ret_bool (by rw [HU.out] <;> simp), rfl⟩
  have d0 : (n : Int) ≤ 4 := by omega
  by_cases a1 : 1 ≤ m
  rotate_left
  · have d1 : ¬ (1 : Int) ≤ m := by omega
    have HU := Lib.hid (show r = false by rw [HU.out]; simp [a1])
    clear a1
    go_enter Try.func57, Try.ntmps57
    go_wp2_with ((first | (go_at_call_of 54 (Value.slice A n c); refine HF.out.mono ?_) | (go_at_call_of 54 (Value.slice B m d); refine HG.out.mono ?_) | (go_at_call_of 54 (Value.slice C o q); refine HH.out.mono ?_) | (go_at_call_of 54 (Value.slice D p t); refine HV.out.mono ?_)); rintro e w' ⟨rfl, rfl⟩)
    go_ret
    exact ⟨ret_bool (by rw [HU.out] <;> simp), rfl⟩
  have d1 : (1 : Int) ≤ m := by omega
  by_cases a2 : m ≤ 4
  rotate_left
  · have d2 : ¬ (m : Int) ≤ 4 := by omega
    have HU := Lib.hid (show r = false by rw [HU.out]; simp [a2])
    clear a2
    go_enter Try.func57, Try.ntmps57
    go_wp2_with ((first | (go_at_call_of 54 (Value.slice A n c); refine HF.out.mono ?_) | (go_at_call_of 54 (Value.slice B m d); refine HG.out.mono ?_) | (go_at_call_of 54 (Value.slice C o q); refine HH.out.mono ?_) | (go_at_call_of 54 (Value.slice D p t); refine HV.out.mono ?_)); rintro e w' ⟨rfl, rfl⟩)
    go_ret
    exact ⟨ret_bool (by rw [HU.out] <;> simp), rfl⟩
  have d2 : (m : Int) ≤ 4 := by omega
  by_cases a3 : o ≤ 4
  rotate_left
  · have d3 : ¬ (o : Int) ≤ 4 := by omega
    have HU := Lib.hid (show r = false by rw [HU.out]; simp [a3])
    clear a3
    go_enter Try.func57, Try.ntmps57
    go_wp2_with ((first | (go_at_call_of 54 (Value.slice A n c); refine HF.out.mono ?_) | (go_at_call_of 54 (Value.slice B m d); refine HG.out.mono ?_) | (go_at_call_of 54 (Value.slice C o q); refine HH.out.mono ?_) | (go_at_call_of 54 (Value.slice D p t); refine HV.out.mono ?_)); rintro e w' ⟨rfl, rfl⟩)
    go_ret
    exact ⟨ret_bool (by rw [HU.out] <;> simp), rfl⟩
  have d3 : (o : Int) ≤ 4 := by omega
  by_cases a4 : p ≤ 4
  rotate_left
  · have d4 : ¬ (p : Int) ≤ 4 := by omega
    have HU := Lib.hid (show r = false by rw [HU.out]; simp [a4])
    clear a4
    go_enter Try.func57, Try.ntmps57
    go_wp2_with ((first | (go_at_call_of 54 (Value.slice A n c); refine HF.out.mono ?_) | (go_at_call_of 54 (Value.slice B m d); refine HG.out.mono ?_) | (go_at_call_of 54 (Value.slice C o q); refine HH.out.mono ?_) | (go_at_call_of 54 (Value.slice D p t); refine HV.out.mono ?_)); rintro e w' ⟨rfl, rfl⟩)
    go_ret
    exact ⟨ret_bool (by rw [HU.out] <;> simp), rfl⟩
  have d4 : (p : Int) ≤ 4 := by omega
  have HU := Lib.hid (show r = (r1 && (r2 && (r3 && r4))) by rw [HU.out]; simp [a0, a1, a2, a3, a4])
  clear a0 a1 a2 a3 a4
  cases r1
  · skip
    go_enter Try.func57, Try.ntmps57
    go_wp2_with ((first | (go_at_call_of 54 (Value.slice A n c); refine HF.out.mono ?_) | (go_at_call_of 54 (Value.slice B m d); refine HG.out.mono ?_) | (go_at_call_of 54 (Value.slice C o q); refine HH.out.mono ?_) | (go_at_call_of 54 (Value.slice D p t); refine HV.out.mono ?_)); rintro e w' ⟨rfl, rfl⟩)
    go_ret
    exact ⟨ret_bool (by rw [HU.out] <;> simp), rfl⟩
  cases r2
  · skip
    go_enter Try.func57, Try.ntmps57
    go_wp2_with ((first | (go_at_call_of 54 (Value.slice A n c); refine HF.out.mono ?_) | (go_at_call_of 54 (Value.slice B m d); refine HG.out.mono ?_) | (go_at_call_of 54 (Value.slice C o q); refine HH.out.mono ?_) | (go_at_call_of 54 (Value.slice D p t); refine HV.out.mono ?_)); rintro e w' ⟨rfl, rfl⟩)
    go_ret
    exact ⟨ret_bool (by rw [HU.out] <;> simp), rfl⟩
  cases r3
  · skip
    go_enter Try.func57, Try.ntmps57
    go_wp2_with ((first | (go_at_call_of 54 (Value.slice A n c); refine HF.out.mono ?_) | (go_at_call_of 54 (Value.slice B m d); refine HG.out.mono ?_) | (go_at_call_of 54 (Value.slice C o q); refine HH.out.mono ?_) | (go_at_call_of 54 (Value.slice D p t); refine HV.out.mono ?_)); rintro e w' ⟨rfl, rfl⟩)
    go_ret
    exact ⟨ret_bool (by rw [HU.out] <;> simp), rfl⟩
  go_enter Try.func57, Try.ntmps57
  go_wp2_with ((first | (go_at_call_of 54 (Value.slice A n c); refine HF.out.mono ?_) | (go_at_call_of 54 (Value.slice B m d); refine HG.out.mono ?_) | (go_at_call_of 54 (Value.slice C o q); refine HH.out.mono ?_) | (go_at_call_of 54 (Value.slice D p t); refine HV.out.mono ?_)); rintro e w' ⟨rfl, rfl⟩)
  go_ret
  exact ⟨ret_bool (by rw [HU.out] <;> simp), rfl⟩
theorem specValidChange_any
  (A B C D : Option Addr) (n c m d o q p t : Nat) (f g h u : Nat → Int) (l : Int) (w : World) (hn : n ≤ 1048576) (hm : m ≤ 1048576) (ho : o ≤ 1048576) (hp : p ≤ 1048576)
  (hA : Cells w A n (fun i => .int .i64 (f i))) (hB : Cells w B m (fun i => .int .i64 (g i))) (hC : Cells w C o (fun i => .int .i64 (h i))) (hD : Cells w D p (fun i => .int .i64 (u i)))
  : Calls Try.prog 20 #[.agg #[.slice A n c, .slice B m d, .slice C o q, .slice D p t], .int .i64 l] w fun e w' => e = .returned (.bool (validC l n m o p f g h u)) ∧ Below w.heap.size w w' := by
  have HL := Lib.hid (fun P W h1 h2 h3 h4 b => l05Is_any P A B C D n c m d o q p t f g h u l W hn hm ho hp h1 h2 h3 h4 b)
  have HA := Lib.hid hA
  have HB := Lib.hid hB
  have HC := Lib.hid hC
  have HD := Lib.hid hD
  clear hA hB hC hD
  generalize validC l n m o p f g h u = r at *
  go_enter Try.func20, Try.ntmps20
  go_wp2_with fail
  refine (HL.out w.heap.size _ (HA.out.below (by repeat (first | exact Below.refl _ _ | exact Hid.out (by assumption) | refine below_alloc ?_ _ | refine Below.setCell ?_ (by simp <;> omega) _ | refine Below.alloc ?_ (by simp <;> omega) _ | refine Below.drew ?_ | refine below_drewN ?_ _))) (HB.out.below (by repeat (first | exact Below.refl _ _ | exact Hid.out (by assumption) | refine below_alloc ?_ _ | refine Below.setCell ?_ (by simp <;> omega) _ | refine Below.alloc ?_ (by simp <;> omega) _ | refine Below.drew ?_ | refine below_drewN ?_ _))) (HC.out.below (by repeat (first | exact Below.refl _ _ | exact Hid.out (by assumption) | refine below_alloc ?_ _ | refine Below.setCell ?_ (by simp <;> omega) _ | refine Below.alloc ?_ (by simp <;> omega) _ | refine Below.drew ?_ | refine below_drewN ?_ _))) (HD.out.below (by repeat (first | exact Below.refl _ _ | exact Hid.out (by assumption) | refine below_alloc ?_ _ | refine Below.setCell ?_ (by simp <;> omega) _ | refine Below.alloc ?_ (by simp <;> omega) _ | refine Below.drew ?_ | refine below_drewN ?_ _))) (Box4.new w _ _ _ _ _)).mono ?_
  rintro e w' ⟨rfl, rfl⟩
  go_wp2_with fail
  go_ret
  exact ⟨rfl, (by repeat (first | exact Below.refl _ _ | exact Hid.out (by assumption) | refine below_alloc ?_ _ | refine Below.setCell ?_ (by simp <;> omega) _ | refine Below.alloc ?_ (by simp <;> omega) _ | refine Below.drew ?_ | refine below_drewN ?_ _))⟩
theorem specValidChange_c
  (A B C D : Option Addr) (n c m d o q p t : Nat) (f g h u : Nat → Int) (l : Int) (w : World) (hn : n ≤ 1048576) (hm : m ≤ 1048576) (ho : o ≤ 1048576) (hp : p ≤ 1048576)
  (hA : Cells w A n (fun i => .int .i64 (f i))) (hB : Cells w B m (fun i => .int .i64 (g i))) (hC : Cells w C o (fun i => .int .i64 (h i))) (hD : Cells w D p (fun i => .int .i64 (u i)))
  : Calls Try.prog 20 #[.agg #[.slice A n c, .slice B m d, .slice C o q, .slice D p t], .int .i64 l] w fun e w' => e = .returned (.bool (validC l n m o p f g h u)) ∧ Below w.heap.size w w' :=
  specValidChange_any A B C D n c m d o q p t f g h u l w hn hm ho hp hA hB hC hD
theorem implValidChange_c
  (A B C D : Option Addr) (n c m d o q p t : Nat) (f g h u : Nat → Int) (l : Int) (w : World) (hn : n ≤ 1048576) (hm : m ≤ 1048576) (ho : o ≤ 1048576) (hp : p ≤ 1048576)
  (hA : Cells w A n (fun i => .int .i64 (f i))) (hB : Cells w B m (fun i => .int .i64 (g i))) (hC : Cells w C o (fun i => .int .i64 (h i))) (hD : Cells w D p (fun i => .int .i64 (u i)))
  : Calls Try.prog 22 #[.agg #[.slice A n c, .slice B m d, .slice C o q, .slice D p t], .int .i64 l] w fun e w' => e = .returned (.bool (validC l n m o p f g h u)) ∧ Below w.heap.size w w' :=
  implValidChange_any A B C D n c m d o q p t f g h u l w hn hm ho hp hA hB hC hD
end Go.Proofs.Ytehemjcpdblonaa
