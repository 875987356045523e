/- A word changed at all places: the reference's answer. -/
import Derived.Test.YtehemjcpdblonaaAllS
set_option linter.unusedVariables false
namespace Go.Proofs.Ytehemjcpdblonaa
open Go.RowKit
theorem letters_le (f : Nat → Int) (n : Nat) (l : Int) (t : Nat) (h : lettersB f n l t = true) : n ≤ t := by
  unfold lettersB at h
  simp only [Bool.and_eq_true, decide_eq_true_iff] at h
  exact h.2.1
theorem validC_le (l : Int) (n m o p : Nat) (f g h u : Nat → Int) (hv : validC l n m o p f g h u = true) : n ≤ 4 ∧ m ≤ 4 ∧ o ≤ 4 ∧ p ≤ 4 ∧ 0 < m := by
  unfold validC at hv
  simp only [Bool.and_eq_true, decide_eq_true_iff] at hv
  exact ⟨letters_le _ _ _ _ hv.1, letters_le _ _ _ _ hv.2.1, letters_le _ _ _ _ hv.2.2.1, letters_le _ _ _ _ hv.2.2.2.1, hv.2.2.2.2⟩
/-- What all places make, and whether it is told. -/
def allOk (l : Int) (n m o p : Nat) (f g h u : Nat → Int) (v : Nat → Int) (r : Nat) : Bool := validC l n m o p f g h u && (lettersB v r l 24 && decide ((allOf (fitsB n m p f g u v r) ((List.range o).map h) m v r 0).length ≤ 24))
def allN (l : Int) (n m o p : Nat) (f g h u : Nat → Int) (v : Nat → Int) (r : Nat) : Nat := ifN (allOk l n m o p f g h u v r) (allOf (fitsB n m p f g u v r) ((List.range o).map h) m v r 0).length
def allF (n m o p : Nat) (f g h u : Nat → Int) (v : Nat → Int) (r : Nat) (i : Nat) : Int := (allOf (fitsB n m p f g u v r) ((List.range o).map h) m v r 0).getD i 0
set_option maxHeartbeats 1000000 in
theorem specChangeAll_any
  (A B C D : Option Addr) (n c m d o q p t : Nat) (f g h u : Nat → Int) (E : Option Addr) (r i : Nat) (v : Nat → Int)
  (l : Int) (w : World)
  (hn : n ≤ 1048576) (hm : m ≤ 1048576) (ho : o ≤ 1048576) (hp : p ≤ 1048576) (hA : Cells w A n (fun i => .int .i64 (f i))) (hB : Cells w B m (fun i => .int .i64 (g i))) (hC : Cells w C o (fun i => .int .i64 (h i))) (hD : Cells w D p (fun i => .int .i64 (u i)))
  (hr : r ≤ 1048576) (hi : r ≤ i ∧ i ≤ 1048576) (hE : Cells w E r (fun i => .int .i64 (v i)))
  : Calls Try.prog 33 #[.agg #[.slice A n c, .slice B m d, .slice C o q, .slice D p t], .slice E r i, .int .i64 l] w fun e w' => IRes w w' e (allOk l n m o p f g h u v r) (allN l n m o p f g h u v r) (allF n m o p f g h u v r) := by
  have HL := Lib.hid (fun P W h1 h2 h3 h4 b => l05Is_any P A B C D n c m d o q p t f g h u l W hn hm ho hp h1 h2 h3 h4 b)
  have HW := Lib.hid (fun W k => l05Long_any E r i v l W hr k)
  have HP := Lib.hid (fun (q1 : n ≤ 4 ∧ m ≤ 4 ∧ o ≤ 4 ∧ p ≤ 4 ∧ 0 < m) (q2 : r ≤ 24) P W h1 h2 h3 h4 h5 b => l05All_any P A B C D n c m d o q p t f g h u E r i v W q1.1 q1.2.1 q1.2.2.1 q1.2.2.2.1 h1 h2 h3 h4 (by omega) hi h5 q1.2.2.2.2 b _ rfl)
  have HV := Lib.hid (validC_le l n m o p f g h u)
  have HRR := Lib.hid (letters_le v r l 24)
  have HA := Lib.hid hA
  have HB := Lib.hid hB
  have HC := Lib.hid hC
  have HD := Lib.hid hD
  have HE := Lib.hid hE
  clear hA hB hC hD hE
  have HU := Lib.hid (show allOk l n m o p f g h u v r = (validC l n m o p f g h u && (lettersB v r l 24 && decide ((allOf (fitsB n m p f g u v r) ((List.range o).map h) m v r 0).length ≤ 24))) from rfl)
  have HX := Lib.hid (show allF n m o p f g h u v r = fun i => (allOf (fitsB n m p f g u v r) ((List.range o).map h) m v r 0).getD i 0 from rfl)
  unfold allN
  generalize allOk l n m o p f g h u v r = ok at *
  generalize validC l n m o p f g h u = r1 at *
  generalize lettersB v r l 24 = r2 at *
  generalize allF n m o p f g h u v r = F at *
  generalize allOf (fitsB n m p f g u v r) ((List.range o).map h) m v r 0 = L at *
  cases r1
  · obtain rfl : ok = false := by rw [HU.out]; rfl
    go_enter Try.func33, Try.ntmps33
    go_wp2_with fail
    refine (HL.out w.heap.size _ (HA.out.below (by repeat (first | exact Below.refl _ _ | exact Hid.out (by assumption) | refine below_alloc ?_ _ | refine Below.setCell ?_ (by simp <;> omega) _ | refine Below.alloc ?_ (by simp <;> omega) _ | refine Below.drew ?_ | refine below_drewN ?_ _))) (HB.out.below (by repeat (first | exact Below.refl _ _ | exact Hid.out (by assumption) | refine below_alloc ?_ _ | refine Below.setCell ?_ (by simp <;> omega) _ | refine Below.alloc ?_ (by simp <;> omega) _ | refine Below.drew ?_ | refine below_drewN ?_ _))) (HC.out.below (by repeat (first | exact Below.refl _ _ | exact Hid.out (by assumption) | refine below_alloc ?_ _ | refine Below.setCell ?_ (by simp <;> omega) _ | refine Below.alloc ?_ (by simp <;> omega) _ | refine Below.drew ?_ | refine below_drewN ?_ _))) (HD.out.below (by repeat (first | exact Below.refl _ _ | exact Hid.out (by assumption) | refine below_alloc ?_ _ | refine Below.setCell ?_ (by simp <;> omega) _ | refine Below.alloc ?_ (by simp <;> omega) _ | refine Below.drew ?_ | refine below_drewN ?_ _))) (Box4.new w _ _ _ _ _)).mono ?_
    rintro e w' ⟨rfl, rfl⟩
    go_wp2_with fail
    refine bodyPost_ret (v := .tuple #[.slice none 0 0, .bool false]) ?r1 rfl ?r2
    case r1 => simp [results, Try.results33, go_sem]
    case r2 => exact IRes.none_ rfl (by repeat (first | exact Below.refl _ _ | exact Hid.out (by assumption) | refine below_alloc ?_ _ | refine Below.setCell ?_ (by simp <;> omega) _ | refine Below.alloc ?_ (by simp <;> omega) _ | refine Below.drew ?_ | refine below_drewN ?_ _))
  cases r2
  · obtain rfl : ok = false := by rw [HU.out]; rfl
    go_enter Try.func33, Try.ntmps33
    go_wp2_with fail
    refine (HL.out w.heap.size _ (HA.out.below (by repeat (first | exact Below.refl _ _ | exact Hid.out (by assumption) | refine below_alloc ?_ _ | refine Below.setCell ?_ (by simp <;> omega) _ | refine Below.alloc ?_ (by simp <;> omega) _ | refine Below.drew ?_ | refine below_drewN ?_ _))) (HB.out.below (by repeat (first | exact Below.refl _ _ | exact Hid.out (by assumption) | refine below_alloc ?_ _ | refine Below.setCell ?_ (by simp <;> omega) _ | refine Below.alloc ?_ (by simp <;> omega) _ | refine Below.drew ?_ | refine below_drewN ?_ _))) (HC.out.below (by repeat (first | exact Below.refl _ _ | exact Hid.out (by assumption) | refine below_alloc ?_ _ | refine Below.setCell ?_ (by simp <;> omega) _ | refine Below.alloc ?_ (by simp <;> omega) _ | refine Below.drew ?_ | refine below_drewN ?_ _))) (HD.out.below (by repeat (first | exact Below.refl _ _ | exact Hid.out (by assumption) | refine below_alloc ?_ _ | refine Below.setCell ?_ (by simp <;> omega) _ | refine Below.alloc ?_ (by simp <;> omega) _ | refine Below.drew ?_ | refine below_drewN ?_ _))) (Box4.new w _ _ _ _ _)).mono ?_
    rintro e w' ⟨rfl, rfl⟩
    go_wp2_with fail
    refine (HW.out _ (HE.out.below (by repeat (first | exact Below.refl _ _ | exact Hid.out (by assumption) | refine below_alloc ?_ _ | refine Below.setCell ?_ (by simp <;> omega) _ | refine Below.alloc ?_ (by simp <;> omega) _ | refine Below.drew ?_ | refine below_drewN ?_ _)))).mono ?_
    rintro e w' ⟨rfl, rfl⟩
    go_wp2_with fail
    refine bodyPost_ret (v := .tuple #[.slice none 0 0, .bool false]) ?r1 rfl ?r2
    case r1 => simp [results, Try.results33, go_sem]
    case r2 => exact IRes.none_ rfl (by repeat (first | exact Below.refl _ _ | exact Hid.out (by assumption) | refine below_alloc ?_ _ | refine Below.setCell ?_ (by simp <;> omega) _ | refine Below.alloc ?_ (by simp <;> omega) _ | refine Below.drew ?_ | refine below_drewN ?_ _))
  by_cases h24 : L.length ≤ 24
  · obtain rfl : ok = true := by rw [HU.out, decide_eq_true h24]; rfl
    have d24 : decide (L.length ≤ 24) = true := decide_eq_true h24
    go_enter Try.func33, Try.ntmps33
    go_wp2_with fail
    refine (HL.out w.heap.size _ (HA.out.below (by repeat (first | exact Below.refl _ _ | exact Hid.out (by assumption) | refine below_alloc ?_ _ | refine Below.setCell ?_ (by simp <;> omega) _ | refine Below.alloc ?_ (by simp <;> omega) _ | refine Below.drew ?_ | refine below_drewN ?_ _))) (HB.out.below (by repeat (first | exact Below.refl _ _ | exact Hid.out (by assumption) | refine below_alloc ?_ _ | refine Below.setCell ?_ (by simp <;> omega) _ | refine Below.alloc ?_ (by simp <;> omega) _ | refine Below.drew ?_ | refine below_drewN ?_ _))) (HC.out.below (by repeat (first | exact Below.refl _ _ | exact Hid.out (by assumption) | refine below_alloc ?_ _ | refine Below.setCell ?_ (by simp <;> omega) _ | refine Below.alloc ?_ (by simp <;> omega) _ | refine Below.drew ?_ | refine below_drewN ?_ _))) (HD.out.below (by repeat (first | exact Below.refl _ _ | exact Hid.out (by assumption) | refine below_alloc ?_ _ | refine Below.setCell ?_ (by simp <;> omega) _ | refine Below.alloc ?_ (by simp <;> omega) _ | refine Below.drew ?_ | refine below_drewN ?_ _))) (Box4.new w _ _ _ _ _)).mono ?_
    rintro e w' ⟨rfl, rfl⟩
    go_wp2_with fail
    refine (HW.out _ (HE.out.below (by repeat (first | exact Below.refl _ _ | exact Hid.out (by assumption) | refine below_alloc ?_ _ | refine Below.setCell ?_ (by simp <;> omega) _ | refine Below.alloc ?_ (by simp <;> omega) _ | refine Below.drew ?_ | refine below_drewN ?_ _)))).mono ?_
    rintro e w' ⟨rfl, rfl⟩
    go_wp2_with fail
    refine (HP.out (HV.out trivial) (HRR.out trivial) w.heap.size _ (HA.out.below (by repeat (first | exact Below.refl _ _ | exact Hid.out (by assumption) | refine below_alloc ?_ _ | refine Below.setCell ?_ (by simp <;> omega) _ | refine Below.alloc ?_ (by simp <;> omega) _ | refine Below.drew ?_ | refine below_drewN ?_ _))) (HB.out.below (by repeat (first | exact Below.refl _ _ | exact Hid.out (by assumption) | refine below_alloc ?_ _ | refine Below.setCell ?_ (by simp <;> omega) _ | refine Below.alloc ?_ (by simp <;> omega) _ | refine Below.drew ?_ | refine below_drewN ?_ _))) (HC.out.below (by repeat (first | exact Below.refl _ _ | exact Hid.out (by assumption) | refine below_alloc ?_ _ | refine Below.setCell ?_ (by simp <;> omega) _ | refine Below.alloc ?_ (by simp <;> omega) _ | refine Below.drew ?_ | refine below_drewN ?_ _))) (HD.out.below (by repeat (first | exact Below.refl _ _ | exact Hid.out (by assumption) | refine below_alloc ?_ _ | refine Below.setCell ?_ (by simp <;> omega) _ | refine Below.alloc ?_ (by simp <;> omega) _ | refine Below.drew ?_ | refine below_drewN ?_ _))) (HE.out.below (by repeat (first | exact Below.refl _ _ | exact Hid.out (by assumption) | refine below_alloc ?_ _ | refine Below.setCell ?_ (by simp <;> omega) _ | refine Below.alloc ?_ (by simp <;> omega) _ | refine Below.drew ?_ | refine below_drewN ?_ _))) (Box4.new w _ _ _ _ _)).mono ?_
    rintro e w1 ⟨⟨y, rfl, ho1⟩, hb1⟩
    have N1 := Lib.hid (show Below w.heap.size w w1 from Below.trans (by repeat (first | exact Below.refl _ _ | exact Hid.out (by assumption) | refine below_alloc ?_ _ | refine Below.setCell ?_ (by simp <;> omega) _ | refine Below.alloc ?_ (by simp <;> omega) _ | refine Below.drew ?_ | refine below_drewN ?_ _)) (hb1.mono (by simp)))
    obtain ⟨A1, c1, g1, rfl, hg, hoc⟩ := own_valsI ho1 rfl
    have HR := Lib.hid (show IRes w w1 (.returned (.tuple #[.slice A1 L.length c1, .bool true])) true (ifN true L.length) F from ⟨A1, c1, g1, rfl, by simp at hg; omega, trivial, by rw [HX.out]; exact hoc, N1.out⟩)
    clear ho1 hb1 hg hoc
    go_wp2_with fail
    refine bodyPost_ret (v := .tuple #[.slice A1 L.length c1, .bool true]) ?r1 rfl ?r2
    case r1 => simp [results, Try.results33, go_sem]
    case r2 => exact HR.out
  · obtain rfl : ok = false := by rw [HU.out, decide_eq_false h24]; rfl
    have d24 : decide (L.length ≤ 24) = false := decide_eq_false h24
    go_enter Try.func33, Try.ntmps33
    go_wp2_with fail
    refine (HL.out w.heap.size _ (HA.out.below (by repeat (first | exact Below.refl _ _ | exact Hid.out (by assumption) | refine below_alloc ?_ _ | refine Below.setCell ?_ (by simp <;> omega) _ | refine Below.alloc ?_ (by simp <;> omega) _ | refine Below.drew ?_ | refine below_drewN ?_ _))) (HB.out.below (by repeat (first | exact Below.refl _ _ | exact Hid.out (by assumption) | refine below_alloc ?_ _ | refine Below.setCell ?_ (by simp <;> omega) _ | refine Below.alloc ?_ (by simp <;> omega) _ | refine Below.drew ?_ | refine below_drewN ?_ _))) (HC.out.below (by repeat (first | exact Below.refl _ _ | exact Hid.out (by assumption) | refine below_alloc ?_ _ | refine Below.setCell ?_ (by simp <;> omega) _ | refine Below.alloc ?_ (by simp <;> omega) _ | refine Below.drew ?_ | refine below_drewN ?_ _))) (HD.out.below (by repeat (first | exact Below.refl _ _ | exact Hid.out (by assumption) | refine below_alloc ?_ _ | refine Below.setCell ?_ (by simp <;> omega) _ | refine Below.alloc ?_ (by simp <;> omega) _ | refine Below.drew ?_ | refine below_drewN ?_ _))) (Box4.new w _ _ _ _ _)).mono ?_
    rintro e w' ⟨rfl, rfl⟩
    go_wp2_with fail
    refine (HW.out _ (HE.out.below (by repeat (first | exact Below.refl _ _ | exact Hid.out (by assumption) | refine below_alloc ?_ _ | refine Below.setCell ?_ (by simp <;> omega) _ | refine Below.alloc ?_ (by simp <;> omega) _ | refine Below.drew ?_ | refine below_drewN ?_ _)))).mono ?_
    rintro e w' ⟨rfl, rfl⟩
    go_wp2_with fail
    refine (HP.out (HV.out trivial) (HRR.out trivial) w.heap.size _ (HA.out.below (by repeat (first | exact Below.refl _ _ | exact Hid.out (by assumption) | refine below_alloc ?_ _ | refine Below.setCell ?_ (by simp <;> omega) _ | refine Below.alloc ?_ (by simp <;> omega) _ | refine Below.drew ?_ | refine below_drewN ?_ _))) (HB.out.below (by repeat (first | exact Below.refl _ _ | exact Hid.out (by assumption) | refine below_alloc ?_ _ | refine Below.setCell ?_ (by simp <;> omega) _ | refine Below.alloc ?_ (by simp <;> omega) _ | refine Below.drew ?_ | refine below_drewN ?_ _))) (HC.out.below (by repeat (first | exact Below.refl _ _ | exact Hid.out (by assumption) | refine below_alloc ?_ _ | refine Below.setCell ?_ (by simp <;> omega) _ | refine Below.alloc ?_ (by simp <;> omega) _ | refine Below.drew ?_ | refine below_drewN ?_ _))) (HD.out.below (by repeat (first | exact Below.refl _ _ | exact Hid.out (by assumption) | refine below_alloc ?_ _ | refine Below.setCell ?_ (by simp <;> omega) _ | refine Below.alloc ?_ (by simp <;> omega) _ | refine Below.drew ?_ | refine below_drewN ?_ _))) (HE.out.below (by repeat (first | exact Below.refl _ _ | exact Hid.out (by assumption) | refine below_alloc ?_ _ | refine Below.setCell ?_ (by simp <;> omega) _ | refine Below.alloc ?_ (by simp <;> omega) _ | refine Below.drew ?_ | refine below_drewN ?_ _))) (Box4.new w _ _ _ _ _)).mono ?_
    rintro e w1 ⟨⟨y, rfl, ho1⟩, hb1⟩
    have N1 := Lib.hid (show Below w.heap.size w w1 from Below.trans (by repeat (first | exact Below.refl _ _ | exact Hid.out (by assumption) | refine below_alloc ?_ _ | refine Below.setCell ?_ (by simp <;> omega) _ | refine Below.alloc ?_ (by simp <;> omega) _ | refine Below.drew ?_ | refine below_drewN ?_ _)) (hb1.mono (by simp)))
    clear ho1 hb1
    go_wp2_with fail
    refine bodyPost_ret (v := .tuple #[.slice none 0 0, .bool false]) ?r1 rfl ?r2
    case r1 => simp [results, Try.results33, go_sem]
    case r2 => exact IRes.none_ rfl N1.out
end Go.Proofs.Ytehemjcpdblonaa
