/- RunChanges at one change, and ChangeAll: impl's. -/
import Derived.Test.YtehemjcpdblonaaChAI
set_option linter.unusedVariables false
namespace Go.Proofs.Ytehemjcpdblonaa
open Go.RowKit
theorem allN_le (l : Int) (n m o p : Nat) (f g h u : Nat → Int) (v : Nat → Int) (r : Nat) : allN l n m o p f g h u v r ≤ 24 := by
  unfold allN ifN
  split
  · rename_i e
    unfold allOk at e
    simp only [Bool.and_eq_true, decide_eq_true_iff] at e
    exact e.2.2
  · omega
theorem box4_at {w : World} {N : Nat} {t : TypeId} {a b c d : Value} (h : w.heap.size = N) : Box4 (w.alloc (.cells #[a, b, c, d] t)) N a b c d := by
  subst h
  exact Box4.new w t a b c d
def sel4 {α : Type} (a b c d : α) (j : Nat) : α := if j = 0 then a else if j = 1 then b else if j = 2 then c else d
theorem fin_same (A B C D : Option Addr) (n c m d o q p t : Nat) (f g h u : Nat → Int) (j : Nat) (hj : j < 17) :
    (listV (1 * 17) (findersV (fun _ => sel4 A B C D) (fun _ => sel4 n m o p) (fun _ => sel4 c d q t) (fun _ => sel4 f g h u))).getD j undef = finV A B C D n c m d o q p t (padF (soughtF n m f g u) (n + m + p)) (n + m + p) j := by
  rw [listV_getD _ (by omega)]
  unfold findersV
  rw [show j / 17 = 0 by omega, show j % 17 = j by omega]
  rfl
set_option maxRecDepth 20000 in
set_option maxHeartbeats 4000000 in
theorem runChanges_one (X cX : Nat)
  (A B C D : Option Addr) (n c m d o q p t : Nat) (f g h u : Nat → Int)
  (E : Option Addr) (r i : Nat) (v : Nat → Int) (l : Int) (w : World)
  (hn : n ≤ 1048576) (hm : m ≤ 1048576) (ho : o ≤ 1048576) (hp : p ≤ 1048576) (hA : Cells w A n (fun i => .int .i64 (f i))) (hB : Cells w B m (fun i => .int .i64 (g i))) (hC : Cells w C o (fun i => .int .i64 (h i))) (hD : Cells w D p (fun i => .int .i64 (u i)))
  (hr : r ≤ 1048576) (hi : r ≤ i ∧ i ≤ 1048576) (hE : Cells w E r (fun i => .int .i64 (v i)))
  (hx : Box4 w X (.slice A n c) (.slice B m d) (.slice C o q) (.slice D p t)) (hcX : 1 ≤ cX)
  : Calls Try.prog 40 #[.slice (some ⟨X, 0, none⟩) 1 cX, .slice E r i, .int .i64 l] w fun e w' => IRes w w' e (allOk l n m o p f g h u v r) (allN l n m o p f g h u v r) (allF n m o p f g h u v r) := by
  have HAre := Lib.hid (fun W h1 h2 h3 h4 k => areChanges_one X cX A B C D n c m d o q p t f g h u l W hn hm ho hp h1 h2 h3 h4 k hcX)
  have HW := Lib.hid (fun W k => implIsLongWord_any E r i v l W hr k)
  have HFN := Lib.hid (fun (q1 : n ≤ 4 ∧ m ≤ 4 ∧ o ≤ 4 ∧ p ≤ 4 ∧ 0 < m) W k1 k2 k3 => findersOf_any (some ⟨X, 0, none⟩) 1 cX (fun _ => sel4 A B C D) (fun _ => sel4 n m o p) (fun _ => sel4 c d q t) (fun _ => sel4 f g h u) W (by omega) k1 k2 k3)
  have HIO := Lib.hid (fun (q1 : n ≤ 4 ∧ m ≤ 4 ∧ o ≤ 4 ∧ p ≤ 4 ∧ 0 < m) (q2 : r ≤ 24) g2 cap W k0 k1 k2 k3 => doneInOrder_one g2 cap A B C D n c m d o q p t h (padF (soughtF n m f g u) (n + m + p)) (n + m + p) E r i v W k0 q1.1 q1.2.1 q1.2.2.1 (by omega) (by omega) q1.2.2.2.2 k1 k2 k3 _ rfl)
  have HS := Lib.hid (all_same l n m o p f g h u v r)
  have HV := Lib.hid (validC_le l n m o p f g h u)
  have HRR := Lib.hid (letters_le v r l 24)
  have HA := Lib.hid hA
  have HB := Lib.hid hB
  have HC := Lib.hid hC
  have HD := Lib.hid hD
  have HE := Lib.hid hE
  have HX := Lib.hid hx
  have HFS := Lib.hid (fin_same A B C D n c m d o q p t f g h u)
  clear hA hB hC hD hE hx
  have HU := Lib.hid (show allOk l n m o p f g h u v r = (validC l n m o p f g h u && (lettersB v r l 24 && decide ((allOf (fitsB n m p f g u v r) ((List.range o).map h) m v r 0).length ≤ 24))) from rfl)
  have HFX := Lib.hid (show allF n m o p f g h u v r = fun i => (allOf (fitsB n m p f g u v r) ((List.range o).map h) m v r 0).getD i 0 from rfl)
  unfold allN
  generalize allOk l n m o p f g h u v r = ok at *
  generalize validC l n m o p f g h u = r1 at *
  generalize lettersB v r l 24 = r2 at *
  generalize allF n m o p f g h u v r = F at *
  generalize allOf (fitsB n m p f g u v r) ((List.range o).map h) m v r 0 = LL at *
  generalize allOf (fitsI n r (n + m + p) v (padF (soughtF n m f g u) (n + m + p))) ((List.range o).map h) m v r 0 = LL2 at *
  cases r1
  · obtain rfl : ok = false := by rw [HU.out]; rfl
    go_enter Try.func40, Try.ntmps40
    go_wp2_with fail
    refine (HAre.out _ (HA.out.below (by repeat (first | exact Below.refl _ _ | exact Hid.out (by assumption) | refine below_alloc ?_ _ | refine Below.setCell ?_ (by simp <;> omega) _ | refine Below.alloc ?_ (by simp <;> omega) _ | refine Below.drew ?_ | refine below_drewN ?_ _))) (HB.out.below (by repeat (first | exact Below.refl _ _ | exact Hid.out (by assumption) | refine below_alloc ?_ _ | refine Below.setCell ?_ (by simp <;> omega) _ | refine Below.alloc ?_ (by simp <;> omega) _ | refine Below.drew ?_ | refine below_drewN ?_ _))) (HC.out.below (by repeat (first | exact Below.refl _ _ | exact Hid.out (by assumption) | refine below_alloc ?_ _ | refine Below.setCell ?_ (by simp <;> omega) _ | refine Below.alloc ?_ (by simp <;> omega) _ | refine Below.drew ?_ | refine below_drewN ?_ _))) (HD.out.below (by repeat (first | exact Below.refl _ _ | exact Hid.out (by assumption) | refine below_alloc ?_ _ | refine Below.setCell ?_ (by simp <;> omega) _ | refine Below.alloc ?_ (by simp <;> omega) _ | refine Below.drew ?_ | refine below_drewN ?_ _))) (HX.out.below (by repeat (first | exact Below.refl _ _ | exact Hid.out (by assumption) | refine below_alloc ?_ _ | refine Below.setCell ?_ (by simp <;> omega) _ | refine Below.alloc ?_ (by simp <;> omega) _ | refine Below.drew ?_ | refine below_drewN ?_ _)))).mono ?_
    rintro e w' ⟨rfl, hb⟩
    have N1 := Lib.hid hb
    clear hb
    go_wp2_with fail
    refine bodyPost_ret (v := .tuple #[.slice none 0 0, .bool false]) ?r1 rfl ?r2
    case r1 => simp [results, Try.results40, go_sem]
    case r2 => exact IRes.none_ rfl N1.out
  cases r2
  · obtain rfl : ok = false := by rw [HU.out]; rfl
    go_enter Try.func40, Try.ntmps40
    go_wp2_with fail
    refine (HAre.out _ (HA.out.below (by repeat (first | exact Below.refl _ _ | exact Hid.out (by assumption) | refine below_alloc ?_ _ | refine Below.setCell ?_ (by simp <;> omega) _ | refine Below.alloc ?_ (by simp <;> omega) _ | refine Below.drew ?_ | refine below_drewN ?_ _))) (HB.out.below (by repeat (first | exact Below.refl _ _ | exact Hid.out (by assumption) | refine below_alloc ?_ _ | refine Below.setCell ?_ (by simp <;> omega) _ | refine Below.alloc ?_ (by simp <;> omega) _ | refine Below.drew ?_ | refine below_drewN ?_ _))) (HC.out.below (by repeat (first | exact Below.refl _ _ | exact Hid.out (by assumption) | refine below_alloc ?_ _ | refine Below.setCell ?_ (by simp <;> omega) _ | refine Below.alloc ?_ (by simp <;> omega) _ | refine Below.drew ?_ | refine below_drewN ?_ _))) (HD.out.below (by repeat (first | exact Below.refl _ _ | exact Hid.out (by assumption) | refine below_alloc ?_ _ | refine Below.setCell ?_ (by simp <;> omega) _ | refine Below.alloc ?_ (by simp <;> omega) _ | refine Below.drew ?_ | refine below_drewN ?_ _))) (HX.out.below (by repeat (first | exact Below.refl _ _ | exact Hid.out (by assumption) | refine below_alloc ?_ _ | refine Below.setCell ?_ (by simp <;> omega) _ | refine Below.alloc ?_ (by simp <;> omega) _ | refine Below.drew ?_ | refine below_drewN ?_ _)))).mono ?_
    rintro e w1 ⟨rfl, hb⟩
    have N1 := Lib.hid hb
    clear hb
    go_wp2_with fail
    refine (HW.out _ (HE.out.below N1.out)).mono ?_
    rintro e w2 ⟨rfl, hb⟩
    have N2 := Lib.hid (show Below w.heap.size w w2 from N1.out.trans (hb.mono N1.out.size))
    clear hb
    go_wp2_with fail
    refine bodyPost_ret (v := .tuple #[.slice none 0 0, .bool false]) ?r1 rfl ?r2
    case r1 => simp [results, Try.results40, go_sem]
    case r2 => exact IRes.none_ rfl N2.out
  obtain rfl : LL = LL2 := HS.out rfl
  have hok : ok = decide (LL.length ≤ 24) := by rw [HU.out]; rfl
  have HOK := Lib.hid hok
  clear hok
  go_enter Try.func40, Try.ntmps40
  go_wp2_with fail
  refine (HAre.out _ (HA.out.below (by repeat (first | exact Below.refl _ _ | exact Hid.out (by assumption) | refine below_alloc ?_ _ | refine Below.setCell ?_ (by simp <;> omega) _ | refine Below.alloc ?_ (by simp <;> omega) _ | refine Below.drew ?_ | refine below_drewN ?_ _))) (HB.out.below (by repeat (first | exact Below.refl _ _ | exact Hid.out (by assumption) | refine below_alloc ?_ _ | refine Below.setCell ?_ (by simp <;> omega) _ | refine Below.alloc ?_ (by simp <;> omega) _ | refine Below.drew ?_ | refine below_drewN ?_ _))) (HC.out.below (by repeat (first | exact Below.refl _ _ | exact Hid.out (by assumption) | refine below_alloc ?_ _ | refine Below.setCell ?_ (by simp <;> omega) _ | refine Below.alloc ?_ (by simp <;> omega) _ | refine Below.drew ?_ | refine below_drewN ?_ _))) (HD.out.below (by repeat (first | exact Below.refl _ _ | exact Hid.out (by assumption) | refine below_alloc ?_ _ | refine Below.setCell ?_ (by simp <;> omega) _ | refine Below.alloc ?_ (by simp <;> omega) _ | refine Below.drew ?_ | refine below_drewN ?_ _))) (HX.out.below (by repeat (first | exact Below.refl _ _ | exact Hid.out (by assumption) | refine below_alloc ?_ _ | refine Below.setCell ?_ (by simp <;> omega) _ | refine Below.alloc ?_ (by simp <;> omega) _ | refine Below.drew ?_ | refine below_drewN ?_ _)))).mono ?_
  rintro e w1 ⟨rfl, hb⟩
  have N1 := Lib.hid hb
  clear hb
  go_wp2_with fail
  refine (HW.out _ (HE.out.below N1.out)).mono ?_
  rintro e w2 ⟨rfl, hb⟩
  have N2 := Lib.hid (show Below w.heap.size w w2 from N1.out.trans (hb.mono N1.out.size))
  clear hb
  go_wp2_with fail
  refine (HFN.out (HV.out trivial) _ ?g1 ?g2 ?g3).mono ?_
  case g1 =>
    intro k hk j hj
    obtain rfl : k = 0 := by omega
    obtain ⟨b0, b1, b2, b3⟩ := HX.out.below N2.out
    have : j = 0 ∨ j = 1 ∨ j = 2 ∨ j = 3 := by omega
    rcases this with rfl | rfl | rfl | rfl
    · exact ⟨_, rfl, b0⟩
    · exact ⟨_, rfl, b1⟩
    · exact ⟨_, rfl, b2⟩
    · exact ⟨_, rfl, b3⟩
  case g2 =>
    intro k hk j hj
    have q1 := HV.out trivial
    have : j = 0 ∨ j = 1 ∨ j = 2 ∨ j = 3 := by omega
    rcases this with rfl | rfl | rfl | rfl
    · exact q1.1
    · exact q1.2.1
    · exact q1.2.2.1
    · exact q1.2.2.2.1
  case g3 =>
    intro k hk j hj
    have : j = 0 ∨ j = 1 ∨ j = 2 ∨ j = 3 := by omega
    rcases this with rfl | rfl | rfl | rfl
    · exact HA.out.below N2.out
    · exact HB.out.below N2.out
    · exact HC.out.below N2.out
    · exact HD.out.below N2.out
  rintro e w3 ⟨⟨y, rfl, hown⟩, hb⟩
  obtain ⟨g2, cap, rfl, hcap, hg2, hcells⟩ := own_fin hown
  have N3 := Lib.hid (show Below w.heap.size w w3 from N2.out.trans (hb.mono N2.out.size))
  have HCE := Lib.hid (fun j hj => (hcells j hj).trans (congrArg some (HFS.out j hj)))
  have HCA := Lib.hid hcap
  clear hown hb hcells hcap hg2
  go_wp2_with fail
  refine (HIO.out (HV.out trivial) (HRR.out trivial) g2 cap _ HCA.out (HC.out.below N3.out) (HE.out.below N3.out) HCE.out).mono ?_
  rintro e w4 ⟨A1, c1, g1, rfl, hg1, -, ho1, hb⟩
  have N4 := Lib.hid (show Below w.heap.size w w4 from N3.out.trans (hb.mono N3.out.size))
  have HG := Lib.hid (show w.heap.size ≤ g1 from Nat.le_trans N3.out.size hg1)
  have HO := Lib.hid ho1
  clear hb hg1 ho1
  go_wp2_with fail
  refine bodyPost_ret (v := .tuple #[.slice A1 (ifN (decide (LL.length ≤ 24)) LL.length) c1, .bool (decide (LL.length ≤ 24))]) ?r1 rfl ?r2
  case r1 => simp [results, Try.results40, go_sem]
  case r2 => rw [HOK.out]; exact ⟨A1, c1, g1, rfl, HG.out, trivial, by rw [HFX.out]; exact HO.out, N4.out⟩
set_option maxHeartbeats 1000000 in
theorem implChangeAll_any
  (A B C D : Option Addr) (n c m d o q p t : Nat) (f g h u : Nat → Int)
  (E : Option Addr) (r i : Nat) (v : Nat → Int) (l : Int) (w : World)
  (hn : n ≤ 1048576) (hm : m ≤ 1048576) (ho : o ≤ 1048576) (hp : p ≤ 1048576) (hA : Cells w A n (fun i => .int .i64 (f i))) (hB : Cells w B m (fun i => .int .i64 (g i))) (hC : Cells w C o (fun i => .int .i64 (h i))) (hD : Cells w D p (fun i => .int .i64 (u i)))
  (hr : r ≤ 1048576) (hi : r ≤ i ∧ i ≤ 1048576) (hE : Cells w E r (fun i => .int .i64 (v i)))
  : Calls Try.prog 34 #[.agg #[.slice A n c, .slice B m d, .slice C o q, .slice D p t], .slice E r i, .int .i64 l] w fun e w' => IRes w w' e (allOk l n m o p f g h u v r) (allN l n m o p f g h u v r) (allF n m o p f g h u v r) := by
  have HR := Lib.hid (fun X W h1 h2 h3 h4 h5 k => runChanges_one X 1 A B C D n c m d o q p t f g h u E r i v l W hn hm ho hp h1 h2 h3 h4 hr hi h5 k (Nat.le_refl _))
  have HA := Lib.hid hA
  have HB := Lib.hid hB
  have HC := Lib.hid hC
  have HD := Lib.hid hD
  have HE := Lib.hid hE
  clear hA hB hC hD hE
  generalize allOk l n m o p f g h u v r = ok at *
  generalize allN l n m o p f g h u v r = N at *
  generalize allF n m o p f g h u v r = F at *
  go_enter Try.func34, Try.ntmps34
  go_wp2_with fail
  refine (HR.out (w.heap.size + 1) _ (HA.out.below (by repeat (first | exact Below.refl _ _ | exact Hid.out (by assumption) | refine below_alloc ?_ _ | refine Below.setCell ?_ (by simp <;> omega) _ | refine Below.alloc ?_ (by simp <;> omega) _ | refine Below.drew ?_ | refine below_drewN ?_ _))) (HB.out.below (by repeat (first | exact Below.refl _ _ | exact Hid.out (by assumption) | refine below_alloc ?_ _ | refine Below.setCell ?_ (by simp <;> omega) _ | refine Below.alloc ?_ (by simp <;> omega) _ | refine Below.drew ?_ | refine below_drewN ?_ _))) (HC.out.below (by repeat (first | exact Below.refl _ _ | exact Hid.out (by assumption) | refine below_alloc ?_ _ | refine Below.setCell ?_ (by simp <;> omega) _ | refine Below.alloc ?_ (by simp <;> omega) _ | refine Below.drew ?_ | refine below_drewN ?_ _))) (HD.out.below (by repeat (first | exact Below.refl _ _ | exact Hid.out (by assumption) | refine below_alloc ?_ _ | refine Below.setCell ?_ (by simp <;> omega) _ | refine Below.alloc ?_ (by simp <;> omega) _ | refine Below.drew ?_ | refine below_drewN ?_ _))) (HE.out.below (by repeat (first | exact Below.refl _ _ | exact Hid.out (by assumption) | refine below_alloc ?_ _ | refine Below.setCell ?_ (by simp <;> omega) _ | refine Below.alloc ?_ (by simp <;> omega) _ | refine Below.drew ?_ | refine below_drewN ?_ _))) (box4_at (by simp))).mono ?_
  rintro e w4 ⟨A1, c1, g1, rfl, hg1, -, ho1, hb⟩
  have N4 := Lib.hid (show Below w.heap.size w w4 from Below.trans (show Below w.heap.size w ((w.alloc _).alloc _) from (by repeat (first | exact Below.refl _ _ | exact Hid.out (by assumption) | refine below_alloc ?_ _ | refine Below.setCell ?_ (by simp <;> omega) _ | refine Below.alloc ?_ (by simp <;> omega) _ | refine Below.drew ?_ | refine below_drewN ?_ _))) (hb.mono (by simp <;> omega)))
  have HG := Lib.hid (show w.heap.size ≤ g1 by simp at hg1; omega)
  have HO := Lib.hid ho1
  clear hb hg1 ho1
  go_wp2_with fail
  refine bodyPost_ret (v := .tuple #[.slice A1 N c1, .bool ok]) ?r1 rfl ?r2
  case r1 => simp [results, Try.results34, go_sem]
  case r2 => exact ⟨A1, c1, g1, rfl, HG.out, trivial, HO.out, N4.out⟩
end Go.Proofs.Ytehemjcpdblonaa
