/- Where a change fits: the reference's. -/
import Derived.Test.YtehemjcpdblonaaChgV
import Derived.Test.YtehemjcpdblonaaRowEq
import Derived.Test.YtehemjcpdblonaaIRes
set_option linter.unusedVariables false
namespace Go.Proofs.Ytehemjcpdblonaa
open Go.RowKit

/-- The m letters of g are in the n letters of f at a place. -/
def thereB (f : Nat → Int) (n : Nat) (g : Nat → Int) (m : Nat) (at_ : Int) : Bool := decide (0 ≤ at_) && (decide (at_ + m ≤ n) && rowEqB (fun i => f (at_.toNat + i)) g m m)
theorem thereB_neg {f g : Nat → Int} {n m : Nat} {at_ : Int} (h : ¬ 0 ≤ at_) : thereB f n g m at_ = false := by unfold thereB; simp [h]
theorem thereB_far {f g : Nat → Int} {n m : Nat} {at_ : Int} (h : ¬ at_ + m ≤ n) : thereB f n g m at_ = false := by unfold thereB; simp [h]
theorem thereB_in {f g : Nat → Int} {n m k : Nat} (h : k + m ≤ n) : thereB f n g m k = rowEqB (fun i => f (k + i)) g m m := by
  unfold thereB
  simp
  intro _
  omega
/-- A change fits. -/
def fitsB (n m p : Nat) (f g u : Nat → Int) (v : Nat → Int) (r : Nat) (k : Nat) : Bool := thereB v r g m k && (thereB v r f n ((k : Int) - n) && thereB v r u p ((k : Int) + m))

set_option maxHeartbeats 1000000 in
theorem l05There_any (A : Option Addr) (n c : Nat) (f : Nat → Int) (B : Option Addr) (m d : Nat) (g : Nat → Int) (at_ : Int) (w : World) (hn : n ≤ 1048576) (hc : n ≤ c ∧ c ≤ 1048576) (hA : Cells w A n (fun i => .int .i64 (f i))) (hm : m ≤ 1048576) (hB : Cells w B m (fun i => .int .i64 (g i))) (h1 : -4194304 ≤ at_) (h2 : at_ ≤ 4194304) :
    Calls Try.prog 102 #[.slice A n c, .slice B m d, .int .i64 at_] w fun e w' => e = .returned (.bool (thereB f n g m at_)) ∧ ∃ q, w' = w.drewN q := by
  obtain ⟨c1, c2⟩ := hc
  by_cases h0 : 0 ≤ at_
  rotate_left
  · have d1 : at_ < 0 := by omega
    have HU := Lib.hid (thereB_neg (f := f) (g := g) (n := n) (m := m) h0)
    clear h0 h1
    go_enter Try.func102, Try.ntmps102
    go_wp2_with fail
    go_ret
    exact ⟨ret_bool HU.out.symm, 0, rfl⟩
  obtain ⟨k, rfl⟩ := Int.eq_ofNat_of_zero_le h0
  have d1 : ¬ (k : Int) < 0 := by omega
  by_cases h3 : (k : Int) + m ≤ n
  rotate_left
  · have d2 : (n : Int) < (k : Int) + m := by omega
    have HU := Lib.hid (thereB_far (f := f) (g := g) h3)
    clear h0 h1 h3
    go_enter Try.func102, Try.ntmps102
    go_wp2_with fail
    go_ret
    exact ⟨ret_bool HU.out.symm, 0, rfl⟩
  have d2 : ¬ (n : Int) < (k : Int) + m := by omega
  have hkm : k + m ≤ n := by omega
  have HU := Lib.hid (thereB_in (f := f) (g := g) hkm)
  have d3 : (k : Int) + m ≤ c := by omega
  have d4 : (k : Int) ≤ (k : Int) + m := by omega
  have d5 : ((k : Int) + (m : Int)).toNat = k + m := by omega
  have d6 : (0 : Int) ≤ (k : Int) + m := by omega
  have d7 : k + m - k = m := by omega
  cases A with
  | none =>
    have hn0 : n = 0 := by
      rcases Nat.eq_zero_or_pos n with q | q
      · exact q
      · obtain ⟨x, hx, _⟩ := hA 0 q
        cases hx
    have hk0 : k = 0 := by omega
    have hm0 : m = 0 := by omega
    subst hn0 hk0 hm0
    have HS := Lib.hid (fun v => l00Same_any none B 0 0 v d (fun i => f (0 + i)) g w (by omega) (by omega) Cells.zero Cells.zero)
    generalize rowEqB (fun i => f (0 + i)) g 0 0 = r at *
    clear hA hB
    go_enter Try.func102, Try.ntmps102
    go_wp2_with fail
    refine (HS.out _).mono ?_
    rintro e w' ⟨rfl, q, rfl⟩
    go_wp2_with fail
    go_ret
    exact ⟨ret_bool HU.out.symm, _, rfl⟩
  | some x =>
    by_cases hck : c = k
    · have hm0 : m = 0 := by omega
      subst hm0
      have HS := Lib.hid (fun y v => l00Same_any (some y) B 0 0 v d (fun i => f (k + i)) g w (by omega) (by omega) Cells.zero Cells.zero)
      generalize rowEqB (fun i => f (k + i)) g 0 0 = r at *
      subst hck
      clear hA hB
      go_enter Try.func102, Try.ntmps102
      go_wp2_with fail
      refine (HS.out _ _).mono ?_
      rintro e w' ⟨rfl, q, rfl⟩
      go_wp2_with fail
      go_ret
      exact ⟨ret_bool HU.out.symm, _, rfl⟩
    · have hcx : Cells w (some (x.add k)) m (fun i => .int .i64 (f (k + i))) := fun i hi => by
        obtain ⟨y, hy, hv⟩ := hA (k + i) (by omega)
        cases hy
        exact ⟨_, rfl, by rw [add_add']; exact hv⟩
      have HS := Lib.hid (fun v => l00Same_any (some (x.add k)) B m m v d (fun i => f (k + i)) g w (by omega) (by omega) hcx hB)
      generalize rowEqB (fun i => f (k + i)) g m m = r at *
      have hck2 : ¬ k = c := fun e => hck e.symm
      clear hA hB hcx
      go_enter Try.func102, Try.ntmps102
      go_wp2_with fail
      refine (HS.out _).mono ?_
      rintro e w' ⟨rfl, q, rfl⟩
      go_wp2_with fail
      go_ret
      exact ⟨ret_bool HU.out.symm, _, rfl⟩

/-- The places below k that b tells. -/
def plcL (b : Nat → Bool) : Nat → List Int
  | 0 => []
  | k + 1 => plcL b k ++ (if b k then [(k : Int)] else [])
theorem plcL_len (b : Nat → Bool) (k : Nat) : (plcL b k).length ≤ k := by
  induction k with
  | zero => exact Nat.le_refl _
  | succ k ih => unfold plcL; split <;> simp <;> omega
theorem plcL_yes {b : Nat → Bool} {k : Nat} (h : b k = true) : plcL b (k + 1) = plcL b k ++ [(k : Int)] := by
  show plcL b k ++ _ = _
  rw [if_pos h]
theorem plcL_no {b : Nat → Bool} {k : Nat} (h : b k = false) : plcL b (k + 1) = plcL b k := by
  show plcL b k ++ _ = _
  rw [if_neg (by simp [h]), List.append_nil]
theorem own_drewN {w : World} {base size n q : Nat} {e : TypeId} {v : Value} {xs : List Value} (h : w.ownsRow base e size v n xs) : (w.drewN q).ownsRow base e size v n xs := h

set_option maxHeartbeats 4000000 in
theorem l05Fits_any (P : Nat)
  (A B C D : Option Addr) (n c m d o q p t : Nat) (f g h u : Nat → Int) (E : Option Addr) (r i : Nat) (v : Nat → Int)
  (k : Nat) (w : World)
  (hn : n ≤ 1048576) (hm : m ≤ 1048576) (ho : o ≤ 1048576) (hp : p ≤ 1048576) (hA : Cells w A n (fun i => .int .i64 (f i))) (hB : Cells w B m (fun i => .int .i64 (g i))) (hC : Cells w C o (fun i => .int .i64 (h i))) (hD : Cells w D p (fun i => .int .i64 (u i)))
  (hr : r ≤ 1048576) (hi : r ≤ i ∧ i ≤ 1048576) (hE : Cells w E r (fun i => .int .i64 (v i)))
  (hk : k < r) (b : Box4 w P (.slice A n c) (.slice B m d) (.slice C o q) (.slice D p t))
  : Calls Try.prog 87 #[.pointer (some ⟨P, 0, none⟩), .slice E r i, .int .i64 k] w fun e w' => e = .returned (.bool (fitsB n m p f g u v r k)) ∧ ∃ j, w' = w.drewN j := by
  have HG := Lib.hid (fun j => l05There_any E r i v B m d g k (w.drewN j) hr hi hE hm hB (by omega) (by omega))
  have HF := Lib.hid (fun j => l05There_any E r i v A n c f ((k : Int) - n) (w.drewN j) hr hi hE hn hA (by omega) (by omega))
  have HV := Lib.hid (fun j => l05There_any E r i v D p t u ((k : Int) + m) (w.drewN j) hr hi hE hp hD (by omega) (by omega))
  have HU := Lib.hid (show fitsB n m p f g u v r k = (thereB v r g m k && (thereB v r f n ((k : Int) - n) && thereB v r u p ((k : Int) + m))) from rfl)
  obtain ⟨b0, b1, b2, b3⟩ := b
  clear hA hB hC hD hE
  generalize fitsB n m p f g u v r k = rr at *
  generalize thereB v r g m k = r1 at *
  generalize thereB v r f n ((k : Int) - n) = r2 at *
  generalize thereB v r u p ((k : Int) + m) = r3 at *
  cases r1
  · rw [Bool.false_and] at HU
    go_enter Try.func87, Try.ntmps87
    go_wp2_with fail
    go_quiet ((first | (go_at_call_of 102 (Value.slice B m d); exact Calls.quiet_of (HG.out _)) | (go_at_call_of 102 (Value.slice A n c); exact Calls.quiet_of (HF.out _)) | (go_at_call_of 102 (Value.slice D p t); exact Calls.quiet_of (HV.out _))))
    go_wp2_with fail
    go_ret
    exact ⟨ret_bool HU.out.symm, _, rfl⟩
  rw [Bool.true_and] at HU
  cases r2
  · rw [Bool.false_and] at HU
    go_enter Try.func87, Try.ntmps87
    go_wp2_with fail
    go_quiet ((first | (go_at_call_of 102 (Value.slice B m d); exact Calls.quiet_of (HG.out _)) | (go_at_call_of 102 (Value.slice A n c); exact Calls.quiet_of (HF.out _)) | (go_at_call_of 102 (Value.slice D p t); exact Calls.quiet_of (HV.out _))))
    go_wp2_with fail
    go_ret
    exact ⟨ret_bool HU.out.symm, _, rfl⟩
  rw [Bool.true_and] at HU
  go_enter Try.func87, Try.ntmps87
  go_wp2_with fail
  go_quiet ((first | (go_at_call_of 102 (Value.slice B m d); exact Calls.quiet_of (HG.out _)) | (go_at_call_of 102 (Value.slice A n c); exact Calls.quiet_of (HF.out _)) | (go_at_call_of 102 (Value.slice D p t); exact Calls.quiet_of (HV.out _))))
  go_wp2_with fail
  go_ret
  exact ⟨ret_bool HU.out.symm, _, rfl⟩
set_option maxRecDepth 20000 in
set_option maxHeartbeats 1000000 in
theorem l05Places_any (P : Nat)
  (A B C D : Option Addr) (n c m d o q p t : Nat) (f g h u : Nat → Int) (E : Option Addr) (r i : Nat) (v : Nat → Int)
  (w : World)
  (hn : n ≤ 1048576) (hm : m ≤ 1048576) (ho : o ≤ 1048576) (hp : p ≤ 1048576) (hA : Cells w A n (fun i => .int .i64 (f i))) (hB : Cells w B m (fun i => .int .i64 (g i))) (hC : Cells w C o (fun i => .int .i64 (h i))) (hD : Cells w D p (fun i => .int .i64 (u i)))
  (hr : r ≤ 1048576) (hi : r ≤ i ∧ i ≤ 1048576) (hE : Cells w E r (fun i => .int .i64 (v i)))
  (b : Box4 w P (.slice A n c) (.slice B m d) (.slice C o q) (.slice D p t))
  : Calls Try.prog 60 #[.pointer (some ⟨P, 0, none⟩), .slice E r i] w fun e w' => (∃ y, e = .returned y ∧ w'.ownsRow w.heap.size 2 1 y (plcL (fitsB n m p f g u v r) r).length (valsI (plcL (fitsB n m p f g u v r) r))) ∧ Below w.heap.size w w' := by
  obtain ⟨ii, hii, hzi, hsi, hbi⟩ := info_parts infoI
  have HF := Lib.hid (fun k W h1 h2 h3 h4 h5 hk b => l05Fits_any P A B C D n c m d o q p t f g h u E r i v k W hn hm ho hp h1 h2 h3 h4 hr hi h5 hk b)
  have HA := Lib.hid hA
  have HB := Lib.hid hB
  have HC := Lib.hid hC
  have HD := Lib.hid hD
  have HE := Lib.hid hE
  have X := Lib.hid b
  clear hA hB hC hD hE b
  generalize fitsB n m p f g u v r = fb at *
  go_enter Try.func60, Try.ntmps60
  go_wp2_with fail
  go_loopw [5, 6, 10] (fun row _ j wr => ∃ (k : Nat) (y : Value), k ≤ r ∧ y = row ∧ j = .int .i64 k ∧ Hid (wr.ownsRow w.heap.size 2 1 y (plcL fb k).length (valsI (plcL fb k))) ∧ Hid (Below w.heap.size w wr)) (fun _ _ j _ => r - (intOf j).toNat)
  case atStart => exact ⟨0, _, Nat.zero_le _, rfl, rfl, (by unfold Hid; simp only [plcL, valsI, List.map_nil, List.length_nil]; exact World.ownsRow_lit w #[] (base := w.heap.size) 0 (Nat.le_refl _) (by unfold maxLen; omega) rfl), (by repeat (first | exact Below.refl _ _ | exact Hid.out (by assumption) | refine below_alloc ?_ _ | refine Below.setCell ?_ (by simp <;> omega) _ | refine Below.alloc ?_ (by simp <;> omega) _ | refine Below.drew ?_ | refine below_drewN ?_ _))⟩
  case round =>
    obtain ⟨k, y, hk, rfl, rfl, HO, HB0⟩ := hrel
    by_cases hlt : k < r
    · have d1 : (k : Int) < r := by omega
      have HL := Lib.hid (Nat.lt_of_le_of_lt (plcL_len fb k) hlt)
      have HY0 := Lib.hid (fun e => plcL_yes (b := fb) (k := k) e)
      have HN0 := Lib.hid (fun e => plcL_no (b := fb) (k := k) e)
      have HQ := Lib.hid (HF.out k wr (HA.out.below HB0.out) (HB.out.below HB0.out) (HC.out.below HB0.out) (HD.out.below HB0.out) (HE.out.below HB0.out) hlt (X.out.below HB0.out))
      clear HF
      generalize fb k = rb at *
      go_wp2_with fail
      refine HQ.out.mono ?_
      rintro e w1 ⟨rfl, j, hw1⟩
      have HO1 := Lib.hid (show w1.ownsRow w.heap.size 2 1 y (plcL fb k).length (valsI (plcL fb k)) by rw [hw1]; exact own_drewN HO.out)
      have HB1 := Lib.hid (show Below w.heap.size w w1 by rw [hw1]; exact below_drewN HB0.out j)
      clear hw1 HO HB0
      cases rb
      · have HN := Lib.hid (HN0.out rfl)
        clear HY0 HN0
        go_wp2_with fail
        exact ⟨⟨k + 1, y, by omega, rfl, by simp, by rw [HN.out]; exact HO1.out, HB1.out⟩, by simp [intOf]; omega⟩
      · have HY := Lib.hid (HY0.out rfl)
        clear HY0 HN0
        go_wp2_with (first
          | (at_builtin
             refine wpList_append_cells _ rfl _ _ 22 rfl w.heap.size 2 ii (.int .i64 0) 1 8 Try.underlying22 hii hzi hsi hbi rfl (by decide) y _ _ rfl (HO1.out.alloc _)
               (some ⟨w1.heap.size, 0, none⟩) 1 1 (fun _ => .int .i64 k) rfl (cells_lit1 rfl) (fun j _ => rfl) (by unfold maxLen; have := HL.out; omega) (by have := HL.out; omega) (by have := HB1.out.size; simp <;> omega) ?_
             intro v1 w2 hown hgrow hwhere
             have HO2 := Lib.hid (show w2.ownsRow w.heap.size 2 1 v1 (plcL fb (k + 1)).length (valsI (plcL fb (k + 1))) by rw [HY.out, List.length_append, ← valsI_add]; exact hown)
             have HB2 := Lib.hid (show Below w.heap.size w w2 from Below.grown (Below.alloc HB1.out HB1.out.size _) hgrow (by have := HB1.out.size; simp; omega) (fun j hj => (HO1.out.lt j hj).1))
             clear hown hgrow hwhere)
          | go_in)
        exact ⟨⟨k + 1, v1, by omega, rfl, by simp, HO2.out, HB2.out⟩, by simp [intOf]; omega⟩
    · have d1 : ¬ (k : Int) < r := by omega
      obtain rfl : r = k := by omega
      go_wp2_with fail
      go_ret
      exact ⟨⟨_, rfl, HO.out⟩, HB0.out⟩
/-- Where a change fits, and whether that is told. -/
def plcOk (l : Int) (n m o p : Nat) (f g h u : Nat → Int) (v : Nat → Int) (r : Nat) : Bool := validC l n m o p f g h u && lettersB v r l 24
def plcN (l : Int) (n m o p : Nat) (f g h u : Nat → Int) (v : Nat → Int) (r : Nat) : Nat := ifN (plcOk l n m o p f g h u v r) (plcL (fitsB n m p f g u v r) r).length
def plcF (n m p : Nat) (f g u : Nat → Int) (v : Nat → Int) (r : Nat) (i : Nat) : Int := (plcL (fitsB n m p f g u v r) r).getD i 0
theorem plcN_le (l : Int) (n m o p : Nat) (f g h u : Nat → Int) (v : Nat → Int) (r : Nat) : plcN l n m o p f g h u v r ≤ r := Nat.le_trans (ifN_le _ _) (plcL_len _ _)
set_option maxHeartbeats 1000000 in
theorem specPlacesOf_any
  (A B C D : Option Addr) (n c m d o q p t : Nat) (f g h u : Nat → Int) (E : Option Addr) (r i : Nat) (v : Nat → Int)
  (l : Int) (w : World)
  (hn : n ≤ 1048576) (hm : m ≤ 1048576) (ho : o ≤ 1048576) (hp : p ≤ 1048576) (hA : Cells w A n (fun i => .int .i64 (f i))) (hB : Cells w B m (fun i => .int .i64 (g i))) (hC : Cells w C o (fun i => .int .i64 (h i))) (hD : Cells w D p (fun i => .int .i64 (u i)))
  (hr : r ≤ 1048576) (hi : r ≤ i ∧ i ≤ 1048576) (hE : Cells w E r (fun i => .int .i64 (v i)))
  : Calls Try.prog 26 #[.agg #[.slice A n c, .slice B m d, .slice C o q, .slice D p t], .slice E r i, .int .i64 l] w fun e w' => IRes w w' e (plcOk l n m o p f g h u v r) (plcN l n m o p f g h u v r) (plcF n m p f g u v r) := by
  have HL := Lib.hid (fun P W h1 h2 h3 h4 b => l05Is_any P A B C D n c m d o q p t f g h u l W hn hm ho hp h1 h2 h3 h4 b)
  have HW := Lib.hid (fun W k => l05Long_any E r i v l W hr k)
  have HP := Lib.hid (fun P W h1 h2 h3 h4 h5 b => l05Places_any P A B C D n c m d o q p t f g h u E r i v W hn hm ho hp h1 h2 h3 h4 hr hi h5 b)
  have HA := Lib.hid hA
  have HB := Lib.hid hB
  have HC := Lib.hid hC
  have HD := Lib.hid hD
  have HE := Lib.hid hE
  clear hA hB hC hD hE
  have HU := Lib.hid (show plcOk l n m o p f g h u v r = (validC l n m o p f g h u && lettersB v r l 24) from rfl)
  have HX := Lib.hid (show plcF n m p f g u v r = fun i => (plcL (fitsB n m p f g u v r) r).getD i 0 from rfl)
  unfold plcN
  generalize plcOk l n m o p f g h u v r = ok at *
  generalize validC l n m o p f g h u = r1 at *
  generalize lettersB v r l 24 = r2 at *
  generalize plcF n m p f g u v r = F at *
  generalize plcL (fitsB n m p f g u v r) r = L at *
  cases r1
  · obtain rfl : ok = false := by rw [HU.out]; rfl
    go_enter Try.func26, Try.ntmps26
    go_wp2_with fail
    refine (HL.out w.heap.size _ (HA.out.below (by repeat (first | exact Below.refl _ _ | exact Hid.out (by assumption) | refine below_alloc ?_ _ | refine Below.setCell ?_ (by simp <;> omega) _ | refine Below.alloc ?_ (by simp <;> omega) _ | refine Below.drew ?_ | refine below_drewN ?_ _))) (HB.out.below (by repeat (first | exact Below.refl _ _ | exact Hid.out (by assumption) | refine below_alloc ?_ _ | refine Below.setCell ?_ (by simp <;> omega) _ | refine Below.alloc ?_ (by simp <;> omega) _ | refine Below.drew ?_ | refine below_drewN ?_ _))) (HC.out.below (by repeat (first | exact Below.refl _ _ | exact Hid.out (by assumption) | refine below_alloc ?_ _ | refine Below.setCell ?_ (by simp <;> omega) _ | refine Below.alloc ?_ (by simp <;> omega) _ | refine Below.drew ?_ | refine below_drewN ?_ _))) (HD.out.below (by repeat (first | exact Below.refl _ _ | exact Hid.out (by assumption) | refine below_alloc ?_ _ | refine Below.setCell ?_ (by simp <;> omega) _ | refine Below.alloc ?_ (by simp <;> omega) _ | refine Below.drew ?_ | refine below_drewN ?_ _))) (Box4.new w _ _ _ _ _)).mono ?_
    rintro e w' ⟨rfl, rfl⟩
    go_wp2_with fail
    refine bodyPost_ret (v := .tuple #[.slice none 0 0, .bool false]) ?r1 rfl ?r2
    case r1 => simp [results, Try.results26, go_sem]
    case r2 => exact IRes.none_ rfl (by repeat (first | exact Below.refl _ _ | exact Hid.out (by assumption) | refine below_alloc ?_ _ | refine Below.setCell ?_ (by simp <;> omega) _ | refine Below.alloc ?_ (by simp <;> omega) _ | refine Below.drew ?_ | refine below_drewN ?_ _))
  cases r2
  · obtain rfl : ok = false := by rw [HU.out]; rfl
    go_enter Try.func26, Try.ntmps26
    go_wp2_with fail
    refine (HL.out w.heap.size _ (HA.out.below (by repeat (first | exact Below.refl _ _ | exact Hid.out (by assumption) | refine below_alloc ?_ _ | refine Below.setCell ?_ (by simp <;> omega) _ | refine Below.alloc ?_ (by simp <;> omega) _ | refine Below.drew ?_ | refine below_drewN ?_ _))) (HB.out.below (by repeat (first | exact Below.refl _ _ | exact Hid.out (by assumption) | refine below_alloc ?_ _ | refine Below.setCell ?_ (by simp <;> omega) _ | refine Below.alloc ?_ (by simp <;> omega) _ | refine Below.drew ?_ | refine below_drewN ?_ _))) (HC.out.below (by repeat (first | exact Below.refl _ _ | exact Hid.out (by assumption) | refine below_alloc ?_ _ | refine Below.setCell ?_ (by simp <;> omega) _ | refine Below.alloc ?_ (by simp <;> omega) _ | refine Below.drew ?_ | refine below_drewN ?_ _))) (HD.out.below (by repeat (first | exact Below.refl _ _ | exact Hid.out (by assumption) | refine below_alloc ?_ _ | refine Below.setCell ?_ (by simp <;> omega) _ | refine Below.alloc ?_ (by simp <;> omega) _ | refine Below.drew ?_ | refine below_drewN ?_ _))) (Box4.new w _ _ _ _ _)).mono ?_
    rintro e w' ⟨rfl, rfl⟩
    go_wp2_with fail
    refine (HW.out _ (HE.out.below (by repeat (first | exact Below.refl _ _ | exact Hid.out (by assumption) | refine below_alloc ?_ _ | refine Below.setCell ?_ (by simp <;> omega) _ | refine Below.alloc ?_ (by simp <;> omega) _ | refine Below.drew ?_ | refine below_drewN ?_ _)))).mono ?_
    rintro e w' ⟨rfl, rfl⟩
    go_wp2_with fail
    refine bodyPost_ret (v := .tuple #[.slice none 0 0, .bool false]) ?r1 rfl ?r2
    case r1 => simp [results, Try.results26, go_sem]
    case r2 => exact IRes.none_ rfl (by repeat (first | exact Below.refl _ _ | exact Hid.out (by assumption) | refine below_alloc ?_ _ | refine Below.setCell ?_ (by simp <;> omega) _ | refine Below.alloc ?_ (by simp <;> omega) _ | refine Below.drew ?_ | refine below_drewN ?_ _))
  obtain rfl : ok = true := by rw [HU.out]; rfl
  go_enter Try.func26, Try.ntmps26
  go_wp2_with fail
  refine (HL.out w.heap.size _ (HA.out.below (by repeat (first | exact Below.refl _ _ | exact Hid.out (by assumption) | refine below_alloc ?_ _ | refine Below.setCell ?_ (by simp <;> omega) _ | refine Below.alloc ?_ (by simp <;> omega) _ | refine Below.drew ?_ | refine below_drewN ?_ _))) (HB.out.below (by repeat (first | exact Below.refl _ _ | exact Hid.out (by assumption) | refine below_alloc ?_ _ | refine Below.setCell ?_ (by simp <;> omega) _ | refine Below.alloc ?_ (by simp <;> omega) _ | refine Below.drew ?_ | refine below_drewN ?_ _))) (HC.out.below (by repeat (first | exact Below.refl _ _ | exact Hid.out (by assumption) | refine below_alloc ?_ _ | refine Below.setCell ?_ (by simp <;> omega) _ | refine Below.alloc ?_ (by simp <;> omega) _ | refine Below.drew ?_ | refine below_drewN ?_ _))) (HD.out.below (by repeat (first | exact Below.refl _ _ | exact Hid.out (by assumption) | refine below_alloc ?_ _ | refine Below.setCell ?_ (by simp <;> omega) _ | refine Below.alloc ?_ (by simp <;> omega) _ | refine Below.drew ?_ | refine below_drewN ?_ _))) (Box4.new w _ _ _ _ _)).mono ?_
  rintro e w' ⟨rfl, rfl⟩
  go_wp2_with fail
  refine (HW.out _ (HE.out.below (by repeat (first | exact Below.refl _ _ | exact Hid.out (by assumption) | refine below_alloc ?_ _ | refine Below.setCell ?_ (by simp <;> omega) _ | refine Below.alloc ?_ (by simp <;> omega) _ | refine Below.drew ?_ | refine below_drewN ?_ _)))).mono ?_
  rintro e w' ⟨rfl, rfl⟩
  go_wp2_with fail
  refine (HP.out w.heap.size _ (HA.out.below (by repeat (first | exact Below.refl _ _ | exact Hid.out (by assumption) | refine below_alloc ?_ _ | refine Below.setCell ?_ (by simp <;> omega) _ | refine Below.alloc ?_ (by simp <;> omega) _ | refine Below.drew ?_ | refine below_drewN ?_ _))) (HB.out.below (by repeat (first | exact Below.refl _ _ | exact Hid.out (by assumption) | refine below_alloc ?_ _ | refine Below.setCell ?_ (by simp <;> omega) _ | refine Below.alloc ?_ (by simp <;> omega) _ | refine Below.drew ?_ | refine below_drewN ?_ _))) (HC.out.below (by repeat (first | exact Below.refl _ _ | exact Hid.out (by assumption) | refine below_alloc ?_ _ | refine Below.setCell ?_ (by simp <;> omega) _ | refine Below.alloc ?_ (by simp <;> omega) _ | refine Below.drew ?_ | refine below_drewN ?_ _))) (HD.out.below (by repeat (first | exact Below.refl _ _ | exact Hid.out (by assumption) | refine below_alloc ?_ _ | refine Below.setCell ?_ (by simp <;> omega) _ | refine Below.alloc ?_ (by simp <;> omega) _ | refine Below.drew ?_ | refine below_drewN ?_ _))) (HE.out.below (by repeat (first | exact Below.refl _ _ | exact Hid.out (by assumption) | refine below_alloc ?_ _ | refine Below.setCell ?_ (by simp <;> omega) _ | refine Below.alloc ?_ (by simp <;> omega) _ | refine Below.drew ?_ | refine below_drewN ?_ _))) (Box4.new w _ _ _ _ _)).mono ?_
  rintro e w1 ⟨⟨y, rfl, ho1⟩, hb1⟩
  have N1 := Lib.hid (show Below w.heap.size w w1 from Below.trans (by repeat (first | exact Below.refl _ _ | exact Hid.out (by assumption) | refine below_alloc ?_ _ | refine Below.setCell ?_ (by simp <;> omega) _ | refine Below.alloc ?_ (by simp <;> omega) _ | refine Below.drew ?_ | refine below_drewN ?_ _)) (hb1.mono (by simp)))
  obtain ⟨A1, c1, g1, rfl, hg, hoc⟩ := own_valsI ho1 rfl
  have HR := Lib.hid (show IRes w w1 (.returned (.tuple #[.slice A1 L.length c1, .bool true])) true (ifN true L.length) F from ⟨A1, c1, g1, rfl, by simp at hg; omega, trivial, by rw [HX.out]; exact hoc, N1.out⟩)
  clear ho1 hb1 hg hoc
  go_wp2_with fail
  refine bodyPost_ret (v := .tuple #[.slice A1 L.length c1, .bool true]) ?r1 rfl ?r2
  case r1 => simp [results, Try.results26, go_sem]
  case r2 => exact HR.out
end Go.Proofs.Ytehemjcpdblonaa
