/- A word changed at all places: the reference's. -/
import Derived.Test.YtehemjcpdblonaaPlcS
set_option linter.unusedVariables false
namespace Go.Proofs.Ytehemjcpdblonaa
open Go.RowKit
/-- What is made from place k on. -/
def allR (b : Nat → Bool) (h : List Int) (m : Nat) (v : Nat → Int) (r : Nat) : Nat → Nat → List Int
  | 0, _ => []
  | s + 1, k => if k < r then (if b k then h ++ allR b h m v r s (k + m) else v k :: allR b h m v r s (k + 1)) else []
theorem allR_fuel (b : Nat → Bool) (h : List Int) (m : Nat) (v : Nat → Int) (r : Nat) (hm : 0 < m) (s : Nat) : ∀ (t k : Nat), r - k ≤ s → r - k ≤ t → allR b h m v r s k = allR b h m v r t k := by
  induction s with
  | zero =>
    intro t k h1 h2
    cases t with
    | zero => rfl
    | succ t => unfold allR; rw [if_neg (by omega)]
  | succ s ih =>
    intro t k h1 h2
    cases t with
    | zero => unfold allR; rw [if_neg (by omega)]
    | succ t =>
      unfold allR
      by_cases hk : k < r
      · rw [if_pos hk, if_pos hk, ih t (k + m) (by omega) (by omega), ih t (k + 1) (by omega) (by omega)]
      · rw [if_neg hk, if_neg hk]
def allOf (b : Nat → Bool) (h : List Int) (m : Nat) (v : Nat → Int) (r k : Nat) : List Int := allR b h m v r (r - k) k
theorem allOf_end {b : Nat → Bool} {h : List Int} {m : Nat} {v : Nat → Int} {r k : Nat} (hk : ¬ k < r) : allOf b h m v r k = [] := by
  unfold allOf
  rw [show r - k = 0 by omega]
  rfl
theorem allOf_yes {b : Nat → Bool} {h : List Int} {m : Nat} {v : Nat → Int} {r k : Nat} (hm : 0 < m) (hk : k < r) (hb : b k = true) : allOf b h m v r k = h ++ allOf b h m v r (k + m) := by
  unfold allOf
  rw [allR_fuel b h m v r hm (r - k) (r - k + 1) k (by omega) (by omega), allR_fuel b h m v r hm (r - (k + m)) (r - k) (k + m) (by omega) (by omega)]
  conv => lhs; unfold allR
  rw [if_pos hk, if_pos hb]
theorem allOf_no {b : Nat → Bool} {h : List Int} {m : Nat} {v : Nat → Int} {r k : Nat} (hm : 0 < m) (hk : k < r) (hb : b k = false) : allOf b h m v r k = v k :: allOf b h m v r (k + 1) := by
  unfold allOf
  rw [allR_fuel b h m v r hm (r - k) (r - k + 1) k (by omega) (by omega), allR_fuel b h m v r hm (r - (k + 1)) (r - k) (k + 1) (by omega) (by omega)]
  conv => lhs; unfold allR
  rw [if_pos hk, if_neg (by rw [hb]; simp)]
theorem allOf_len {b : Nat → Bool} {h : List Int} {m : Nat} {v : Nat → Int} {r : Nat} (hh : h.length ≤ 4) (s k : Nat) : (allR b h m v r s k).length ≤ 4 * s := by
  induction s generalizing k with
  | zero => simp [allR]
  | succ s ih =>
    unfold allR
    split
    · split
      · rw [List.length_append]; have := ih (k + m); omega
      · rw [List.length_cons]; have := ih (k + 1); omega
    · simp
theorem valsI_cells (L : List Int) (o : Nat) (h : Nat → Int) : valsI L ++ listV (o * 1) (fun i => .int .i64 (h i)) = valsI (L ++ (List.range o).map h) := by
  unfold valsI listV
  simp

set_option maxRecDepth 20000 in
set_option maxHeartbeats 1000000 in
theorem l05All_any (P : Nat)
  (A B C D : Option Addr) (n c m d o q p t : Nat) (f g h u : Nat → Int) (E : Option Addr) (r i : Nat) (v : Nat → Int)
  (w : World)
  (hn : n ≤ 4) (hm : m ≤ 4) (ho : o ≤ 4) (hp : p ≤ 4) (hA : Cells w A n (fun i => .int .i64 (f i))) (hB : Cells w B m (fun i => .int .i64 (g i))) (hC : Cells w C o (fun i => .int .i64 (h i))) (hD : Cells w D p (fun i => .int .i64 (u i)))
  (hr : r ≤ 1000) (hi : r ≤ i ∧ i ≤ 1048576) (hE : Cells w E r (fun i => .int .i64 (v i)))
  (h1 : 0 < m) (b : Box4 w P (.slice A n c) (.slice B m d) (.slice C o q) (.slice D p t))
  (L0 : List Int) (hL0 : L0 = allOf (fitsB n m p f g u v r) ((List.range o).map h) m v r 0)
  : Calls Try.prog 65 #[.pointer (some ⟨P, 0, none⟩), .slice E r i] w fun e w' => (∃ y, e = .returned (.tuple #[y, .bool (decide (L0.length ≤ 24))]) ∧ w'.ownsRow w.heap.size 2 1 y L0.length (valsI L0)) ∧ Below w.heap.size w w' := by
  obtain ⟨ii, hii, hzi, hsi, hbi⟩ := info_parts infoI
  have HF := Lib.hid (fun k W h1 h2 h3 h4 h5 hk b => l05Fits_any P A B C D n c m d o q p t f g h u E r i v k W (by omega) (by omega) (by omega) (by omega) h1 h2 h3 h4 (by omega) hi h5 hk b)
  have HA := Lib.hid hA
  have HB := Lib.hid hB
  have HC := Lib.hid hC
  have HD := Lib.hid hD
  have HE := Lib.hid hE
  have X := Lib.hid b
  clear hA hB hC hD hE b
  generalize fitsB n m p f g u v r = fb at *
  have HM := Lib.hid h1
  have HL0 := Lib.hid hL0
  clear hL0 h1
  go_enter Try.func65, Try.ntmps65
  go_wp2_with fail
  go_loopw [6, 7] (fun row j wr => ∃ (k : Nat) (y : Value) (L : List Int), k ≤ r + 4 ∧ y = row ∧ j = .int .i64 k ∧ L.length ≤ 4 * k ∧ Hid (L0 = L ++ allOf fb ((List.range o).map h) m v r k) ∧ Hid (wr.ownsRow w.heap.size 2 1 y L.length (valsI L)) ∧ Hid (Below w.heap.size w wr)) (fun _ j _ => r + 4 - (intOf j).toNat)
  case atStart => exact ⟨0, _, [], by omega, rfl, rfl, by simp, (by unfold Hid; exact HL0.out), (by unfold Hid; simp only [valsI, List.map_nil, List.length_nil]; exact World.ownsRow_lit w #[] (base := w.heap.size) 0 (Nat.le_refl _) (by unfold maxLen; omega) rfl), (by repeat (first | exact Below.refl _ _ | exact Hid.out (by assumption) | refine below_alloc ?_ _ | refine Below.setCell ?_ (by simp <;> omega) _ | refine Below.alloc ?_ (by simp <;> omega) _ | refine Below.drew ?_ | refine below_drewN ?_ _))⟩
  case round =>
    obtain ⟨k, y, L, hk, rfl, rfl, hlen, HL, HO, HB0⟩ := hrel
    by_cases hlt : k < r
    · have d1 : (k : Int) < r := by omega
      have HY0 := Lib.hid (fun e => allOf_yes (b := fb) (h := (List.range o).map h) (v := v) HM.out hlt e)
      have HN0 := Lib.hid (fun e => allOf_no (b := fb) (h := (List.range o).map h) (v := v) HM.out hlt e)
      have HQ := Lib.hid (HF.out k wr (HA.out.below HB0.out) (HB.out.below HB0.out) (HC.out.below HB0.out) (HD.out.below HB0.out) (HE.out.below HB0.out) hlt (X.out.below HB0.out))
      have HX := Lib.hid (HE.out k hlt)
      clear HF
      generalize hfk : fb k = rb at *
      go_wp2_with fail
      refine HQ.out.mono ?_
      rintro e w1 ⟨rfl, j, hw1⟩
      have HO1 := Lib.hid (show w1.ownsRow w.heap.size 2 1 y L.length (valsI L) by rw [hw1]; exact own_drewN HO.out)
      have HB1 := Lib.hid (show Below w.heap.size w w1 by rw [hw1]; exact below_drewN HB0.out j)
      clear hw1 HO HB0
      cases rb
      · have HN := Lib.hid (HN0.out rfl)
        clear HY0 HN0
        obtain ⟨x, rfl, hx⟩ := HX.out
        have y1 := (HB1.out.cell (World.block_lt_of_cell? _ _ hx)).trans hx
        clear hx
        go_wp2_with (first
          | (at_builtin
             refine wpList_append_cells _ rfl _ _ 22 rfl w.heap.size 2 ii (.int .i64 0) 1 8 Try.underlying22 hii hzi hsi hbi rfl (by decide) y _ _ rfl (HO1.out.alloc _)
               (some ⟨w1.heap.size, 0, none⟩) 1 1 (fun _ => .int .i64 (v k)) rfl (cells_lit1 rfl) (fun j _ => rfl) (by unfold maxLen; omega) (by omega) (by have := HB1.out.size; simp <;> omega) ?_
             intro v1 w2 hown hgrow hwhere
             have HO2 := Lib.hid (show w2.ownsRow w.heap.size 2 1 v1 (L ++ [v k]).length (valsI (L ++ [v k])) by rw [List.length_append, ← valsI_add]; exact hown)
             have HB2 := Lib.hid (show Below w.heap.size w w2 from Below.grown (Below.alloc HB1.out HB1.out.size _) hgrow (by have := HB1.out.size; simp; omega) (fun j hj => (HO1.out.lt j hj).1))
             clear hown hgrow hwhere)
          | go_in)
        exact ⟨⟨k + 1, v1, L ++ [v k], by omega, rfl, by simp, by simp; omega, (by unfold Hid; rw [HL.out, HN.out]; simp), HO2.out, HB2.out⟩, by simp [intOf]; omega⟩
      · have HY := Lib.hid (HY0.out rfl)
        clear HY0 HN0
        have X1 := Lib.hid (X.out.below HB1.out)
        obtain ⟨b0, b1, b2, b3⟩ := X1.out
        have hm1 := HM.out
        go_wp2_with (first
          | (at_builtin
             refine wpList_append_cells _ rfl _ _ 22 rfl w.heap.size 2 ii (.int .i64 0) 1 8 Try.underlying22 hii hzi hsi hbi rfl (by decide) y _ _ rfl HO1.out
               C o q (fun i => .int .i64 (h i)) rfl (by rw [Nat.mul_one]; exact HC.out.below HB1.out) (fun j _ => rfl) (by unfold maxLen; omega) (by omega) HB1.out.size ?_
             intro v1 w2 hown hgrow hwhere
             have HO2 := Lib.hid (show w2.ownsRow w.heap.size 2 1 v1 (L ++ (List.range o).map h).length (valsI (L ++ (List.range o).map h)) by rw [List.length_append, List.length_map, List.length_range, ← valsI_cells]; exact hown)
             have HB2 := Lib.hid (show Below w.heap.size w w2 from Below.grown HB1.out hgrow HB1.out.size (fun j hj => (HO1.out.lt j hj).1))
             have X2 := Lib.hid (X.out.below HB2.out)
             obtain ⟨b0', b1', b2', b3'⟩ := X2.out
             clear hown hgrow hwhere)
          | go_in)
        exact ⟨⟨k + m, v1, L ++ (List.range o).map h, by omega, rfl, by simp, by simp; omega, (by unfold Hid; rw [HL.out, HY.out]; simp), HO2.out, HB2.out⟩, by simp [intOf]; omega⟩
    · have d1 : ¬ (k : Int) < r := by omega
      have e0 : L0 = L := by rw [HL.out, allOf_end hlt, List.append_nil]
      subst e0
      obtain ⟨A', c', g', rfl, hg', ho'⟩ := own_valsI HO.out rfl
      clear hg' ho'
      go_wp2_with fail
      refine bodyPost_ret (v := .tuple #[.slice A' L0.length c', .bool (decide (L0.length ≤ 24))]) ?r1 rfl ?r2
      case r1 =>
        simp [results, Try.results65, go_sem]
        omega
      case r2 => exact ⟨⟨_, rfl, HO.out⟩, HB0.out⟩
end Go.Proofs.Ytehemjcpdblonaa
