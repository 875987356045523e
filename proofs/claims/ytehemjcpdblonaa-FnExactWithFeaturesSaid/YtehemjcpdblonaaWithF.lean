/- Letters with features: both sides. -/
import Derived.Test.YtehemjcpdblonaaFeat
import Derived.Test.YtehemjcpdblonaaIRes
set_option linter.unusedVariables false
namespace Go.Proofs.Ytehemjcpdblonaa
open Go.RowKit

/-- A letter's features are asked for. -/
def selB (x y z : Int) : Bool := (bits BinOp.and IntKind.i64 z x == x) && (bits BinOp.and IntKind.i64 z y == 0)
/-- The letters among the first k. -/
def selL (x y : Int) (f : Nat → Int) : Nat → List Int
  | 0 => []
  | k + 1 => selL x y f k ++ (if selB x y (f k) then [(k : Int)] else [])
theorem selL_len (x y : Int) (f : Nat → Int) (k : Nat) : (selL x y f k).length ≤ k := by
  induction k with
  | zero => exact Nat.le_refl _
  | succ k ih => unfold selL; split <;> simp <;> omega
theorem selL_yes {x y : Int} {f : Nat → Int} {k : Nat} (h : selB x y (f k) = true) : selL x y f (k + 1) = selL x y f k ++ [(k : Int)] := by
  show selL x y f k ++ _ = _
  rw [if_pos h]
theorem selL_no {x y : Int} {f : Nat → Int} {k : Nat} (h : selB x y (f k) = false) : selL x y f (k + 1) = selL x y f k := by
  show selL x y f k ++ _ = _
  rw [if_neg (by simp [h]), List.append_nil]
/-- Whether letters can be asked for. -/
def withOk (f : Nat → Int) (n : Nat) (x y : Int) : Bool := featsB f n && (featP x && featP y)
def withN (f : Nat → Int) (n : Nat) (x y : Int) : Nat := ifN (withOk f n x y) (selL x y f n).length
theorem withN_le (f : Nat → Int) (n : Nat) (x y : Int) : withN f n x y ≤ n := Nat.le_trans (ifN_le _ _) (selL_len _ _ _ _)
def withF (f : Nat → Int) (n : Nat) (x y : Int) (i : Nat) : Int := (selL x y f n).getD i 0
def twoI (x y : Int) (i : Nat) : Int := if i = 0 then x else y
theorem cells_twoI {w : World} {B : Nat} {x y : Int} {t : TypeId} (h : w.heap.size = B) : Cells (w.alloc (.cells #[.int .i64 x, .int .i64 y] t)) (some ⟨B, 0, none⟩) 2 (fun i => .int .i64 (twoI x y i)) := fun k hk => by
  subst h
  refine ⟨_, rfl, ?_⟩
  rw [add0]
  rcases (show k = 0 ∨ k = 1 by omega) with rfl | rfl <;> simp [go_sem, twoI]
theorem allP_twoI (x y : Int) : allP featP (twoI x y) 2 = (featP x && featP y) := by
  show ((List.range 2).all fun i => featP (twoI x y i)) = _
  simp [List.range_succ, twoI]


set_option maxRecDepth 20000 in
set_option maxHeartbeats 1000000 in
theorem implWithFeatures_any (A : Option Addr) (n c : Nat) (f : Nat → Int) (x y : Int) (w : World) (hn : n ≤ 1048576) (hc : n ≤ c ∧ c ≤ 1048576) (h : Cells w A n (fun i => .int .i64 (f i))) :
    Calls Try.prog 44 #[.slice A n c, .int .i64 x, .int .i64 y] w fun e w' => IRes w w' e (withOk f n x y) (withN f n x y) (withF f n x y) := by
  obtain ⟨ii, hii, hzi, hsi, hbi⟩ := info_parts infoI
  have HA := Lib.hid (areFeatures_any A n c f w hn hc h)
  have HF := Lib.hid (fun (W : World) (h1 : W.heap.size = w.heap.size) => haveFeatures_any (some ⟨w.heap.size, 0, none⟩) 2 2 (twoI x y) (W.alloc (.cells #[.int .i64 x, .int .i64 y] 2)) (by omega) (cells_twoI h1))
  have HT := Lib.hid (allP_twoI x y)
  have H := Lib.hid h
  clear h
  unfold withN
  have HU := Lib.hid (show withOk f n x y = (featsB f n && (featP x && featP y)) from rfl)
  generalize withOk f n x y = r at *
  generalize featsB f n = r1 at *
  generalize (featP x && featP y) = r2 at *
  cases r1
  · obtain rfl : r = false := by rw [HU.out]; rfl
    go_enter Try.func44, Try.ntmps44
    go_wp2_with fail
    refine HA.out.mono ?_
    rintro e w' ⟨rfl, rfl⟩
    go_wp2_with fail
    refine bodyPost_ret (v := .tuple #[.slice none 0 0, .bool false]) ?r1 rfl ?r2
    case r1 => simp [results, Try.results44, go_sem]
    case r2 => exact IRes.none_ rfl (Below.refl _ _)
  cases r2
  · obtain rfl : r = false := by rw [HU.out]; rfl
    go_enter Try.func44, Try.ntmps44
    go_wp2_with fail
    refine HA.out.mono ?_
    rintro e w' ⟨rfl, rfl⟩
    go_wp2_with fail
    refine (HF.out _ rfl).mono ?_
    rw [HT.out]
    rintro e w' ⟨rfl, rfl⟩
    go_wp2_with fail
    refine bodyPost_ret (v := .tuple #[.slice none 0 0, .bool false]) ?r1 rfl ?r2
    case r1 => simp [results, Try.results44, go_sem]
    case r2 => exact IRes.none_ rfl (by repeat (first | exact Below.refl _ _ | exact Hid.out (by assumption) | refine below_alloc ?_ _ | refine Below.setCell ?_ (by simp <;> omega) _ | refine Below.alloc ?_ (by simp <;> omega) _ | refine Below.drew ?_ | refine below_drewN ?_ _))
  obtain rfl : r = true := by rw [HU.out]; rfl
  go_enter Try.func44, Try.ntmps44
  go_wp2_with fail
  refine HA.out.mono ?_
  rintro e w' ⟨rfl, rfl⟩
  go_wp2_with fail
  refine (HF.out _ rfl).mono ?_
  rw [HT.out]
  rintro e w' ⟨rfl, rfl⟩
  go_wp2_with fail
  go_loopw [8, 9, 10, 24] (fun row _ _ i wr => ∃ (k : Nat) (v : Value), k ≤ n ∧ v = row ∧ i = .int .i64 k ∧ Hid (wr.ownsRow w.heap.size 2 1 v (selL x y f k).length (valsI (selL x y f k))) ∧ Hid (Below w.heap.size w wr)) (fun _ _ _ i _ => n - (intOf i).toNat)
  case atStart => exact ⟨0, _, Nat.zero_le _, rfl, rfl, (by unfold Hid; simp only [selL, valsI, List.map_nil, List.length_nil]; simpa using World.ownsRow_lit (w.alloc (.cells #[.int .i64 x, .int .i64 y] 2)) #[] (base := w.heap.size) 0 (by simp) (by unfold maxLen; omega) rfl), (by repeat (first | exact Below.refl _ _ | exact Hid.out (by assumption) | refine below_alloc ?_ _ | refine Below.setCell ?_ (by simp <;> omega) _ | refine Below.alloc ?_ (by simp <;> omega) _ | refine Below.drew ?_ | refine below_drewN ?_ _))⟩
  case round =>
    obtain ⟨k, v, hk, rfl, rfl, HO, HB⟩ := hrel
    by_cases hlt : k < n
    · have d1 : (k : Int) < n := by omega
      obtain ⟨a, rfl, hx0⟩ := H.out k hlt
      have hx : wr.cell? (a.add k) = some (.int .i64 (f k)) := (HB.out.cell (World.block_lt_of_cell? _ _ hx0)).trans hx0
      have HL := Lib.hid (Nat.lt_of_le_of_lt (selL_len x y f k) hlt)
      have HY0 := Lib.hid (fun e => selL_yes (x := x) (y := y) (f := f) (k := k) e)
      have HN0 := Lib.hid (fun e => selL_no (x := x) (y := y) (f := f) (k := k) e)
      have HD := Lib.hid (show selB x y (f k) = ((bits BinOp.and IntKind.i64 (f k) x == x) && (bits BinOp.and IntKind.i64 (f k) y == 0)) from rfl)
      clear hx0
      generalize selB x y (f k) = rs at *
      generalize f k = z at *
      cases b1 : (bits BinOp.and IntKind.i64 z x == x)
      · have HE := Lib.hid (HN0.out (by rw [HD.out, b1]; rfl))
        clear HY0 HN0 HD
        go_wp2_with fail
        exact ⟨⟨k + 1, v, by omega, rfl, by simp, by rw [HE.out]; exact HO.out, HB.out⟩, by simp [intOf]; omega⟩
      · cases b2 : (bits BinOp.and IntKind.i64 z y == 0)
        · have HE := Lib.hid (HN0.out (by rw [HD.out, b1, b2]; rfl))
          clear HY0 HN0 HD
          go_wp2_with fail
          exact ⟨⟨k + 1, v, by omega, rfl, by simp, by rw [HE.out]; exact HO.out, HB.out⟩, by simp [intOf]; omega⟩
        · have HY := Lib.hid (HY0.out (by rw [HD.out, b1, b2]; rfl))
          clear HY0 HN0 HD
          go_wp2_with
            (first
              | (at_builtin
                 refine wpList_append_cells _ rfl _ _ 22 rfl w.heap.size 2 ii (.int .i64 0) 1 8 Try.underlying22 hii hzi hsi hbi rfl (by decide) v _ _ rfl (HO.out.alloc _)
                   (some ⟨wr.heap.size, 0, none⟩) 1 1 (fun _ => .int .i64 k) rfl (cells_lit1 rfl) (fun j _ => rfl) (by unfold maxLen; have := HL.out; omega) (by have := HL.out; omega) (by have := HB.out.size; simp <;> omega) ?_
                 intro v1 w2 hown hgrow hwhere
                 have HO2 := Lib.hid (show w2.ownsRow w.heap.size 2 1 v1 (selL x y f (k + 1)).length (valsI (selL x y f (k + 1))) by rw [HY.out, List.length_append, ← valsI_add]; exact hown)
                 have HB2 := Lib.hid (show Below w.heap.size w w2 from Below.grown (Below.alloc HB.out HB.out.size _) hgrow (by have := HB.out.size; simp; omega) (fun j hj => (HO.out.lt j hj).1))
                 clear hown hgrow hwhere)
              | go_in)
          exact ⟨⟨k + 1, v1, by omega, rfl, by simp, HO2.out, HB2.out⟩, by simp [intOf]; omega⟩
    · have d1 : ¬ (k : Int) < n := by omega
      have e : k = n := by omega
      subst e
      obtain ⟨A1, c1, rfl, hr⟩ := IRes.row HO.out rfl HB.out
      have HR := Lib.hid hr
      clear hr
      go_wp2_with fail
      refine bodyPost_ret (v := .tuple #[.slice A1 (selL x y f k).length c1, .bool true]) ?r1 rfl ?r2
      case r1 => simp [results, Try.results44, go_sem]
      case r2 => exact HR.out
set_option maxRecDepth 20000 in
set_option maxHeartbeats 1000000 in
theorem specWithFeatures_any (A : Option Addr) (n c : Nat) (f : Nat → Int) (x y : Int) (w : World) (hn : n ≤ 1048576) (hc : n ≤ c ∧ c ≤ 1048576) (h : Cells w A n (fun i => .int .i64 (f i))) :
    Calls Try.prog 43 #[.slice A n c, .int .i64 x, .int .i64 y] w fun e w' => IRes w w' e (withOk f n x y) (withN f n x y) (withF f n x y) := by
  obtain ⟨ii, hii, hzi, hsi, hbi⟩ := info_parts infoI
  have HA := Lib.hid (l05Features_any A n c f w hn hc h)
  have HX := Lib.hid (fun W => l00In_any x 0 255 W)
  have HYY := Lib.hid (fun W => l00In_any y 0 255 W)
  have H := Lib.hid h
  clear h
  unfold withN
  have HU := Lib.hid (show withOk f n x y = (featsB f n && (inB x 0 255 && inB y 0 255)) from rfl)
  generalize withOk f n x y = r at *
  generalize featsB f n = r1 at *
  generalize inB x 0 255 = r2 at *
  generalize inB y 0 255 = r3 at *
  cases r1
  · obtain rfl : r = false := by rw [HU.out]; rfl
    go_enter Try.func43, Try.ntmps43
    go_wp2_with fail
    refine HA.out.mono ?_
    rintro e w' ⟨rfl, q, rfl⟩
    go_wp2_with fail
    refine bodyPost_ret (v := .tuple #[.slice none 0 0, .bool false]) ?r1 rfl ?r2
    case r1 => simp [results, Try.results43, go_sem]
    case r2 => exact IRes.none_ rfl (by repeat (first | exact Below.refl _ _ | exact Hid.out (by assumption) | refine below_alloc ?_ _ | refine Below.setCell ?_ (by simp <;> omega) _ | refine Below.alloc ?_ (by simp <;> omega) _ | refine Below.drew ?_ | refine below_drewN ?_ _))
  cases r2
  · obtain rfl : r = false := by rw [HU.out]; rfl
    go_enter Try.func43, Try.ntmps43
    go_wp2_with fail
    refine HA.out.mono ?_
    rintro e w' ⟨rfl, q, rfl⟩
    go_wp2_with fail
    refine (HX.out _).mono ?_
    rintro e w' ⟨rfl, rfl⟩
    go_wp2_with fail
    refine bodyPost_ret (v := .tuple #[.slice none 0 0, .bool false]) ?r1 rfl ?r2
    case r1 => simp [results, Try.results43, go_sem]
    case r2 => exact IRes.none_ rfl (by repeat (first | exact Below.refl _ _ | exact Hid.out (by assumption) | refine below_alloc ?_ _ | refine Below.setCell ?_ (by simp <;> omega) _ | refine Below.alloc ?_ (by simp <;> omega) _ | refine Below.drew ?_ | refine below_drewN ?_ _))
  cases r3
  · obtain rfl : r = false := by rw [HU.out]; rfl
    go_enter Try.func43, Try.ntmps43
    go_wp2_with fail
    refine HA.out.mono ?_
    rintro e w' ⟨rfl, q, rfl⟩
    go_wp2_with fail
    refine (HX.out _).mono ?_
    rintro e w' ⟨rfl, rfl⟩
    go_wp2_with fail
    refine (HYY.out _).mono ?_
    rintro e w' ⟨rfl, rfl⟩
    go_wp2_with fail
    refine bodyPost_ret (v := .tuple #[.slice none 0 0, .bool false]) ?r1 rfl ?r2
    case r1 => simp [results, Try.results43, go_sem]
    case r2 => exact IRes.none_ rfl (by repeat (first | exact Below.refl _ _ | exact Hid.out (by assumption) | refine below_alloc ?_ _ | refine Below.setCell ?_ (by simp <;> omega) _ | refine Below.alloc ?_ (by simp <;> omega) _ | refine Below.drew ?_ | refine below_drewN ?_ _))
  obtain rfl : r = true := by rw [HU.out]; rfl
  go_enter Try.func43, Try.ntmps43
  go_wp2_with fail
  refine HA.out.mono ?_
  rintro e w' ⟨rfl, q, rfl⟩
  go_wp2_with fail
  refine (HX.out _).mono ?_
  rintro e w' ⟨rfl, rfl⟩
  go_wp2_with fail
  refine (HYY.out _).mono ?_
  rintro e w' ⟨rfl, rfl⟩
  go_wp2_with fail
  go_loopw [8, 9, 26] (fun row _ i wr => ∃ (k : Nat) (v : Value), k ≤ n ∧ v = row ∧ i = .int .i64 k ∧ Hid (wr.ownsRow w.heap.size 2 1 v (selL x y f k).length (valsI (selL x y f k))) ∧ Hid (Below w.heap.size w wr)) (fun _ _ i _ => n - (intOf i).toNat)
  case atStart => exact ⟨0, _, Nat.zero_le _, rfl, rfl, (by unfold Hid; simp only [selL, valsI, List.map_nil, List.length_nil]; simpa using World.ownsRow_lit (w.drewN q) #[] (base := w.heap.size) 0 (by simp) (by unfold maxLen; omega) rfl), (by repeat (first | exact Below.refl _ _ | exact Hid.out (by assumption) | refine below_alloc ?_ _ | refine Below.setCell ?_ (by simp <;> omega) _ | refine Below.alloc ?_ (by simp <;> omega) _ | refine Below.drew ?_ | refine below_drewN ?_ _))⟩
  case round =>
    obtain ⟨k, v, hk, rfl, rfl, HO, HB⟩ := hrel
    by_cases hlt : k < n
    · have d1 : (k : Int) < n := by omega
      obtain ⟨a, rfl, hx0⟩ := H.out k hlt
      have hx : wr.cell? (a.add k) = some (.int .i64 (f k)) := (HB.out.cell (World.block_lt_of_cell? _ _ hx0)).trans hx0
      have HL := Lib.hid (Nat.lt_of_le_of_lt (selL_len x y f k) hlt)
      have HY0 := Lib.hid (fun e => selL_yes (x := x) (y := y) (f := f) (k := k) e)
      have HN0 := Lib.hid (fun e => selL_no (x := x) (y := y) (f := f) (k := k) e)
      have HD := Lib.hid (show selB x y (f k) = ((bits BinOp.and IntKind.i64 (f k) x == x) && (bits BinOp.and IntKind.i64 (f k) y == 0)) from rfl)
      clear hx0
      generalize selB x y (f k) = rs at *
      generalize f k = z at *
      cases b1 : (bits BinOp.and IntKind.i64 z x == x)
      · have HE := Lib.hid (HN0.out (by rw [HD.out, b1]; rfl))
        clear HY0 HN0 HD
        go_wp2_with fail
        exact ⟨⟨k + 1, v, by omega, rfl, by simp, by rw [HE.out]; exact HO.out, HB.out⟩, by simp [intOf]; omega⟩
      · cases b2 : (bits BinOp.and IntKind.i64 z y == 0)
        · have HE := Lib.hid (HN0.out (by rw [HD.out, b1, b2]; rfl))
          clear HY0 HN0 HD
          go_wp2_with fail
          exact ⟨⟨k + 1, v, by omega, rfl, by simp, by rw [HE.out]; exact HO.out, HB.out⟩, by simp [intOf]; omega⟩
        · have HY := Lib.hid (HY0.out (by rw [HD.out, b1, b2]; rfl))
          clear HY0 HN0 HD
          go_wp2_with
            (first
              | (at_builtin
                 refine wpList_append_cells _ rfl _ _ 22 rfl w.heap.size 2 ii (.int .i64 0) 1 8 Try.underlying22 hii hzi hsi hbi rfl (by decide) v _ _ rfl (HO.out.alloc _)
                   (some ⟨wr.heap.size, 0, none⟩) 1 1 (fun _ => .int .i64 k) rfl (cells_lit1 rfl) (fun j _ => rfl) (by unfold maxLen; have := HL.out; omega) (by have := HL.out; omega) (by have := HB.out.size; simp <;> omega) ?_
                 intro v1 w2 hown hgrow hwhere
                 have HO2 := Lib.hid (show w2.ownsRow w.heap.size 2 1 v1 (selL x y f (k + 1)).length (valsI (selL x y f (k + 1))) by rw [HY.out, List.length_append, ← valsI_add]; exact hown)
                 have HB2 := Lib.hid (show Below w.heap.size w w2 from Below.grown (Below.alloc HB.out HB.out.size _) hgrow (by have := HB.out.size; simp; omega) (fun j hj => (HO.out.lt j hj).1))
                 clear hown hgrow hwhere)
              | go_in)
          exact ⟨⟨k + 1, v1, by omega, rfl, by simp, HO2.out, HB2.out⟩, by simp [intOf]; omega⟩
    · have d1 : ¬ (k : Int) < n := by omega
      have e : k = n := by omega
      subst e
      obtain ⟨A1, c1, rfl, hr⟩ := IRes.row HO.out rfl HB.out
      have HR := Lib.hid hr
      clear hr
      go_wp2_with fail
      refine bodyPost_ret (v := .tuple #[.slice A1 (selL x y f k).length c1, .bool true]) ?r1 rfl ?r2
      case r1 => simp [results, Try.results43, go_sem]
      case r2 => exact HR.out
end Go.Proofs.Ytehemjcpdblonaa
