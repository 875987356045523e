/- Letters with other features: both sides. -/
import Derived.Test.YtehemjcpdblonaaFeat
import Derived.Test.YtehemjcpdblonaaLongW
import Derived.Test.YtehemjcpdblonaaIRes
set_option linter.unusedVariables false
namespace Go.Proofs.Ytehemjcpdblonaa
open Go.RowKit

/-- The last place of a number among the first k, t if there is none. -/
def lastI (f : Nat → Int) (goal t : Int) : Nat → Int
  | 0 => t
  | k + 1 => if f k = goal then (k : Int) else lastI f goal t k
theorem lastI_yes {f : Nat → Int} {goal t : Int} {k : Nat} (h : f k = goal) : lastI f goal t (k + 1) = k := if_pos h
theorem lastI_no {f : Nat → Int} {goal t : Int} {k : Nat} (h : ¬ f k = goal) : lastI f goal t (k + 1) = lastI f goal t k := if_neg h
theorem lastI_none {f : Nat → Int} {goal t : Int} (n : Nat) (h : ∀ j, j < n → ¬ f j = goal) : lastI f goal t n = t := by
  induction n with
  | zero => rfl
  | succ n ih => rw [lastI_no (h n (by omega))]; exact ih fun j hj => h j (by omega)
theorem lastI_at {f : Nat → Int} {goal t : Int} {k : Nat} (e : f k = goal) (n : Nat) (hk : k < n) (h : ∀ j, k < j → j < n → ¬ f j = goal) : lastI f goal t n = k := by
  induction n with
  | zero => omega
  | succ n ih =>
    by_cases q : k = n
    · subst q; exact lastI_yes e
    · rw [lastI_no (h n (by omega) (by omega))]; exact ih (by omega) fun j h1 h2 => h j h1 (by omega)
theorem lastI_idx {f : Nat → Int} {goal t i : Int} {n : Nat} (ap : apartB f n = true) (h : IdxAt f n goal i) : lastI f goal t n = if 0 ≤ i then i else t := by
  rcases h with ⟨k, rfl, hk, e, _⟩ | ⟨rfl, h⟩
  · rw [if_pos (by omega)]
    refine lastI_at e n hk fun j h1 h2 e2 => ?_
    have h3 := apartB_iff.1 ap j h2
    rw [hasF_iff.2 ⟨k, h1, by rw [e, e2]⟩] at h3
    cases h3
  · rw [if_neg (by omega)]
    exact lastI_none n h
/-- What becomes of a letter. -/
def shiftV (f : Nat → Int) (n : Nat) (x y z t : Int) : Int :=
  if (bits BinOp.and IntKind.i64 (f t.toNat) x == x) = true then lastI f (bits BinOp.andNot IntKind.i64 (bits BinOp.or IntKind.i64 (f t.toNat) y) z) t n else t
def shiftOk (f : Nat → Int) (n : Nat) (g : Nat → Int) (m : Nat) (x y z : Int) : Bool := featsB f n && (lettersB g m n 24 && (featP x && (featP y && featP z)))
def shiftF (f : Nat → Int) (n : Nat) (g : Nat → Int) (x y z : Int) (i : Nat) : Int := shiftV f n x y z (g i)
def shiftN (f : Nat → Int) (n : Nat) (g : Nat → Int) (m : Nat) (x y z : Int) : Nat := ifN (shiftOk f n g m x y z) m
theorem shiftN_le (f : Nat → Int) (n : Nat) (g : Nat → Int) (m : Nat) (x y z : Int) : shiftN f n g m x y z ≤ m := ifN_le _ _
theorem shiftOk_facts {f : Nat → Int} {n : Nat} {g : Nat → Int} {m : Nat} (h1 : featsB f n = true) (h2 : lettersB g m n 24 = true) : apartB f n = true ∧ ∀ i, i < m → 0 ≤ g i ∧ g i < n := by
  unfold featsB at h1
  unfold lettersB at h2
  simp only [Bool.and_eq_true] at h1 h2
  refine ⟨h1.2.2, fun i hi => ?_⟩
  have := inB_iff.1 (allP_iff.1 h2.2.2 i hi)
  omega
def threeI (x y z : Int) (i : Nat) : Int := if i = 0 then x else if i = 1 then y else z
theorem cells_threeI {w : World} {B : Nat} {x y z : Int} {t : TypeId} (h : w.heap.size = B) : Cells (w.alloc (.cells #[.int .i64 x, .int .i64 y, .int .i64 z] t)) (some ⟨B, 0, none⟩) 3 (fun i => .int .i64 (threeI x y z i)) := fun k hk => by
  subst h
  refine ⟨_, rfl, ?_⟩
  rw [add0]
  rcases (show k = 0 ∨ k = 1 ∨ k = 2 by omega) with rfl | rfl | rfl <;> simp [go_sem, threeI]
theorem allP_threeI (x y z : Int) : allP featP (threeI x y z) 3 = (featP x && (featP y && featP z)) := by
  show ((List.range 3).all fun i => featP (threeI x y z i)) = _
  simp [List.range_succ, threeI]
def partI (F g : Nat → Int) (k i : Nat) : Value := .int .i64 (if i < k then F i else g i)
theorem partI_step (F g : Nat → Int) (k : Nat) : (fun i => if i = k then Value.int .i64 (F k) else partI F g k i) = partI F g (k + 1) := by
  funext i
  unfold partI
  by_cases h : i = k
  · subst h; rw [if_pos rfl, if_pos (by omega)]
  · rw [if_neg h]
    by_cases h2 : i < k
    · rw [if_pos h2, if_pos (by omega)]
    · rw [if_neg h2, if_neg (by omega)]
theorem partI_same {F g : Nat → Int} {k : Nat} (h : F k = g k) : partI F g k = partI F g (k + 1) := by
  funext i
  unfold partI
  by_cases e : i = k
  · subst e; rw [if_neg (by omega), if_pos (by omega), h]
  · by_cases h2 : i < k
    · rw [if_pos h2, if_pos (by omega)]
    · rw [if_neg h2, if_neg (by omega)]

set_option maxRecDepth 20000 in
set_option maxHeartbeats 1000000 in
theorem implShiftFeatures_any
  (A : Option Addr) (n c : Nat) (f : Nat → Int) (B : Option Addr) (m d : Nat) (g : Nat → Int) (x y z : Int) (w : World) (hn : n ≤ 1048576) (hc : n ≤ c ∧ c ≤ 1048576) (hA : Cells w A n (fun i => .int .i64 (f i))) (hm : m ≤ 1048576) (hd : m ≤ d ∧ d ≤ 1048576) (hB : Cells w B m (fun i => .int .i64 (g i)))
  : Calls Try.prog 46 #[.slice A n c, .slice B m d, .int .i64 x, .int .i64 y, .int .i64 z] w fun e w' => IRes w w' e (shiftOk f n g m x y z) (shiftN f n g m x y z) (shiftF f n g x y z) := by
  have HA := Lib.hid (areFeatures_any A n c f w hn hc hA)
  have HF := Lib.hid (fun (W : World) (h1 : W.heap.size = w.heap.size) => haveFeatures_any (some ⟨w.heap.size, 0, none⟩) 3 3 (threeI x y z) (W.alloc (.cells #[.int .i64 x, .int .i64 y, .int .i64 z] 2)) (by omega) (cells_threeI h1))
  have HT := Lib.hid (allP_threeI x y z)
  have HL := Lib.hid (fun W k => implIsLongWord_any B m d g n W hm k)
  have HC := Lib.hid (fun W (h1 : Cells W B m (fun i => .int .i64 (g i))) => cloneI_any B m d g W hm (by rw [Nat.mul_one]; exact h1))
  have HI := Lib.hid (fun v W k => slicesIndexI_any A n c f v W hn k)
  have HAA := Lib.hid hA
  have HB := Lib.hid hB
  have HS := Lib.hid (fun h1 h2 => shiftOk_facts (f := f) (n := n) (g := g) (m := m) h1 h2)
  have HU := Lib.hid (show shiftOk f n g m x y z = (featsB f n && (lettersB g m n 24 && (featP x && (featP y && featP z)))) from rfl)
  clear hA hB
  unfold shiftN
  generalize shiftOk f n g m x y z = r at *
  generalize featsB f n = r1 at *
  generalize lettersB g m n 24 = r2 at *
  generalize (featP x && (featP y && featP z)) = r3 at *
  cases r1
  · obtain rfl : r = false := by rw [HU.out]; rfl
    go_enter Try.func46, Try.ntmps46
    go_wp2_with fail
    refine HA.out.mono ?_
    rintro e w' ⟨rfl, rfl⟩
    go_wp2_with fail
    refine bodyPost_ret (v := .tuple #[.slice none 0 0, .bool false]) ?r1 rfl ?r2
    case r1 => simp [results, Try.results46, go_sem]
    case r2 => exact IRes.none_ rfl (by repeat (first | exact Below.refl _ _ | exact Hid.out (by assumption) | refine below_alloc ?_ _ | refine Below.setCell ?_ (by simp <;> omega) _ | refine Below.alloc ?_ (by simp <;> omega) _ | refine Below.drew ?_ | refine below_drewN ?_ _))
  cases r3
  · obtain rfl : r = false := by rw [HU.out]; simp
    go_enter Try.func46, Try.ntmps46
    go_wp2_with fail
    refine HA.out.mono ?_
    rintro e w' ⟨rfl, rfl⟩
    go_wp2_with fail
    refine (HF.out _ rfl).mono ?_
    rw [HT.out]
    rintro e w' ⟨rfl, rfl⟩
    go_wp2_with fail
    refine bodyPost_ret (v := .tuple #[.slice none 0 0, .bool false]) ?r1 rfl ?r2
    case r1 => simp [results, Try.results46, go_sem]
    case r2 => exact IRes.none_ rfl (by repeat (first | exact Below.refl _ _ | exact Hid.out (by assumption) | refine below_alloc ?_ _ | refine Below.setCell ?_ (by simp <;> omega) _ | refine Below.alloc ?_ (by simp <;> omega) _ | refine Below.drew ?_ | refine below_drewN ?_ _))
  cases r2
  · obtain rfl : r = false := by rw [HU.out]; simp
    go_enter Try.func46, Try.ntmps46
    go_wp2_with fail
    refine HA.out.mono ?_
    rintro e w' ⟨rfl, rfl⟩
    go_wp2_with fail
    refine (HF.out _ rfl).mono ?_
    rw [HT.out]
    rintro e w' ⟨rfl, rfl⟩
    go_wp2_with fail
    refine (HL.out _ (HB.out.below (by repeat (first | exact Below.refl _ _ | exact Hid.out (by assumption) | refine below_alloc ?_ _ | refine Below.setCell ?_ (by simp <;> omega) _ | refine Below.alloc ?_ (by simp <;> omega) _ | refine Below.drew ?_ | refine below_drewN ?_ _)))).mono ?_
    rintro e w1 ⟨rfl, hb⟩
    have N1 := Lib.hid (show Below w.heap.size w w1 from Below.trans (by repeat (first | exact Below.refl _ _ | exact Hid.out (by assumption) | refine below_alloc ?_ _ | refine Below.setCell ?_ (by simp <;> omega) _ | refine Below.alloc ?_ (by simp <;> omega) _ | refine Below.drew ?_ | refine below_drewN ?_ _)) (hb.mono (by simp <;> omega)))
    clear hb
    go_wp2_with fail
    refine bodyPost_ret (v := .tuple #[.slice none 0 0, .bool false]) ?r1 rfl ?r2
    case r1 => simp [results, Try.results46, go_sem]
    case r2 => exact IRes.none_ rfl (by repeat (first | exact Below.refl _ _ | exact Hid.out (by assumption) | refine below_alloc ?_ _ | refine Below.setCell ?_ (by simp <;> omega) _ | refine Below.alloc ?_ (by simp <;> omega) _ | refine Below.drew ?_ | refine below_drewN ?_ _))
  obtain rfl : r = true := by rw [HU.out]; rfl
  obtain ⟨ap0, gl0⟩ := HS.out rfl rfl
  have AP := Lib.hid ap0
  have GL := Lib.hid gl0
  clear ap0 gl0 HS
  go_enter Try.func46, Try.ntmps46
  go_wp2_with fail
  refine HA.out.mono ?_
  rintro e w' ⟨rfl, rfl⟩
  go_wp2_with fail
  refine (HF.out _ rfl).mono ?_
  rw [HT.out]
  rintro e w' ⟨rfl, rfl⟩
  go_wp2_with fail
  refine (HL.out _ (HB.out.below (by repeat (first | exact Below.refl _ _ | exact Hid.out (by assumption) | refine below_alloc ?_ _ | refine Below.setCell ?_ (by simp <;> omega) _ | refine Below.alloc ?_ (by simp <;> omega) _ | refine Below.drew ?_ | refine below_drewN ?_ _)))).mono ?_
  rintro e w1 ⟨rfl, hb⟩
  have N1 := Lib.hid (show Below w.heap.size w w1 from Below.trans (by repeat (first | exact Below.refl _ _ | exact Hid.out (by assumption) | refine below_alloc ?_ _ | refine Below.setCell ?_ (by simp <;> omega) _ | refine Below.alloc ?_ (by simp <;> omega) _ | refine Below.drew ?_ | refine below_drewN ?_ _)) (hb.mono (by simp <;> omega)))
  clear hb
  go_wp2_with fail
  refine (HC.out _ (HB.out.below (by repeat (first | exact Below.refl _ _ | exact Hid.out (by assumption) | refine below_alloc ?_ _ | refine Below.setCell ?_ (by simp <;> omega) _ | refine Below.alloc ?_ (by simp <;> omega) _ | refine Below.drew ?_ | refine below_drewN ?_ _)))).mono ?_
  rintro e w2 ⟨T, d2, gg, rfl, hg, ho, hb⟩
  have N2 := Lib.hid (show Below w.heap.size w w2 from Below.trans (by repeat (first | exact Below.refl _ _ | exact Hid.out (by assumption) | refine below_alloc ?_ _ | refine Below.setCell ?_ (by simp <;> omega) _ | refine Below.alloc ?_ (by simp <;> omega) _ | refine Below.drew ?_ | refine below_drewN ?_ _)) (hb.mono N1.out.size))
  have HG := Lib.hid (show w.heap.size ≤ gg from Nat.le_trans N1.out.size hg)
  have HO := Lib.hid (show OwnC w2 gg T m (partI (shiftF f n g x y z) g 0) from (by rw [Nat.mul_one] at ho; exact ho))
  clear hg ho hb
  go_wp2_with fail
  go_loopw [13, 14, 15, 16, 39] (fun _ _ _ _ i wr => ∃ k : Nat, k ≤ m ∧ i = .int .i64 k ∧ Hid (Below w.heap.size w wr) ∧ Hid (OwnC wr gg T m (partI (shiftF f n g x y z) g k))) (fun _ _ _ _ i _ => m - (intOf i).toNat)
  case atStart => exact ⟨0, Nat.zero_le _, rfl, N2.out, HO.out⟩
  case round =>
    obtain ⟨k, hk, rfl, HB0, HP⟩ := hrel
    by_cases hlt : k < m
    · have d1 : (k : Int) < m := by omega
      obtain ⟨b, rfl, hx0⟩ := HB.out k hlt
      have hx : wr.cell? (b.add k) = some (.int .i64 (g k)) := (HB0.out.cell (World.block_lt_of_cell? _ _ hx0)).trans hx0
      obtain ⟨g0, g1⟩ := GL.out k hlt
      obtain ⟨tn, et⟩ := Int.eq_ofNat_of_zero_le g0
      have ht : tn < n := by omega
      have d3 : (tn : Int) < n := by omega
      obtain ⟨a, rfl, hy0⟩ := HAA.out tn ht
      have hy : wr.cell? (a.add tn) = some (.int .i64 (f tn)) := (HB0.out.cell (World.block_lt_of_cell? _ _ hy0)).trans hy0
      have HFk := Lib.hid (show shiftF f n g x y z k = if (bits BinOp.and IntKind.i64 (f tn) x == x) = true then lastI f (bits BinOp.andNot IntKind.i64 (bits BinOp.or IntKind.i64 (f tn) y) z) tn n else tn by unfold shiftF shiftV; rw [et, Int.toNat_natCast])
      have HGk := Lib.hid et
      rw [et] at hx
      obtain ⟨q, rfl, hqg, hfr, hce⟩ := HP.out k hlt
      have HQ := Lib.hid hqg
      have HST := Lib.hid (fun v => HP.out.set rfl hlt v)
      clear hx0 hy0 g0 g1 et GL hqg
      generalize partI (shiftF f n g x y z) g k k = old at *
      generalize f tn = own at *
      generalize eg : bits BinOp.andNot IntKind.i64 (bits BinOp.or IntKind.i64 own y) z = goal at *
      have HEG := Lib.hid eg
      clear eg
      go_wp2_with fail
      simp only [HEG.out]
      refine (HI.out goal _ (HAA.out.below HB0.out)).mono ?_
      rintro e w' ⟨⟨i, rfl, hi⟩, rfl⟩
      have HL2 := Lib.hid (lastI_idx (t := (tn : Int)) AP.out hi)
      have HJ := Lib.hid hi
      clear hi
      cases b1 : (bits BinOp.and IntKind.i64 own x == x)
      · have HE := Lib.hid (partI_same (F := shiftF f n g x y z) (g := g) (k := k) (by rw [HFk.out, HGk.out, b1]; rfl))
        go_wp2_with fail
        exact ⟨⟨k + 1, by omega, by simp, HB0.out, by rw [← HE.out]; exact HP.out⟩, by simp [intOf]; omega⟩
      · by_cases hi0 : 0 ≤ i
        · have HE := Lib.hid (show shiftF f n g x y z k = i by rw [HFk.out, b1, if_pos rfl, HL2.out, if_pos hi0])
          have hd0 : decide (0 ≤ i) = true := by simpa using hi0
          go_wp2_with fail
          refine ⟨⟨k + 1, by omega, by simp, HB0.out.setCell (by rw [block_add, HQ.out]; exact HG.out) _, ?_⟩, by simp [intOf]; omega⟩
          rw [← partI_step, HE.out]
          exact HST.out _
        · have HE := Lib.hid (partI_same (F := shiftF f n g x y z) (g := g) (k := k) (by rw [HFk.out, HGk.out, b1, if_pos rfl, HL2.out, if_neg hi0]))
          have hd0 : decide (0 ≤ i) = false := by simpa using hi0
          go_wp2_with fail
          exact ⟨⟨k + 1, by omega, by simp, HB0.out, by rw [← HE.out]; exact HP.out⟩, by simp [intOf]; omega⟩
    · have d1 : ¬ (k : Int) < m := by omega
      have e : k = m := by omega
      subst e
      have HR := Lib.hid (show IRes w wr (.returned (.tuple #[.slice T k d2, .bool true])) true (ifN true k) (shiftF f n g x y z) from ⟨T, d2, gg, rfl, HG.out, trivial, HP.out.congr fun i hi => by unfold partI; rw [if_pos (show i < k from hi)], HB0.out⟩)
      go_wp2_with fail
      refine bodyPost_ret (v := .tuple #[.slice T k d2, .bool true]) ?r1 rfl ?r2
      case r1 => simp [results, Try.results46, go_sem]
      case r2 => exact HR.out
set_option maxRecDepth 20000 in
set_option maxHeartbeats 2000000 in
theorem specShiftFeatures_any
  (A : Option Addr) (n c : Nat) (f : Nat → Int) (B : Option Addr) (m d : Nat) (g : Nat → Int) (x y z : Int) (w : World) (hn : n ≤ 1048576) (hc : n ≤ c ∧ c ≤ 1048576) (hA : Cells w A n (fun i => .int .i64 (f i))) (hm : m ≤ 1048576) (hd : m ≤ d ∧ d ≤ 1048576) (hB : Cells w B m (fun i => .int .i64 (g i)))
  : Calls Try.prog 45 #[.slice A n c, .slice B m d, .int .i64 x, .int .i64 y, .int .i64 z] w fun e w' => IRes w w' e (shiftOk f n g m x y z) (shiftN f n g m x y z) (shiftF f n g x y z) := by
  obtain ⟨ii, hii, hzi, hsi, hbi⟩ := info_parts infoI
  have HA := Lib.hid (l05Features_any A n c f w hn hc hA)
  have HL := Lib.hid (fun j => l05Long_any B m d g n (w.drewN j) hm hB)
  have HX := Lib.hid (fun W => l00In_any x 0 255 W)
  have HYY := Lib.hid (fun W => l00In_any y 0 255 W)
  have HZ := Lib.hid (fun W => l00In_any z 0 255 W)
  have HAA := Lib.hid hA
  have HB := Lib.hid hB
  have HS := Lib.hid (fun h1 h2 => shiftOk_facts (f := f) (n := n) (g := g) (m := m) h1 h2)
  have HU := Lib.hid (show shiftOk f n g m x y z = (featsB f n && (lettersB g m n 24 && (inB x 0 255 && (inB y 0 255 && inB z 0 255)))) from rfl)
  clear hA hB
  unfold shiftN
  generalize shiftOk f n g m x y z = r at *
  generalize featsB f n = r1 at *
  generalize lettersB g m n 24 = r2 at *
  generalize inB x 0 255 = rx at *
  generalize inB y 0 255 = ry at *
  generalize inB z 0 255 = rz at *
  cases r1
  · obtain rfl : r = false := by rw [HU.out]; rfl
    go_enter Try.func45, Try.ntmps45
    go_wp2_with fail
    refine HA.out.mono ?_
    rintro e w' ⟨rfl, q0, rfl⟩
    go_wp2_with fail
    refine bodyPost_ret (v := .tuple #[.slice none 0 0, .bool false]) ?r1 rfl ?r2
    case r1 => simp [results, Try.results45, go_sem]
    case r2 => exact IRes.none_ rfl (by repeat (first | exact Below.refl _ _ | exact Hid.out (by assumption) | refine below_alloc ?_ _ | refine Below.setCell ?_ (by simp <;> omega) _ | refine Below.alloc ?_ (by simp <;> omega) _ | refine Below.drew ?_ | refine below_drewN ?_ _))
  cases r2
  · obtain rfl : r = false := by rw [HU.out]; rfl
    go_enter Try.func45, Try.ntmps45
    go_wp2_with fail
    refine HA.out.mono ?_
    rintro e w' ⟨rfl, q0, rfl⟩
    go_wp2_with fail
    refine (HL.out _).mono ?_
    rintro e w' ⟨rfl, rfl⟩
    go_wp2_with fail
    refine bodyPost_ret (v := .tuple #[.slice none 0 0, .bool false]) ?r1 rfl ?r2
    case r1 => simp [results, Try.results45, go_sem]
    case r2 => exact IRes.none_ rfl (by repeat (first | exact Below.refl _ _ | exact Hid.out (by assumption) | refine below_alloc ?_ _ | refine Below.setCell ?_ (by simp <;> omega) _ | refine Below.alloc ?_ (by simp <;> omega) _ | refine Below.drew ?_ | refine below_drewN ?_ _))
  cases rx
  · obtain rfl : r = false := by rw [HU.out]; rfl
    go_enter Try.func45, Try.ntmps45
    go_wp2_with fail
    refine HA.out.mono ?_
    rintro e w' ⟨rfl, q0, rfl⟩
    go_wp2_with fail
    refine (HL.out _).mono ?_
    rintro e w' ⟨rfl, rfl⟩
    go_wp2_with fail
    refine (HX.out _).mono ?_
    rintro e w' ⟨rfl, rfl⟩
    go_wp2_with fail
    refine bodyPost_ret (v := .tuple #[.slice none 0 0, .bool false]) ?r1 rfl ?r2
    case r1 => simp [results, Try.results45, go_sem]
    case r2 => exact IRes.none_ rfl (by repeat (first | exact Below.refl _ _ | exact Hid.out (by assumption) | refine below_alloc ?_ _ | refine Below.setCell ?_ (by simp <;> omega) _ | refine Below.alloc ?_ (by simp <;> omega) _ | refine Below.drew ?_ | refine below_drewN ?_ _))
  cases ry
  · obtain rfl : r = false := by rw [HU.out]; rfl
    go_enter Try.func45, Try.ntmps45
    go_wp2_with fail
    refine HA.out.mono ?_
    rintro e w' ⟨rfl, q0, rfl⟩
    go_wp2_with fail
    refine (HL.out _).mono ?_
    rintro e w' ⟨rfl, rfl⟩
    go_wp2_with fail
    refine (HX.out _).mono ?_
    rintro e w' ⟨rfl, rfl⟩
    go_wp2_with fail
    refine (HYY.out _).mono ?_
    rintro e w' ⟨rfl, rfl⟩
    go_wp2_with fail
    refine bodyPost_ret (v := .tuple #[.slice none 0 0, .bool false]) ?r1 rfl ?r2
    case r1 => simp [results, Try.results45, go_sem]
    case r2 => exact IRes.none_ rfl (by repeat (first | exact Below.refl _ _ | exact Hid.out (by assumption) | refine below_alloc ?_ _ | refine Below.setCell ?_ (by simp <;> omega) _ | refine Below.alloc ?_ (by simp <;> omega) _ | refine Below.drew ?_ | refine below_drewN ?_ _))
  cases rz
  · obtain rfl : r = false := by rw [HU.out]; rfl
    go_enter Try.func45, Try.ntmps45
    go_wp2_with fail
    refine HA.out.mono ?_
    rintro e w' ⟨rfl, q0, rfl⟩
    go_wp2_with fail
    refine (HL.out _).mono ?_
    rintro e w' ⟨rfl, rfl⟩
    go_wp2_with fail
    refine (HX.out _).mono ?_
    rintro e w' ⟨rfl, rfl⟩
    go_wp2_with fail
    refine (HYY.out _).mono ?_
    rintro e w' ⟨rfl, rfl⟩
    go_wp2_with fail
    refine (HZ.out _).mono ?_
    rintro e w' ⟨rfl, rfl⟩
    go_wp2_with fail
    refine bodyPost_ret (v := .tuple #[.slice none 0 0, .bool false]) ?r1 rfl ?r2
    case r1 => simp [results, Try.results45, go_sem]
    case r2 => exact IRes.none_ rfl (by repeat (first | exact Below.refl _ _ | exact Hid.out (by assumption) | refine below_alloc ?_ _ | refine Below.setCell ?_ (by simp <;> omega) _ | refine Below.alloc ?_ (by simp <;> omega) _ | refine Below.drew ?_ | refine below_drewN ?_ _))
  obtain rfl : r = true := by rw [HU.out]; rfl
  obtain ⟨ap0, gl0⟩ := HS.out rfl rfl
  have GL := Lib.hid gl0
  clear ap0 gl0 HS
  go_enter Try.func45, Try.ntmps45
  go_wp2_with fail
  refine HA.out.mono ?_
  rintro e w' ⟨rfl, q0, rfl⟩
  go_wp2_with fail
  refine (HL.out _).mono ?_
  rintro e w' ⟨rfl, rfl⟩
  go_wp2_with fail
  refine (HX.out _).mono ?_
  rintro e w' ⟨rfl, rfl⟩
  go_wp2_with fail
  refine (HYY.out _).mono ?_
  rintro e w' ⟨rfl, rfl⟩
  go_wp2_with fail
  refine (HZ.out _).mono ?_
  rintro e w' ⟨rfl, rfl⟩
  go_wp2_with fail
  go_loopw [12, 13, 14, 15, 16, 17, 46] (fun row _ _ _ _ _ i wr => ∃ (k : Nat) (v : Value), k ≤ m ∧ v = row ∧ i = .int .i64 k ∧ Hid (wr.ownsRow w.heap.size 2 1 v k (valsI ((List.range k).map (shiftF f n g x y z)))) ∧ Hid (Below w.heap.size w wr)) (fun _ _ _ _ _ _ i _ => m - (intOf i).toNat)
  case atStart => exact ⟨0, _, Nat.zero_le _, rfl, rfl, (by unfold Hid; simp only [List.range_zero, List.map_nil, valsI]; simpa using World.ownsRow_lit (w.drewN q0) #[] (base := w.heap.size) 0 (by simp) (by unfold maxLen; omega) rfl), (by repeat (first | exact Below.refl _ _ | exact Hid.out (by assumption) | refine below_alloc ?_ _ | refine Below.setCell ?_ (by simp <;> omega) _ | refine Below.alloc ?_ (by simp <;> omega) _ | refine Below.drew ?_ | refine below_drewN ?_ _))⟩
  case round =>
    obtain ⟨k, v, hk, rfl, rfl, HO, HB0⟩ := hrel
    by_cases hlt : k < m
    · have d1 : (k : Int) < m := by omega
      obtain ⟨b, rfl, hx0⟩ := HB.out k hlt
      have hx : wr.cell? (b.add k) = some (.int .i64 (g k)) := (HB0.out.cell (World.block_lt_of_cell? _ _ hx0)).trans hx0
      obtain ⟨g0, g1⟩ := GL.out k hlt
      obtain ⟨tn, et⟩ := Int.eq_ofNat_of_zero_le g0
      have ht : tn < n := by omega
      have d3 : (tn : Int) < n := by omega
      obtain ⟨a, rfl, hy0⟩ := HAA.out tn ht
      have hy : wr.cell? (a.add tn) = some (.int .i64 (f tn)) := (HB0.out.cell (World.block_lt_of_cell? _ _ hy0)).trans hy0
      have HFk := Lib.hid (show shiftF f n g x y z k = if (bits BinOp.and IntKind.i64 (f tn) x == x) = true then lastI f (bits BinOp.andNot IntKind.i64 (bits BinOp.or IntKind.i64 (f tn) y) z) tn n else tn by unfold shiftF shiftV; rw [et, Int.toNat_natCast])
      rw [et] at hx
      clear hx0 hy0 g0 g1 et GL
      generalize f tn = own at *
      generalize eg : bits BinOp.andNot IntKind.i64 (bits BinOp.or IntKind.i64 own y) z = goal at *
      have HEG := Lib.hid eg
      clear eg
      cases b1 : (bits BinOp.and IntKind.i64 own x == x)
      · have HY := Lib.hid (show shiftF f n g x y z k = tn by rw [HFk.out, b1]; rfl)
        go_wp2_with
          (first
            | (at_builtin
               refine wpList_append_cells _ rfl _ _ 22 rfl w.heap.size 2 ii (.int .i64 0) 1 8 Try.underlying22 hii hzi hsi hbi rfl (by decide) v _ _ rfl (HO.out.alloc _)
                 (some ⟨wr.heap.size, 0, none⟩) 1 1 (fun _ => .int .i64 tn) rfl (cells_lit1 rfl) (fun j _ => rfl) (by unfold maxLen; omega) (by omega) (by have := HB0.out.size; simp <;> omega) ?_
               intro v1 w2 hown hgrow hwhere
               have HO2 := Lib.hid (show w2.ownsRow w.heap.size 2 1 v1 (k + 1) (valsI ((List.range (k + 1)).map (shiftF f n g x y z))) by rw [List.range_succ, List.map_append, List.map_cons, List.map_nil, HY.out, ← valsI_add]; exact hown)
               have HB2 := Lib.hid (show Below w.heap.size w w2 from Below.grown (Below.alloc HB0.out HB0.out.size _) hgrow (by have := HB0.out.size; simp; omega) (fun j hj => (HO.out.lt j hj).1))
               clear hown hgrow hwhere)
            | go_in)
        exact ⟨⟨k + 1, v1, by omega, rfl, by simp, HO2.out, HB2.out⟩, by simp [intOf]; omega⟩
      · have HY0 := Lib.hid (show shiftF f n g x y z k = lastI f goal tn n by rw [HFk.out, b1]; rfl)
        clear HFk
        go_wp2_with fail
        simp only [HEG.out]
        go_loopw [14, 17, 69] (fun t _ i w0 => ∃ j : Nat, j ≤ n ∧ w0 = wr ∧ i = .int .i64 j ∧ t = .int .i64 (lastI f goal tn j)) (fun _ _ i _ => n - (intOf i).toNat)
        case atStart => exact ⟨0, Nat.zero_le _, rfl, rfl, rfl⟩
        case round =>
          obtain ⟨j, hj, rfl, rfl, rfl⟩ := hrel
          by_cases hlt2 : j < n
          · have d2 : (j : Int) < n := by omega
            obtain ⟨a2, ha2, hz0⟩ := HAA.out j hlt2
            cases ha2
            have hz : wr.cell? (a.add j) = some (.int .i64 (f j)) := (HB0.out.cell (World.block_lt_of_cell? _ _ hz0)).trans hz0
            have HLy := Lib.hid (fun e => lastI_yes (f := f) (goal := goal) (t := (tn : Int)) (k := j) e)
            have HLn := Lib.hid (fun e => lastI_no (f := f) (goal := goal) (t := (tn : Int)) (k := j) e)
            clear hz0
            generalize lastI f goal tn j = t0 at *
            generalize f j = u at *
            by_cases e : u = goal
            · have HE := Lib.hid (HLy.out e)
              have b2 : (u == goal) = true := by simpa using e
              clear e HLy HLn
              go_wp2_with fail
              exact ⟨⟨j + 1, by omega, by trivial, by simp, by rw [HE.out]⟩, by simp [intOf]; omega⟩
            · have HE := Lib.hid (HLn.out e)
              have b2 : (u == goal) = false := by simpa using e
              clear e HLy HLn
              go_wp2_with fail
              exact ⟨⟨j + 1, by omega, by trivial, by simp, by rw [HE.out]⟩, by simp [intOf]; omega⟩
          · have d2 : ¬ (j : Int) < n := by omega
            obtain rfl : n = j := by omega
            have HY := HY0
            clear HY0
            generalize lastI f goal tn n = tl at *
            go_wp2_with
              (first
                | (at_builtin
                   refine wpList_append_cells _ rfl _ _ 22 rfl w.heap.size 2 ii (.int .i64 0) 1 8 Try.underlying22 hii hzi hsi hbi rfl (by decide) v _ _ rfl (HO.out.alloc _)
                     (some ⟨wr.heap.size, 0, none⟩) 1 1 (fun _ => .int .i64 tl) rfl (cells_lit1 rfl) (fun j _ => rfl) (by unfold maxLen; omega) (by omega) (by have := HB0.out.size; simp <;> omega) ?_
                   intro v1 w2 hown hgrow hwhere
                   have HO2 := Lib.hid (show w2.ownsRow w.heap.size 2 1 v1 (k + 1) (valsI ((List.range (k + 1)).map (shiftF f n g x y z))) by rw [List.range_succ, List.map_append, List.map_cons, List.map_nil, HY.out, ← valsI_add]; exact hown)
                   have HB2 := Lib.hid (show Below w.heap.size w w2 from Below.grown (Below.alloc HB0.out HB0.out.size _) hgrow (by have := HB0.out.size; simp; omega) (fun j hj => (HO.out.lt j hj).1))
                   clear hown hgrow hwhere)
                | go_in)
            exact ⟨⟨k + 1, v1, by omega, rfl, by simp, HO2.out, HB2.out⟩, by simp [intOf]; omega⟩
    · have d1 : ¬ (k : Int) < m := by omega
      have e : k = m := by omega
      subst e
      obtain ⟨A1, c1, g1, rfl, hg, ho⟩ := own_valsI HO.out (by simp)
      have HR := Lib.hid (show IRes w wr (.returned (.tuple #[.slice A1 k c1, .bool true])) true (ifN true k) (shiftF f n g x y z) from ⟨A1, c1, g1, rfl, hg, trivial, ho.congr fun i hi => by simp [List.getD, hi], HB0.out⟩)
      clear hg ho
      go_wp2_with fail
      refine bodyPost_ret (v := .tuple #[.slice A1 k c1, .bool true]) ?r1 rfl ?r2
      case r1 => simp [results, Try.results45, go_sem]
      case r2 => exact HR.out
end Go.Proofs.Ytehemjcpdblonaa
