/- The tight zone: the program's. -/
import Derived.Test.YtfpombhhnojjhaaZonV
import Derived.Test.YtfpombhhnojjhaaZoneR
import Derived.Test.YtfpombhhnojjhaaClone
import Derived.Test.YtfpombhhnojjhaaStep
import Derived.Deep.RegionHeldLaw
import Derived.Deep.RegionHeld3
import Derived.Laws.Small
set_option linter.unusedVariables false
set_option linter.unusedSimpArgs false
namespace Go.Proofs.Ytfpombhhnojjhaa
open Go.RowKit
theorem sumOfBounds_any (x y : Int) (w : World) : Calls Try.prog 123 #[.int .i64 x, .int .i64 y] w fun e w' => e = .returned (.int .i64 (addB x y)) ∧ w = w' := by
  have HU := Lib.hid (addB.eq_1 x y)
  generalize addB x y = r at *
  by_cases h1 : x = 1000000000
  · have b1 : (x == 1000000000) = true := by rw [h1]; rfl
    have HZ := Lib.hid (show r = 1000000000 by rw [HU.out, if_pos (.inl h1)])
    clear h1 HU
    go_enter Try.func123, Try.ntmps123
    go_wp2_with fail
    go_ret
    exact ⟨ret_int HZ.out.symm, rfl⟩
  have b1 : (x == 1000000000) = false := beq_eq_false_iff_ne.2 h1
  by_cases h2 : y = 1000000000
  · have b2 : (y == 1000000000) = true := by rw [h2]; rfl
    have HZ := Lib.hid (show r = 1000000000 by rw [HU.out, if_pos (.inr h2)])
    clear h1 h2 HU
    go_enter Try.func123, Try.ntmps123
    go_wp2_with fail
    go_ret
    exact ⟨ret_int HZ.out.symm, rfl⟩
  have b2 : (y == 1000000000) = false := beq_eq_false_iff_ne.2 h2
  have HZ := Lib.hid (show r = IntKind.i64.wrap (x + y) by rw [HU.out, if_neg (by rintro (h | h); exact h1 h; exact h2 h)])
  clear h1 h2 HU
  generalize hq : IntKind.i64.wrap (x + y) = q at *
  go_enter Try.func123, Try.ntmps123
  go_wp2_with fail
  go_ret
  exact ⟨ret_int HZ.out.symm, rfl⟩
set_option maxRecDepth 20000 in
set_option maxHeartbeats 16000000 in
theorem implTightZone_any (s : Int) (A : Option Addr) (n c : Nat) (f : Nat → Int) (w : World) (hn : n ≤ 1048576) (hA : Cells w A n (fun i => .int .i64 (f i))) :
    Calls Try.prog 60 #[.agg #[.int .i64 s, .slice A n c]] w fun e w' => ZoneRes w w' e (tightOk s n f) (ifI (tightOk s n f) s) (ifN (tightOk s n f) n) (tightG s f) := by
  have HA := Lib.hid hA
  have HV := Lib.hid (fun W h1 => implValidZone_any s A n c f W hn h1)
  have HT := Lib.hid (fun W (h1 : Cells W A n (fun i => .int .i64 (f i))) => cloneI_any A n c f W hn (by rw [Nat.mul_one]; exact h1))
  have HOK := Lib.hid (fun (h : validZ s n f = true) => show 1 ≤ s ∧ s ≤ 4 ∧ n = (s + 1).toNat * (s + 1).toNat from by
    unfold validZ at h
    simp only [Bool.and_eq_true] at h
    exact ⟨(inB_iff.1 h.1).1, (inB_iff.1 h.1).2, (okZ_iff.1 h.2).1⟩)
  have HV2 := Lib.hid (fun T c2 W h1 => implValidZone_any s T n c2 (tightG s f) W hn h1)
  have HU := Lib.hid (show tightOk s n f = (validZ s n f && validZ s n (tightG s f)) from rfl)
  clear hA
  generalize tightOk s n f = v at *
  cases hv : validZ s n f
  · rw [hv] at HV HU
    clear hv HOK
    obtain rfl : v = false := by rw [HU.out]; rfl
    go_enter Try.func60, Try.ntmps60
    go_wp2_with fail
    refine (HV.out _ (HA.out.below (by repeat (first | with_reducible exact Below.refl _ _ | exact Hid.out (by with_reducible assumption) | refine Below.setCell ?_ (by simp <;> omega) _ | refine below_alloc ?_ _ | refine Below.alloc ?_ (by simp <;> omega) _ | refine Below.drew ?_ | refine below_drewN ?_ _ | exact Below.refl _ _)))).mono ?_
    rintro e w1 ⟨rfl, hb1⟩
    have N1 := Lib.hid (show Below w.heap.size w w1 from Below.trans (by repeat (first | with_reducible exact Below.refl _ _ | exact Hid.out (by with_reducible assumption) | refine Below.setCell ?_ (by simp <;> omega) _ | refine below_alloc ?_ _ | refine Below.alloc ?_ (by simp <;> omega) _ | refine Below.drew ?_ | refine below_drewN ?_ _ | exact Below.refl _ _)) (hb1.mono (by simp <;> omega)))
    have Z1 := Lib.hid (BoxF2.below (show BoxF2 _ (w.heap.size + 1) _ _ from by simpa using (BoxF2.new (w.alloc (.cells #[.int .i64 s, .slice A n c] 36)) 36 (.int .i64 0) (.slice none 0 0))) hb1)
    have hz1 : w.heap.size + 2 ≤ w1.heap.size := by have := hb1.size; simp at this; omega
    clear hb1
    obtain ⟨k0, k1⟩ := Z1.out.box
    have hfz := Z1.out.fz
    go_wp2_with fail
    refine bodyPost_ret (v := .tuple #[.agg #[.int .i64 0, .slice none 0 0], .bool false]) ?r1 rfl ?r2
    case r1 => simp [results, Try.results60, go_sem, k0, k1]
    case r2 => exact ZoneRes.none_ rfl (by repeat (first | with_reducible exact Below.refl _ _ | exact Hid.out (by with_reducible assumption) | refine Below.setCell ?_ (by simp <;> omega) _ | refine below_alloc ?_ _ | refine Below.alloc ?_ (by simp <;> omega) _ | refine Below.drew ?_ | refine below_drewN ?_ _ | exact Below.refl _ _))
  obtain ⟨s1, s2, hsq⟩ := HOK.out hv
  rw [hv] at HV HU
  clear hv HOK
  obtain ⟨m, rfl⟩ : ∃ m : Nat, s = (m : Int) := ⟨s.toNat, by omega⟩
  have hm : m ≤ 4 := by omega
  have hmt : ((m : Int) + 1).toNat = m + 1 := by omega
  have HG := Lib.hid (show tightG (m : Int) f = tightF (m + 1) f (m + 1) by unfold tightG; rw [hmt])
  rw [hmt] at hsq
  have hw1 : IntKind.i64.wrap ((m : Int) + 1) = ((m + 1 : Nat) : Int) := by rw [IntKind.wrap_i64]; omega
  have HM1 := Lib.hid (show ∀ k : Nat, k < m + 1 → (k : Int) < ((m + 1 : Nat) : Int) from fun k h => by omega)
  have HM2 := Lib.hid (show ∀ k : Nat, ¬ k < m + 1 → ¬ (k : Int) < ((m + 1 : Nat) : Int) from fun k h => by omega)
  have HQ := Lib.hid (show ∀ i k : Nat, i < m + 1 → k < m + 1 → i * (m + 1) + k < n ∧ n ≤ 25 from fun i k hi hk => by
    have h1 := at_lt (M := m + 1) hi hk
    have h2 : (m + 1) * (m + 1) ≤ 5 * 5 := Nat.mul_le_mul (by omega) (by omega)
    omega)
  have hn0 : 0 < n := by have := (HQ.out 0 0 (by omega) (by omega)).1; omega
  have HAT := Lib.hid (fun T c2 i k W (hi : i < m + 1) (hk : k < m + 1) => atZ_any m T n c2 i k W hm (by omega) (by omega))
  have HB := Lib.hid (fun T c2 i k v W (hi : i < m + 1) (hk : k < m + 1) h => boundZ_any m T n c2 i k v W hm (by omega) (by omega) (HQ.out i k hi hk).1 (HQ.out i k hi hk).2 h)
  clear hsq hmt s1 s2
  generalize hsm : ((m + 1 : Nat) : Int) = sm at *
  generalize hmi : (m : Int) = mi at *
  clear hsm hmi
  go_enter Try.func60, Try.ntmps60
  go_wp2_with fail
  refine (HV.out _ (HA.out.below (by repeat (first | with_reducible exact Below.refl _ _ | exact Hid.out (by with_reducible assumption) | refine Below.setCell ?_ (by simp <;> omega) _ | refine below_alloc ?_ _ | refine Below.alloc ?_ (by simp <;> omega) _ | refine Below.drew ?_ | refine below_drewN ?_ _ | exact Below.refl _ _)))).mono ?_
  rintro e w1 ⟨rfl, hb1⟩
  have N1 := Lib.hid (show Below w.heap.size w w1 from Below.trans (by repeat (first | with_reducible exact Below.refl _ _ | exact Hid.out (by with_reducible assumption) | refine Below.setCell ?_ (by simp <;> omega) _ | refine below_alloc ?_ _ | refine Below.alloc ?_ (by simp <;> omega) _ | refine Below.drew ?_ | refine below_drewN ?_ _ | exact Below.refl _ _)) (hb1.mono (by simp <;> omega)))
  have hz1 : w.heap.size + 2 ≤ w1.heap.size := by have := hb1.size; simp at this; omega
  have X1 := Lib.hid (BoxF2.below (BoxF2.alloc (BoxF2.new w 36 (.int .i64 mi) (.slice A n c)) _) hb1)
  have Z1 := Lib.hid (BoxF2.below (show BoxF2 _ (w.heap.size + 1) _ _ from by simpa using (BoxF2.new (w.alloc (.cells #[.int .i64 mi, .slice A n c] 36)) 36 (.int .i64 0) (.slice none 0 0))) hb1)
  clear hb1
  obtain ⟨x0, x1⟩ := X1.out.box
  have hfz := X1.out.fz
  go_wp2_with fail
  refine (HT.out _ (HA.out.below (by repeat (first | with_reducible exact Below.refl _ _ | exact Hid.out (by with_reducible assumption) | refine Below.setCell ?_ (by simp <;> omega) _ | refine below_alloc ?_ _ | refine Below.alloc ?_ (by simp <;> omega) _ | refine Below.drew ?_ | refine below_drewN ?_ _ | exact Below.refl _ _)))).mono ?_
  rintro e u1 ⟨T1, c1, g1, rfl, hg1, ho1, hb⟩
  have N3 := Lib.hid (Below.trans N1.out (hb.mono N1.out.size))
  have X3 := Lib.hid (X1.out.below hb)
  have Z3 := Lib.hid (Z1.out.below hb)
  have O1 := Lib.hid (show OwnC u1 g1 T1 n (fun i => .int .i64 (f i)) by rw [Nat.mul_one] at ho1; exact ho1)
  have GG := Lib.hid (show w1.heap.size ≤ g1 from hg1)
  have hzu : w1.heap.size ≤ u1.heap.size := hb.size
  clear hb hg1 ho1 x0 x1 hfz
  obtain ⟨x0, x1⟩ := X3.out.box
  have hfz := X3.out.fz
  obtain ⟨y, hTy, hyg, -, -⟩ := O1.out 0 hn0
  have HTY := Lib.hid hTy
  have HYG := Lib.hid hyg
  clear hTy hyg
  go_wp2_with fail
  have hgw : g1 ≠ w.heap.size := by have := GG.out; omega
  have hgz : g1 ≠ w.heap.size + 1 := by have := GG.out; omega
  have hgs : w.heap.size ≤ g1 := by have := GG.out; omega
  go_loopw [18] (fun v wr => ∃ j : Nat, j ≤ m + 1 ∧ v = .int .i64 j ∧ Hid (Below w.heap.size w wr) ∧ Hid (BoxF2 wr w.heap.size (.int .i64 mi) (.slice T1 n c1)) ∧ Hid (BoxF2 wr (w.heap.size + 1) (.int .i64 0) (.slice none 0 0)) ∧ Hid (w.heap.size + 2 ≤ wr.heap.size) ∧ Hid (OwnC wr g1 T1 n (fun p => .int .i64 (tightF (m + 1) f j p)))) (fun v _ => (m + 1) - (intOf v).toNat)
  case atStart => exact ⟨0, Nat.zero_le _, rfl, (by repeat (first | with_reducible exact Below.refl _ _ | exact Hid.out (by with_reducible assumption) | refine Below.setCell ?_ (by simp <;> omega) _ | refine below_alloc ?_ _ | refine Below.alloc ?_ (by simp <;> omega) _ | refine Below.drew ?_ | refine below_drewN ?_ _ | exact Below.refl _ _)), X3.out.set1, Z3.out.far (by omega), by unfold Hid; simp; omega, own_setP' O1.out (fun _ => hgw)⟩
  case round =>
    obtain ⟨j, hj, rfl, HB0, CX, CZ, HS0, HP⟩ := hrel
    clear x0 x1 hfz
    obtain ⟨x0, x1⟩ := CX.out.box
    by_cases hjt : j < m + 1
    rotate_left
    · have d1 := HM2.out j hjt
      obtain rfl : j = m + 1 := by omega
      have HPc := Lib.hid (show Cells wr T1 n (fun i => .int .i64 (tightG mi f i)) by rw [HG.out]; exact HP.out.cells)
      go_wp2_with fail
      refine (HV2.out T1 c1 _ (HPc.out.below (by repeat (first | with_reducible exact Below.refl _ _ | exact Hid.out (by with_reducible assumption) | refine Below.setCell ?_ (by simp <;> omega) _ | refine below_alloc ?_ _ | refine Below.alloc ?_ (by simp <;> omega) _ | refine Below.drew ?_ | refine below_drewN ?_ _ | exact Below.refl _ _)))).mono ?_
      rintro e w5 ⟨rfl, hb⟩
      have N5 := Lib.hid (show Below w.heap.size w w5 from Below.trans (by repeat (first | with_reducible exact Below.refl _ _ | exact Hid.out (by with_reducible assumption) | refine Below.setCell ?_ (by simp <;> omega) _ | refine below_alloc ?_ _ | refine Below.alloc ?_ (by simp <;> omega) _ | refine Below.drew ?_ | refine below_drewN ?_ _ | exact Below.refl _ _)) (hb.mono HB0.out.size))
      have Z5 := Lib.hid (CZ.out.below hb)
      have X5 := Lib.hid (CX.out.below hb)
      have O5 := Lib.hid (show OwnC w5 g1 T1 n (fun i => .int .i64 (tightG mi f i)) by rw [HG.out]; exact HP.out.below hb)
      clear hb x0 x1
      obtain ⟨x0, x1⟩ := X5.out.box
      obtain ⟨k0, k1⟩ := Z5.out.box
      have hfz := Z5.out.fz
      generalize validZ mi n (tightG mi f) = v2 at *
      cases v2
      · obtain rfl : v = false := by rw [HU.out]; rfl
        go_wp2_with fail
        refine bodyPost_ret (v := .tuple #[.agg #[.int .i64 0, .slice none 0 0], .bool false]) ?r1 rfl ?r2
        case r1 => simp [results, Try.results60, go_sem, k0, k1]
        case r2 => exact ZoneRes.none_ rfl (by repeat (first | with_reducible exact Below.refl _ _ | exact Hid.out (by with_reducible assumption) | refine Below.setCell ?_ (by simp <;> omega) _ | refine below_alloc ?_ _ | refine Below.alloc ?_ (by simp <;> omega) _ | refine Below.drew ?_ | refine below_drewN ?_ _ | exact Below.refl _ _))
      · obtain rfl : v = true := by rw [HU.out]; rfl
        go_wp2_with fail
        refine bodyPost_ret (v := .tuple #[.agg #[.int .i64 mi, .slice T1 n c1], .bool true]) ?r1 rfl ?r2
        case r1 => simp [results, Try.results60, go_sem, k0, k1]
        case r2 => exact ⟨T1, c1, g1, rfl, hgs, trivial, own_setP' (own_setP' O5.out (fun _ => hgz)) (fun _ => hgz), (by repeat (first | with_reducible exact Below.refl _ _ | exact Hid.out (by with_reducible assumption) | refine Below.setCell ?_ (by simp <;> omega) _ | refine below_alloc ?_ _ | refine Below.alloc ?_ (by simp <;> omega) _ | refine Below.drew ?_ | refine below_drewN ?_ _ | exact Below.refl _ _))⟩
    have d1 := HM1.out j hjt
    go_wp2_with fail
    go_loopw [24] (fun v wr => ∃ i : Nat, i ≤ m + 1 ∧ v = .int .i64 i ∧ Hid (Below w.heap.size w wr) ∧ Hid (BoxF2 wr w.heap.size (.int .i64 mi) (.slice T1 n c1)) ∧ Hid (BoxF2 wr (w.heap.size + 1) (.int .i64 0) (.slice none 0 0)) ∧ Hid (w.heap.size + 2 ≤ wr.heap.size) ∧ Hid (OwnC wr g1 T1 n (fun p => .int .i64 (midZ (m + 1) j (tightF (m + 1) f j) i p)))) (fun v _ => (m + 1) - (intOf v).toNat)
    case atStart => exact ⟨0, Nat.zero_le _, rfl, HB0, CX, CZ, HS0, HP⟩
    case round =>
      clear HB0 CX CZ HS0 HP x0 x1
      obtain ⟨i, hi, rfl, HB0, CX, CZ, HS0, HP⟩ := hrel
      obtain ⟨x0, x1⟩ := CX.out.box
      by_cases hit : i < m + 1
      rotate_left
      · have d2 := HM2.out i hit
        obtain rfl : i = m + 1 := by omega
        go_wp2_with fail
        exact ⟨⟨j + 1, by omega, by simp, HB0, CX, CZ, HS0, HP⟩, by simp [intOf]; omega⟩
      have d2 := HM1.out i hit
      go_wp2_with fail
      go_loopw [30] (fun v wr => ∃ k : Nat, k ≤ m + 1 ∧ v = .int .i64 k ∧ Hid (Below w.heap.size w wr) ∧ Hid (BoxF2 wr w.heap.size (.int .i64 mi) (.slice T1 n c1)) ∧ Hid (BoxF2 wr (w.heap.size + 1) (.int .i64 0) (.slice none 0 0)) ∧ Hid (w.heap.size + 2 ≤ wr.heap.size) ∧ Hid (OwnC wr g1 T1 n (fun p => .int .i64 (rowZ (m + 1) j i (midZ (m + 1) j (tightF (m + 1) f j) i) k p)))) (fun v _ => (m + 1) - (intOf v).toNat)
      case atStart => exact ⟨0, Nat.zero_le _, rfl, HB0, CX, CZ, HS0, HP⟩
      case round =>
        clear HB0 CX CZ HS0 HP x0 x1
        obtain ⟨k, hk, rfl, HB0, CX, CZ, HS0, HP⟩ := hrel
        obtain ⟨x0, x1⟩ := CX.out.box
        by_cases hkt : k < m + 1
        rotate_left
        · have d3 := HM2.out k hkt
          obtain rfl : k = m + 1 := by omega
          go_wp2_with fail
          exact ⟨⟨i + 1, by omega, by simp, HB0, CX, CZ, HS0, HP⟩, by simp [intOf]; omega⟩
        have d3 := HM1.out k hkt
        generalize hF : rowZ (m + 1) j i (midZ (m + 1) j (tightF (m + 1) f j) i) k = F at *
        have HST := Lib.hid (fun (v : Int) h => rowZ_step (M := m + 1) (j := j) (i := i) (k := k) (f := midZ (m + 1) j (tightF (m + 1) f j) i) (v := v) h)
        rw [hF] at HST
        clear hF
        have hq1 := (HQ.out i k hit hkt).1
        have hq2 := (HQ.out i j hit hjt).1
        have hq3 := (HQ.out j k hjt hkt).1
        have HCell := Lib.hid (fun W (hW : Below wr.heap.size wr W) p (hp : p < n) => (HP.out.below hW).cells p hp)
        have H1 := Lib.hid (fun W hW => HB.out T1 c1 i k _ W hit hkt (HCell.out W hW _ hq1))
        have H2 := Lib.hid (fun W hW => HB.out T1 c1 i j _ W hit hjt (HCell.out W hW _ hq2))
        have H3 := Lib.hid (fun W hW => HB.out T1 c1 j k _ W hjt hkt (HCell.out W hW _ hq3))
        have H0 := Lib.hid (fun W => HAT.out T1 c1 i k W hit hkt)
        have HSET := Lib.hid (fun W (hW : Below wr.heap.size wr W) (v : Int) => OwnC.set (HP.out.below hW) HTY.out hq1 (.int .i64 v))
        have HFZ := Lib.hid (show ∀ W, Below wr.heap.size wr W → W.frozen? (y.add (i * (m + 1) + k)) = false ∧ W.cell? (y.add (i * (m + 1) + k)) = some (.int .i64 (F (i * (m + 1) + k))) from fun W hW => by
          obtain ⟨x, hx, -, h3, h4⟩ := (HP.out.below hW) _ hq1
          rw [HTY.out] at hx
          cases hx
          exact ⟨h3, h4⟩)
        have nb : (y.add (i * (m + 1) + k)).block ≠ w.heap.size := by rw [block_add, HYG.out]; exact hgw
        have nz : (y.add (i * (m + 1) + k)).block ≠ w.heap.size + 1 := by rw [block_add, HYG.out]; exact hgz
        have hge : w.heap.size ≤ (y.add (i * (m + 1) + k)).block := by rw [block_add, HYG.out]; exact hgs
        clear HCell HB HAT HQ
        have HTY2 := HTY.out
        have d4 : ((i * (m + 1) + k : Nat) : Int) < n := by omega
        generalize hv1 : F (i * (m + 1) + k) = v1 at *
        generalize hv2 : F (i * (m + 1) + j) = v2 at *
        generalize hv3 : F (j * (m + 1) + k) = v3 at *
        generalize hpos : i * (m + 1) + k = pos at *
        subst HTY2
        have HMIN := Lib.hid (show minB v1 (addB v2 v3) = if addB v2 v3 < v1 then addB v2 v3 else v1 from rfl)
        have HS4 := Lib.hid (fun W => sumOfBounds_any v2 v3 W)
        have HRS := Lib.hid (HST.out (minB v1 (addB v2 v3)) rfl)
        clear HST
        generalize addB v2 v3 = vs at *
        generalize minB v1 vs = vm at *
        have HK := Lib.hid (show ∀ W, Below wr.heap.size wr W → W.cell? ⟨w.heap.size, 0, none⟩ = some (.int .i64 mi) ∧ W.cell? ⟨w.heap.size, 1, none⟩ = some (.slice (some y) n c1) from fun W hW => ⟨(CX.out.below hW).box.c0, (CX.out.below hW).box.c1⟩)
        have HK2 := Lib.hid (show ∀ W v, Below wr.heap.size wr W → (W.setCell (y.add pos) v).cell? ⟨w.heap.size, 0, none⟩ = some (.int .i64 mi) ∧ (W.setCell (y.add pos) v).cell? ⟨w.heap.size, 1, none⟩ = some (.slice (some y) n c1) from fun W v hW => ⟨(World.cell?_setCell_other _ _ _ _ (fun e => nb (by rw [e]))).trans (HK.out W hW).1, (World.cell?_setCell_other _ _ _ _ (fun e => nb (by rw [e]))).trans (HK.out W hW).2⟩)
        go_wp2_with fail
        go_region_held3 (fun W => W.cell? ⟨w.heap.size, 0, none⟩ = some (.int .i64 mi) ∧ W.cell? ⟨w.heap.size, 1, none⟩ = some (.slice (some y) n c1))
          (first | exact HK2.out _ _ (by repeat (first | with_reducible exact Below.refl _ _ | exact Hid.out (by with_reducible assumption) | refine Below.setCell ?_ (by simp <;> omega) _ | refine below_alloc ?_ _ | refine Below.alloc ?_ (by simp <;> omega) _ | refine Below.drew ?_ | refine below_drewN ?_ _ | exact Below.refl _ _)) | exact HK.out _ (by repeat (first | with_reducible exact Below.refl _ _ | exact Hid.out (by with_reducible assumption) | refine Below.setCell ?_ (by simp <;> omega) _ | refine below_alloc ?_ _ | refine Below.alloc ?_ (by simp <;> omega) _ | refine Below.drew ?_ | refine below_drewN ?_ _ | exact Below.refl _ _)))
          (first
            | (go_at_call 124; refine (H0.out _).mono ?_; rintro e w5 ⟨rfl, hb⟩; have N5 := Lib.hid (show Below wr.heap.size wr w5 from Below.trans (by repeat (first | with_reducible exact Below.refl _ _ | exact Hid.out (by with_reducible assumption) | refine Below.setCell ?_ (by simp <;> omega) _ | refine below_alloc ?_ _ | refine Below.alloc ?_ (by simp <;> omega) _ | refine Below.drew ?_ | refine below_drewN ?_ _ | exact Below.refl _ _)) (hb.mono (by simp))); clear hb)
            | (go_at_call 122; with_reducible refine (H1.out _ ?hbel).mono ?_; (case hbel => exact (by repeat (first | with_reducible exact Below.refl _ _ | exact Hid.out (by with_reducible assumption) | refine Below.setCell ?_ (by simp <;> omega) _ | refine below_alloc ?_ _ | refine Below.alloc ?_ (by simp <;> omega) _ | refine Below.drew ?_ | refine below_drewN ?_ _ | exact Below.refl _ _))); rintro e w6 ⟨rfl, hb⟩; have N6 := Lib.hid (show Below wr.heap.size wr w6 from Below.trans (by repeat (first | with_reducible exact Below.refl _ _ | exact Hid.out (by with_reducible assumption) | refine Below.setCell ?_ (by simp <;> omega) _ | refine below_alloc ?_ _ | refine Below.alloc ?_ (by simp <;> omega) _ | refine Below.drew ?_ | refine below_drewN ?_ _ | exact Below.refl _ _)) (hb.mono (by have := N5.out.size; first | exact this | (simp; exact this)))); clear hb)
            | (go_at_call 122; with_reducible refine (H2.out _ ?hbel).mono ?_; (case hbel => exact (by repeat (first | with_reducible exact Below.refl _ _ | exact Hid.out (by with_reducible assumption) | refine Below.setCell ?_ (by simp <;> omega) _ | refine below_alloc ?_ _ | refine Below.alloc ?_ (by simp <;> omega) _ | refine Below.drew ?_ | refine below_drewN ?_ _ | exact Below.refl _ _))); rintro e w7 ⟨rfl, hb⟩; have N7 := Lib.hid (show Below wr.heap.size wr w7 from Below.trans (by repeat (first | with_reducible exact Below.refl _ _ | exact Hid.out (by with_reducible assumption) | refine Below.setCell ?_ (by simp <;> omega) _ | refine below_alloc ?_ _ | refine Below.alloc ?_ (by simp <;> omega) _ | refine Below.drew ?_ | refine below_drewN ?_ _ | exact Below.refl _ _)) (hb.mono (by have := N6.out.size; first | exact this | (simp; exact this)))); clear hb)
            | (go_at_call 122; with_reducible refine (H3.out _ ?hbel).mono ?_; (case hbel => exact (by repeat (first | with_reducible exact Below.refl _ _ | exact Hid.out (by with_reducible assumption) | refine Below.setCell ?_ (by simp <;> omega) _ | refine below_alloc ?_ _ | refine Below.alloc ?_ (by simp <;> omega) _ | refine Below.drew ?_ | refine below_drewN ?_ _ | exact Below.refl _ _))); rintro e w8 ⟨rfl, hb⟩; have N8 := Lib.hid (show Below wr.heap.size wr w8 from Below.trans (by repeat (first | with_reducible exact Below.refl _ _ | exact Hid.out (by with_reducible assumption) | refine Below.setCell ?_ (by simp <;> omega) _ | refine below_alloc ?_ _ | refine Below.alloc ?_ (by simp <;> omega) _ | refine Below.drew ?_ | refine below_drewN ?_ _ | exact Below.refl _ _)) (hb.mono (by have := N7.out.size; first | exact this | (simp; exact this)))); obtain ⟨f8, c8⟩ := HFZ.out _ N8.out; clear hb)
            | (go_at_call 123; refine (HS4.out _).mono ?_; rintro e w' ⟨rfl, rfl⟩))
        all_goals (
          go_wp2_with fail
          have hz := N8.out.size
          have hz2 := HS0.out
          have HO2 := Lib.hid (HSET.out _ N8.out vm)
          rw [HRS.out] at HO2
          rw [← HMIN.out]
          exact ⟨⟨k + 1, by omega, by simp, (HB0.out.trans (N8.out.mono HB0.out.size)).setCell hge _, (CX.out.below N8.out).keep (Below.heap_setCell _ _ _ _ (fun e => nb e.symm)), (CZ.out.below N8.out).keep (Below.heap_setCell _ _ _ _ (fun e => nz e.symm)), (by unfold Hid; simp; omega), HO2⟩, by simp [intOf]; omega⟩)
end Go.Proofs.Ytfpombhhnojjhaa
