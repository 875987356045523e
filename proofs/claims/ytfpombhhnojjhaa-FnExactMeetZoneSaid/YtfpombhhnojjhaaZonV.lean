/- Zones: whether they are valid, on both sides. -/
import Derived.Test.YtfpombhhnojjhaaZonA
import Derived.Test.YtfpombhhnojjhaaContI
set_option linter.unusedVariables false
namespace Go.Proofs.Ytfpombhhnojjhaa
open Go.RowKit
theorem validZ_nat (m n : Nat) (f : Nat → Int) (h1 : 1 ≤ m) (h2 : m ≤ 4) : validZ (m : Int) n f = okZ (m + 1) n f := by
  unfold validZ
  have : inB (m : Int) 1 4 = true := inB_iff.2 (by omega)
  rw [this, Bool.true_and]
  congr 1

theorem isNoBound_any (z : Int) (w : World) : Calls Try.prog 128 #[.int .i64 z] w fun e w' => e = .returned (.bool (!okB z)) ∧ w = w' := by
  have H0 := Lib.hid (fun W => between_any z (-1000000) 1000000 W)
  have HU := Lib.hid (okB.eq_1 z)
  generalize okB z = r at *
  generalize inB z (-1000000) 1000000 = r0 at *
  by_cases hz : z = 1000000000
  · have b1 : (z != 1000000000) = false := by rw [hz]; rfl
    have HZ := Lib.hid (show r = true by rw [HU.out, decide_eq_true hz]; exact Bool.or_true _)
    clear hz HU
    cases r0
    · go_enter Try.func128, Try.ntmps128
      go_wp2_with fail
      refine (H0.out _).mono ?_
      rintro e w' ⟨rfl, rfl⟩
      go_wp2_with fail
      go_ret
      exact ⟨ret_bool (by rw [HZ.out]; rfl), rfl⟩
    · go_enter Try.func128, Try.ntmps128
      go_wp2_with fail
      refine (H0.out _).mono ?_
      rintro e w' ⟨rfl, rfl⟩
      go_wp2_with fail
      go_ret
      exact ⟨ret_bool (by rw [HZ.out]; rfl), rfl⟩
  · have b1 : (z != 1000000000) = true := bne_iff_ne.2 hz
    have HZ := Lib.hid (show r = r0 by rw [HU.out, decide_eq_false hz]; exact Bool.or_false _)
    clear hz HU
    cases r0
    · go_enter Try.func128, Try.ntmps128
      go_wp2_with fail
      refine (H0.out _).mono ?_
      rintro e w' ⟨rfl, rfl⟩
      go_wp2_with fail
      go_ret
      exact ⟨ret_bool (by rw [HZ.out]; rfl), rfl⟩
    · go_enter Try.func128, Try.ntmps128
      go_wp2_with fail
      refine (H0.out _).mono ?_
      rintro e w' ⟨rfl, rfl⟩
      go_wp2_with fail
      go_ret
      exact ⟨ret_bool (by rw [HZ.out]; rfl), rfl⟩
set_option maxHeartbeats 4000000 in
theorem implValidZone_any (s : Int) (A : Option Addr) (n c : Nat) (f : Nat → Int) (w : World) (hn : n ≤ 1048576) (hA : Cells w A n (fun i => .int .i64 (f i))) :
    Calls Try.prog 66 #[.agg #[.int .i64 s, .slice A n c]] w fun e w' => e = .returned (.bool (validZ s n f)) ∧ Below w.heap.size w w' := by
  have HA := Lib.hid hA
  clear hA
  cases h0 : inB s 1 4
  · have H0 := Lib.hid (between_is h0)
    have HU := Lib.hid (show validZ s n f = false by unfold validZ; rw [h0]; rfl)
    clear h0
    generalize validZ s n f = r at *
    go_enter Try.func66, Try.ntmps66
    go_wp2_with fail
    refine (H0.out _).mono ?_
    rintro e w' ⟨rfl, rfl⟩
    go_wp2_with fail
    go_ret
    exact ⟨ret_bool (by rw [HU.out]), (by repeat (first | with_reducible exact Below.refl _ _ | exact Hid.out (by with_reducible assumption) | refine Below.setCell ?_ (by simp <;> omega) _ | refine below_alloc ?_ _ | refine Below.alloc ?_ (by simp <;> omega) _ | refine Below.drew ?_ | refine below_drewN ?_ _ | exact Below.refl _ _))⟩
  have H0 := Lib.hid (between_is h0)
  obtain ⟨s1, s2⟩ := inB_iff.1 h0
  clear h0
  obtain ⟨m, rfl⟩ : ∃ m : Nat, s = (m : Int) := ⟨s.toNat, by omega⟩
  have hm1 : 1 ≤ m := by omega
  have hm : m ≤ 4 := by omega
  clear s1 s2
  rw [validZ_nat m n f hm1 hm]
  have hsq : (m + 1) * (m + 1) ≤ 25 := by
    have : (m + 1) * (m + 1) ≤ 5 * 5 := Nat.mul_le_mul (by omega) (by omega)
    omega
  have hw1 : IntKind.i64.wrap ((m : Int) + 1) = ((m + 1 : Nat) : Int) := by rw [IntKind.wrap_i64]; omega
  have hw2 : IntKind.i64.wrap (((m + 1 : Nat) : Int) * ((m + 1 : Nat) : Int)) = (((m + 1) * (m + 1) : Nat) : Int) := by rw [← Int.natCast_mul, IntKind.wrap_i64]; omega
  have HM1 := Lib.hid (show ∀ k : Nat, k < m + 1 → (k : Int) < ((m + 1 : Nat) : Int) from fun k h => by omega)
  have HM2 := Lib.hid (show ∀ k : Nat, ¬ k < m + 1 → ¬ (k : Int) < ((m + 1 : Nat) : Int) from fun k h => by omega)
  by_cases hq : n = (m + 1) * (m + 1)
  rotate_left
  · have b2 : ((n : Int) != (((m + 1) * (m + 1) : Nat) : Int)) = true := bne_iff_ne.2 fun h => hq (Int.ofNat_inj.1 h)
    have HU := Lib.hid (okZ_sq (f := f) hq)
    clear hq hsq HM1 HM2
    generalize okZ (m + 1) n f = r at *
    generalize (((m + 1) * (m + 1) : Nat) : Int) = sq at *
    generalize ((m + 1 : Nat) : Int) = sm at *
    generalize (m : Int) = mi at *
    go_enter Try.func66, Try.ntmps66
    go_wp2_with fail
    refine (H0.out _).mono ?_
    rintro e w' ⟨rfl, rfl⟩
    go_wp2_with fail
    go_ret
    exact ⟨ret_bool (by rw [HU.out]), (by repeat (first | with_reducible exact Below.refl _ _ | exact Hid.out (by with_reducible assumption) | refine Below.setCell ?_ (by simp <;> omega) _ | refine below_alloc ?_ _ | refine Below.alloc ?_ (by simp <;> omega) _ | refine Below.drew ?_ | refine below_drewN ?_ _ | exact Below.refl _ _))⟩
  have b2 : ((n : Int) != (((m + 1) * (m + 1) : Nat) : Int)) = false := by rw [hq]; exact bne_self_eq_false _
  have HC := Lib.hid (fun W k => containsBounds okB A n c f W hn k (fun z => isNoBound_any z W))
  have HNA := Lib.hid (fun h => okZ_all (M := m + 1) (n := n) (f := f) (k := 0) h)
  have HNR := Lib.hid (fun k (hk : k < m + 1) h => okZ_row (M := m + 1) (n := n) (f := f) hk h)
  have HYES := Lib.hid (fun h1 h2 => okZ_yes' (M := m + 1) (n := n) (f := f) hq h1 h2)
  generalize okZ (m + 1) n f = r at *
  cases ha : allP okB f n
  · rw [ha] at HC
    have HU := Lib.hid (HNA.out ha)
    clear ha HNA HNR HYES hq hsq HM1 HM2
    generalize (((m + 1) * (m + 1) : Nat) : Int) = sq at *
    generalize ((m + 1 : Nat) : Int) = sm at *
    generalize (m : Int) = mi at *
    go_enter Try.func66, Try.ntmps66
    go_wp2_with fail
    refine (H0.out _).mono ?_
    rintro e w' ⟨rfl, rfl⟩
    go_wp2_with fail
    refine (HC.out _ (HA.out.below (by repeat (first | with_reducible exact Below.refl _ _ | exact Hid.out (by with_reducible assumption) | refine Below.setCell ?_ (by simp <;> omega) _ | refine below_alloc ?_ _ | refine Below.alloc ?_ (by simp <;> omega) _ | refine Below.drew ?_ | refine below_drewN ?_ _ | exact Below.refl _ _)))).mono ?_
    rintro e w' ⟨rfl, rfl⟩
    go_wp2_with fail
    go_ret
    exact ⟨ret_bool (by rw [HU.out]), (by repeat (first | with_reducible exact Below.refl _ _ | exact Hid.out (by with_reducible assumption) | refine Below.setCell ?_ (by simp <;> omega) _ | refine below_alloc ?_ _ | refine Below.alloc ?_ (by simp <;> omega) _ | refine Below.drew ?_ | refine below_drewN ?_ _ | exact Below.refl _ _))⟩
  rw [ha] at HC
  have HY := Lib.hid (HYES.out ha)
  clear ha HNA HYES
  have HB := Lib.hid (fun i k v W (hi : i ≤ m) (hk : k ≤ m) h => boundZ_any m A n c i k v W hm hi hk (by have := at_lt (M := m + 1) (i := i) (k := k) (by omega) (by omega); omega) (by omega) h)
  have HAt := Lib.hid (fun W (hW : Below w.heap.size w W) i k (hi : i ≤ m) (hk : k ≤ m) => (HA.out.below hW) (i * (m + 1) + k) (by have := at_lt (M := m + 1) (i := i) (k := k) (by omega) (by omega); omega))
  have X := Lib.hid (Box2.new w 36 (.int .i64 m) (.slice A n c))
  obtain ⟨xx0, xx1⟩ := X.out
  clear hq hsq
  generalize (((m + 1) * (m + 1) : Nat) : Int) = sq at *
  generalize ((m + 1 : Nat) : Int) = sm at *
  generalize (m : Int) = mi at *
  go_enter Try.func66, Try.ntmps66
  go_wp2_with fail
  refine (H0.out _).mono ?_
  rintro e w' ⟨rfl, rfl⟩
  go_wp2_with fail
  refine (HC.out _ (HA.out.below (by repeat (first | with_reducible exact Below.refl _ _ | exact Hid.out (by with_reducible assumption) | refine Below.setCell ?_ (by simp <;> omega) _ | refine below_alloc ?_ _ | refine Below.alloc ?_ (by simp <;> omega) _ | refine Below.drew ?_ | refine below_drewN ?_ _ | exact Below.refl _ _)))).mono ?_
  rintro e w' ⟨rfl, rfl⟩
  go_wp2_with fail
  go_loopw [29] (fun v wr => ∃ k : Nat, k ≤ m + 1 ∧ v = .int .i64 k ∧ Hid (Below w.heap.size w wr) ∧ Hid (Box2 wr w.heap.size (.int .i64 mi) (.slice A n c)) ∧ Hid (∀ j, j < k → f (j * (m + 1) + j) = 0 ∧ f j ≤ 0)) (fun v _ => (m + 1) - (intOf v).toNat)
  case atStart => exact ⟨0, Nat.zero_le _, rfl, Lib.hid (by repeat (first | with_reducible exact Below.refl _ _ | exact Hid.out (by with_reducible assumption) | refine Below.setCell ?_ (by simp <;> omega) _ | refine below_alloc ?_ _ | refine Below.alloc ?_ (by simp <;> omega) _ | refine Below.drew ?_ | refine below_drewN ?_ _ | exact Below.refl _ _)), X, fun j hj => by omega⟩
  case round =>
    obtain ⟨k, hk, rfl, HB0, HX, HP⟩ := hrel
    obtain ⟨x0, x1⟩ := HX.out
    by_cases hlt : k < m + 1
    · have d1 : (k : Int) < sm := HM1.out k hlt
      have H1 := Lib.hid (fun W hW => HB.out k k _ W (by omega) (by omega) (HAt.out W hW k k (by omega) (by omega)))
      have H2 := Lib.hid (fun W hW => HB.out 0 k _ W (by omega) (by omega) (HAt.out W hW 0 k (by omega) (by omega)))
      have HNk := Lib.hid (HNR.out k hlt)
      have HPk := Lib.hid (show f (k * (m + 1) + k) = 0 ∧ f k ≤ 0 → ∀ j, j < k + 1 → f (j * (m + 1) + j) = 0 ∧ f j ≤ 0 from fun e j hj => by
        rcases Nat.lt_or_ge j k with h | h
        · exact HP.out j h
        · have : j = k := by omega
          subst this
          exact e)
      clear HB HAt HNR HP
      rw [Nat.zero_mul, Nat.zero_add] at H2
      generalize f (k * (m + 1) + k) = v1 at *
      generalize f k = v2 at *
      by_cases h1 : v1 = 0
      rotate_left
      · have b1 : (v1 != 0) = true := by simpa using h1
        have HU := Lib.hid (HNk.out fun h => h1 h.1)
        clear h1 HPk
        go_wp2_with fail
        refine (H1.out _ (by repeat (first | with_reducible exact Below.refl _ _ | exact Hid.out (by with_reducible assumption) | refine Below.setCell ?_ (by simp <;> omega) _ | refine below_alloc ?_ _ | refine Below.alloc ?_ (by simp <;> omega) _ | refine Below.drew ?_ | refine below_drewN ?_ _ | exact Below.refl _ _))).mono ?_
        rintro e w2 ⟨rfl, hb⟩
        have N2 := Lib.hid (show Below w.heap.size w w2 from Below.trans (by repeat (first | with_reducible exact Below.refl _ _ | exact Hid.out (by with_reducible assumption) | refine Below.setCell ?_ (by simp <;> omega) _ | refine below_alloc ?_ _ | refine Below.alloc ?_ (by simp <;> omega) _ | refine Below.drew ?_ | refine below_drewN ?_ _ | exact Below.refl _ _)) (hb.mono HB0.out.size))
        clear hb
        go_wp2_with fail
        go_ret
        exact ⟨ret_bool (by rw [HU.out]), N2.out⟩
      · have b1 : (v1 != 0) = false := by simpa using h1
        by_cases h2 : 0 < v2
        · have HU := Lib.hid (HNk.out fun h => by omega)
          clear HPk
          go_wp2_with fail
          refine (H1.out _ (by repeat (first | with_reducible exact Below.refl _ _ | exact Hid.out (by with_reducible assumption) | refine Below.setCell ?_ (by simp <;> omega) _ | refine below_alloc ?_ _ | refine Below.alloc ?_ (by simp <;> omega) _ | refine Below.drew ?_ | refine below_drewN ?_ _ | exact Below.refl _ _))).mono ?_
          rintro e w2 ⟨rfl, hb⟩
          have N2 := Lib.hid (show Below w.heap.size w w2 from Below.trans (by repeat (first | with_reducible exact Below.refl _ _ | exact Hid.out (by with_reducible assumption) | refine Below.setCell ?_ (by simp <;> omega) _ | refine below_alloc ?_ _ | refine Below.alloc ?_ (by simp <;> omega) _ | refine Below.drew ?_ | refine below_drewN ?_ _ | exact Below.refl _ _)) (hb.mono HB0.out.size))
          obtain ⟨y0, y1⟩ := HX.out.below hb
          clear hb
          go_wp2_with fail
          refine (H2.out _ (by repeat (first | with_reducible exact Below.refl _ _ | exact Hid.out (by with_reducible assumption) | refine Below.setCell ?_ (by simp <;> omega) _ | refine below_alloc ?_ _ | refine Below.alloc ?_ (by simp <;> omega) _ | refine Below.drew ?_ | refine below_drewN ?_ _ | exact Below.refl _ _))).mono ?_
          rintro e w3 ⟨rfl, hb⟩
          have N3 := Lib.hid (show Below w.heap.size w w3 from Below.trans (by repeat (first | with_reducible exact Below.refl _ _ | exact Hid.out (by with_reducible assumption) | refine Below.setCell ?_ (by simp <;> omega) _ | refine below_alloc ?_ _ | refine Below.alloc ?_ (by simp <;> omega) _ | refine Below.drew ?_ | refine below_drewN ?_ _ | exact Below.refl _ _)) (hb.mono N2.out.size))
          clear hb
          go_wp2_with fail
          go_ret
          exact ⟨ret_bool (by rw [HU.out]), N3.out⟩
        · have HU := Lib.hid (HPk.out ⟨h1, by omega⟩)
          go_wp2_with fail
          refine (H1.out _ (by repeat (first | with_reducible exact Below.refl _ _ | exact Hid.out (by with_reducible assumption) | refine Below.setCell ?_ (by simp <;> omega) _ | refine below_alloc ?_ _ | refine Below.alloc ?_ (by simp <;> omega) _ | refine Below.drew ?_ | refine below_drewN ?_ _ | exact Below.refl _ _))).mono ?_
          rintro e w2 ⟨rfl, hb⟩
          have N2 := Lib.hid (show Below w.heap.size w w2 from Below.trans (by repeat (first | with_reducible exact Below.refl _ _ | exact Hid.out (by with_reducible assumption) | refine Below.setCell ?_ (by simp <;> omega) _ | refine below_alloc ?_ _ | refine Below.alloc ?_ (by simp <;> omega) _ | refine Below.drew ?_ | refine below_drewN ?_ _ | exact Below.refl _ _)) (hb.mono HB0.out.size))
          have Y2 := Lib.hid (HX.out.below hb)
          obtain ⟨y0, y1⟩ := Y2.out
          clear hb
          go_wp2_with fail
          refine (H2.out _ (by repeat (first | with_reducible exact Below.refl _ _ | exact Hid.out (by with_reducible assumption) | refine Below.setCell ?_ (by simp <;> omega) _ | refine below_alloc ?_ _ | refine Below.alloc ?_ (by simp <;> omega) _ | refine Below.drew ?_ | refine below_drewN ?_ _ | exact Below.refl _ _))).mono ?_
          rintro e w3 ⟨rfl, hb⟩
          have N3 := Lib.hid (show Below w.heap.size w w3 from Below.trans (by repeat (first | with_reducible exact Below.refl _ _ | exact Hid.out (by with_reducible assumption) | refine Below.setCell ?_ (by simp <;> omega) _ | refine below_alloc ?_ _ | refine Below.alloc ?_ (by simp <;> omega) _ | refine Below.drew ?_ | refine below_drewN ?_ _ | exact Below.refl _ _)) (hb.mono N2.out.size))
          have Y3 := Lib.hid (Y2.out.below hb)
          clear hb
          go_wp2_with fail
          exact ⟨⟨k + 1, by omega, by simp, N3, Y3, HU⟩, by simp [intOf]; omega⟩
    · have d1 : ¬ (k : Int) < sm := fun h => absurd h (Int.not_lt.2 (HM2.out k hlt))
      obtain rfl : k = m + 1 := by omega
      have HR := Lib.hid (HY.out HP.out)
      go_wp2_with fail
      go_ret
      exact ⟨ret_bool (by rw [HR.out]), HB0.out⟩
end Go.Proofs.Ytfpombhhnojjhaa
