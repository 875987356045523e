/- The law on sines of turns. -/
import Derived.Test.YtfmnfidocicjkaaWalkC1
set_option linter.unusedVariables false
namespace Go.Proofs.Ytfmnfidocicjkaa
open Go.RowKit

def big : Nat := 4841369599423283200
def bigM : Nat := 14064741636278059008
def bigV (t : Nat) : Bool := geB (t % 2 ^ 63) big

/-- Numbers as great as 2^52 on either side. -/
theorem big_ok {t : Nat} {s : Bool} {m : Nat} {p : Int} (hr : Ieee.double.read t = .number s m p) (hp : -1074 ≤ p) :
    (bigV t = false → m * 2 ^ (p + 1074).toNat < 2 ^ 52 * 2 ^ 1074 ∧ geB t big = false ∧ (Ieee.double.order t bigM == some .lt || Ieee.double.order t bigM == some .eq) = false) ∧
    (bigV t = true → geB t big = true ∨ (geB t big = false ∧ (Ieee.double.order t bigM == some .lt || Ieee.double.order t bigM == some .eq) = true)) := by
  obtain ⟨K, hK⟩ : ∃ K : Nat, K = 1074 := ⟨_, rfl⟩
  have ra : Ieee.double.read (t % 2 ^ 63) = .number false m p := by rw [show t % 2 ^ 63 = t % Ieee.double.signWeight from rfl, read_abs, hr]
  have rc : Ieee.double.read big = .number false 4503599627370496 0 := by decide
  have rd : Ieee.double.read bigM = .number true 4503599627370496 0 := by decide
  rw [← hK]
  have e1 : (p - -1074).toNat = (p + 1074).toNat := by congr 1
  have e2 : (0 - -1074 : Int).toNat = K := by rw [hK]; decide
  have e3 : 4503599627370496 * 2 ^ K = 2 ^ 52 * 2 ^ K := rfl
  unfold bigV geB Ieee.Format.order
  rw [ra, rc, rd, hr, Fl.order_num (L := -1074) hp (by omega), Fl.order_num (L := -1074) hp (by omega), Fl.order_num (L := -1074) hp (by omega), e1, e2, e3]
  generalize m * 2 ^ (p + 1074).toNat = U
  have hX : 0 < 2 ^ 52 * 2 ^ K := Nat.mul_pos (by decide) (Nat.two_pow_pos K)
  generalize 2 ^ 52 * 2 ^ K = X at *
  have c1 : ∀ a b : Int, a < b → ((some (compare a b) == some Ordering.gt) = false ∧ (some (compare a b) == some Ordering.eq) = false ∧ (some (compare a b) == some Ordering.lt) = true) := by
    intro a b h; rw [Int.compare_eq_lt.2 h]; exact ⟨rfl, rfl, rfl⟩
  have c2 : ∀ a b : Int, a = b → ((some (compare a b) == some Ordering.gt) = false ∧ (some (compare a b) == some Ordering.eq) = true ∧ (some (compare a b) == some Ordering.lt) = false) := by
    intro a b h; rw [Int.compare_eq_eq.2 h]; exact ⟨rfl, rfl, rfl⟩
  have c3 : ∀ a b : Int, b < a → ((some (compare a b) == some Ordering.gt) = true ∧ (some (compare a b) == some Ordering.eq) = false ∧ (some (compare a b) == some Ordering.lt) = false) := by
    intro a b h; rw [Int.compare_eq_gt.2 h]; exact ⟨rfl, rfl, rfl⟩
  have f0 : ∀ n : Nat, Fl.sv false n = (n : Int) := fun n => rfl
  have t0 : ∀ n : Nat, Fl.sv true n = -(n : Int) := fun n => rfl
  cases s
  · rw [f0, f0, t0]
    rcases Nat.lt_trichotomy U X with h | h | h
    · obtain ⟨a1, a2, a3⟩ := c1 U X (by omega)
      obtain ⟨b1, b2, b3⟩ := c3 U (-X) (by omega)
      rw [a1, a2, b2, b3]
      exact ⟨fun _ => ⟨h, rfl, rfl⟩, fun k => by cases k⟩
    · obtain ⟨a1, a2, a3⟩ := c2 U X (by omega)
      rw [a1, a2]
      exact ⟨(fun k => by cases k), fun _ => .inl rfl⟩
    · obtain ⟨a1, a2, a3⟩ := c3 U X (by omega)
      rw [a1, a2]
      exact ⟨(fun k => by cases k), fun _ => .inl rfl⟩
  · rw [f0, f0, t0, t0]
    obtain ⟨d1, d2, d3⟩ := c1 (-U) X (by omega)
    rcases Nat.lt_trichotomy U X with h | h | h
    · obtain ⟨a1, a2, a3⟩ := c1 U X (by omega)
      obtain ⟨b1, b2, b3⟩ := c3 (-U) (-X) (by omega)
      rw [a1, a2, b2, b3, d1, d2]
      exact ⟨fun _ => ⟨h, rfl, rfl⟩, fun k => by cases k⟩
    · obtain ⟨a1, a2, a3⟩ := c2 U X (by omega)
      obtain ⟨b1, b2, b3⟩ := c2 (-U) (-X) (by omega)
      rw [a1, a2, b2, b3, d1, d2]
      exact ⟨(fun k => by cases k), fun _ => .inr ⟨rfl, rfl⟩⟩
    · obtain ⟨a1, a2, a3⟩ := c3 U X (by omega)
      obtain ⟨b1, b2, b3⟩ := c1 (-U) (-X) (by omega)
      rw [a1, a2, b2, b3, d1, d2]
      exact ⟨(fun k => by cases k), fun _ => .inr ⟨rfl, rfl⟩⟩


theorem conv_trunc {t : Nat} (h : floatToIntVal .f64 t .i64 = some (truncV t)) (w : World) : (convert 22 2 (.float .f64 t)).run Try.prog w = .ok (.int .i64 (truncV t)) w :=
  run_convert_float_int w _ _ _ _ _ _ (by rw [Try.underlying22]; rfl) Try.underlying2 h

theorem partOfTurn_any {t : Nat} {s : Bool} {m : Nat} {p : Int} (w : World) (hr : Ieee.double.read t = .number s m p) (hp : -1074 ≤ p) (hlt : m * 2 ^ (p + 1074).toNat < 2 ^ 52 * 2 ^ 1074) :
    Calls Try.prog 27 #[.float .f64 t] w fun e w' => e = .returned (.float .f64 (partV t)) ∧ w = w' := by
  obtain ⟨h1, h2, h3⟩ := trunc_ok hr hp hlt
  obtain ⟨h4, _⟩ := part_ok h3
  have q1 := conv_trunc h1
  have q2 := fun W => run_float_arith (P := Try.prog) W .sub 22 .f64 _ _ _ h2
  have q3 := fun W => run_float_arith (P := Try.prog) W .add 22 .f64 _ 4607182418800017408 _ h4
  have HP := Lib.hid (show partV t = if ltB (fs t (floatOfInt .f64 (truncV t))) 0 then fa (fs t (floatOfInt .f64 (truncV t))) one else fs t (floatOfInt .f64 (truncV t)) from rfl)
  clear h1 h2 h3 h4 hr hp hlt
  generalize fs t (floatOfInt .f64 (truncV t)) = f at *
  cases hl : ltB f 0
  · have k1 : (FloatKind.f64.format.order f 0 == some .lt) = false := hl
    have HQ := Lib.hid (show partV t = f by rw [HP.out, hl]; rfl)
    clear hl HP
    go_enter Try.func27, Try.ntmps27
    go_wp2_with fail
    go_ret
    exact ⟨ret_float HQ.out.symm, rfl⟩
  · have k1 : (FloatKind.f64.format.order f 0 == some .lt) = true := hl
    have HQ := Lib.hid (show partV t = fa f one by rw [HP.out, hl]; rfl)
    clear hl HP
    go_enter Try.func27, Try.ntmps27
    go_wp2_with fail
    go_ret
    exact ⟨ret_float HQ.out.symm, rfl⟩


set_option maxHeartbeats 2000000 in
theorem wideSine_any {t f : Nat} (w : World) (ht : ∀ W, Calls Try.prog 27 #[.float .f64 t] W fun e w' => e = .returned (.float .f64 f) ∧ W = w') (hf : B 1075 f) :
    Calls Try.prog 28 #[.float .f64 t] w fun e w' => e = .returned (.float .f64 (sinP f)) ∧ w = w' := by
  have HT := Lib.hid ht
  clear ht
  obtain ⟨a1, a2, a3, a4, a5, a6⟩ := sin_ok hf
  obtain ⟨a7, _⟩ := sinR_ok hf
  have HP := Lib.hid (fun j hj => sinPoly_ok a6 j hj)
  have q1 := fun W => run_float_arith (P := Try.prog) W .sub 22 .f64 f 4602678819172646912 _ a1
  have q4 := fun W => run_float_arith (P := Try.prog) W .mul 22 .f64 _ _ _ a4
  have q5 := fun W => run_float_arith (P := Try.prog) W .mul 22 .f64 _ _ _ a7
  clear a1 a4 a5 a6 a7 hf
  have H1 : sin1 f = if geB f half then fs f half else f := rfl
  have H2 : sin2 f = if gtB (sin1 f) quarter then fs half (sin1 f) else sin1 f := rfl
  have HR : sinP f = if geB f half then Op.negFloat .f64 (sinR f) else sinR f := rfl
  cases hg : geB f half
  · have k1 : (FloatKind.f64.format.order f 4602678819172646912 == some .gt) = false := (or_false2 hg).1
    have k2 : (FloatKind.f64.format.order f 4602678819172646912 == some .eq) = false := (or_false2 hg).2
    simp only [hg, Bool.false_eq_true, if_false] at H1 HR
    rw [HR]
    rw [H1] at a2 H2
    clear hg H1 HR
    cases hq : gtB f quarter
    · have k3 : (FloatKind.f64.format.order f 4598175219545276416 == some .gt) = false := hq
      simp only [hq, Bool.false_eq_true, if_false] at H2
      rw [H2] at a3
      have q3 := fun W => run_float_arith (P := Try.prog) W .mul 22 .f64 _ 4618760256179416344 _ a3
      clear hq H2 a2 a3
      obtain ⟨u, hu⟩ : ∃ u, u = fm (sinZ f) (sinZ f) := ⟨_, rfl⟩
      rw [← hu] at HP q4 q5
      clear hu
      generalize sinZ f = z at *
      generalize sinR f = r at *
      go_enter Try.func28, Try.ntmps28
      go_wp2_with fail
      refine (HT.out _).mono ?_
      rintro e w' ⟨rfl, rfl⟩
      go_wp2_with fail
      go_loop [7, 8] (fun v i => ∃ k : Nat, ∃ kk : Int, k ≤ 8 ∧ Hid (kk = 8 - (k : Int)) ∧ i = .int .i64 kk ∧ v = .float .f64 (sinPoly u k)) (fun _ i => (intOf i).toNat)
      case atStart => exact ⟨0, 8, by omega, by simp [Hid], rfl, rfl⟩
      case round =>
        obtain ⟨k, kk, hk, hkk, rfl, rfl⟩ := hrel
        by_cases h8 : k < 8
        · obtain ⟨b1, b2, b3⟩ := HP.out k h8
          rw [show 8 - (k : Int) = kk from hkk.symm] at b2 b3
          generalize hp : sinPoly u (k + 1) = p' at *
          have HPP := Lib.hid hp
          clear hp
          generalize sinPoly u k = pp at *
          have v1 := fun W => run_float_arith (P := Try.prog) W .mul 22 .f64 _ _ _ b1
          have v2 := fun W => run_float_arith (P := Try.prog) W .quo 22 .f64 _ _ _ b2
          have v3 := fun W => run_float_arith (P := Try.prog) W .sub 22 .f64 4607182418800017408 _ _ b3
          clear b1 b2 b3
          have hc : kk = 8 ∨ kk = 7 ∨ kk = 6 ∨ kk = 5 ∨ kk = 4 ∨ kk = 3 ∨ kk = 2 ∨ kk = 1 := by have := hkk; unfold Hid at this; omega
          have HK := hkk
          rcases hc with rfl | rfl | rfl | rfl | rfl | rfl | rfl | rfl
          all_goals
            simp only [Int.reduceMul, Int.reduceAdd] at v2 v3
            go_wp2_with fail
            go_round
            case rel => exact ⟨k + 1, _, by omega, by have := HK; unfold Hid at this ⊢; omega, rfl, by rw [HPP.out]⟩
            case measure => simp [intOf]
        · have hk8 : k = 8 := by omega
          subst hk8
          have hk0 : kk = 0 := by have := hkk; unfold Hid at this; omega
          subst hk0
          go_wp2_with fail
          go_ret
          exact ⟨rfl, rfl⟩
    · have k3 : (FloatKind.f64.format.order f 4598175219545276416 == some .gt) = true := hq
      rw [hq, if_pos rfl] at H2
      rw [H2] at a3
      have q2 := fun W => run_float_arith (P := Try.prog) W .sub 22 .f64 4602678819172646912 _ _ a2
      have q3 := fun W => run_float_arith (P := Try.prog) W .mul 22 .f64 _ 4618760256179416344 _ a3
      clear hq H2 a2 a3
      generalize fs half f = f2 at *
      obtain ⟨u, hu⟩ : ∃ u, u = fm (sinZ f) (sinZ f) := ⟨_, rfl⟩
      rw [← hu] at HP q4 q5
      clear hu
      generalize sinZ f = z at *
      generalize sinR f = r at *
      go_enter Try.func28, Try.ntmps28
      go_wp2_with fail
      refine (HT.out _).mono ?_
      rintro e w' ⟨rfl, rfl⟩
      go_wp2_with fail
      go_loop [7, 8] (fun v i => ∃ k : Nat, ∃ kk : Int, k ≤ 8 ∧ Hid (kk = 8 - (k : Int)) ∧ i = .int .i64 kk ∧ v = .float .f64 (sinPoly u k)) (fun _ i => (intOf i).toNat)
      case atStart => exact ⟨0, 8, by omega, by simp [Hid], rfl, rfl⟩
      case round =>
        obtain ⟨k, kk, hk, hkk, rfl, rfl⟩ := hrel
        by_cases h8 : k < 8
        · obtain ⟨b1, b2, b3⟩ := HP.out k h8
          rw [show 8 - (k : Int) = kk from hkk.symm] at b2 b3
          generalize hp : sinPoly u (k + 1) = p' at *
          have HPP := Lib.hid hp
          clear hp
          generalize sinPoly u k = pp at *
          have v1 := fun W => run_float_arith (P := Try.prog) W .mul 22 .f64 _ _ _ b1
          have v2 := fun W => run_float_arith (P := Try.prog) W .quo 22 .f64 _ _ _ b2
          have v3 := fun W => run_float_arith (P := Try.prog) W .sub 22 .f64 4607182418800017408 _ _ b3
          clear b1 b2 b3
          have hc : kk = 8 ∨ kk = 7 ∨ kk = 6 ∨ kk = 5 ∨ kk = 4 ∨ kk = 3 ∨ kk = 2 ∨ kk = 1 := by have := hkk; unfold Hid at this; omega
          have HK := hkk
          rcases hc with rfl | rfl | rfl | rfl | rfl | rfl | rfl | rfl
          all_goals
            simp only [Int.reduceMul, Int.reduceAdd] at v2 v3
            go_wp2_with fail
            go_round
            case rel => exact ⟨k + 1, _, by omega, by have := HK; unfold Hid at this ⊢; omega, rfl, by rw [HPP.out]⟩
            case measure => simp [intOf]
        · have hk8 : k = 8 := by omega
          subst hk8
          have hk0 : kk = 0 := by have := hkk; unfold Hid at this; omega
          subst hk0
          go_wp2_with fail
          go_ret
          exact ⟨rfl, rfl⟩
  · have HG := Lib.hid hg
    rw [hg, if_pos rfl] at H1 HR
    rw [HR]
    rw [H1] at a2 H2
    clear hg H1 HR
    generalize fs f half = f1 at *
    cases ho : (FloatKind.f64.format.order f 4602678819172646912 == some .gt)
    · have k2 : (FloatKind.f64.format.order f 4602678819172646912 == some .eq) = true := by
        have := HG.out
        unfold geB half at this
        rw [show Ieee.double = FloatKind.f64.format from rfl, ho] at this
        exact this
      clear HG
      cases hq : gtB f1 quarter
      · have k3 : (FloatKind.f64.format.order f1 4598175219545276416 == some .gt) = false := hq
        simp only [hq, Bool.false_eq_true, if_false] at H2
        rw [H2] at a3
        have q3 := fun W => run_float_arith (P := Try.prog) W .mul 22 .f64 _ 4618760256179416344 _ a3
        clear hq H2 a2 a3
        obtain ⟨u, hu⟩ : ∃ u, u = fm (sinZ f) (sinZ f) := ⟨_, rfl⟩
        rw [← hu] at HP q4 q5
        clear hu
        generalize sinZ f = z at *
        generalize sinR f = r at *
        go_enter Try.func28, Try.ntmps28
        go_wp2_with fail
        refine (HT.out _).mono ?_
        rintro e w' ⟨rfl, rfl⟩
        go_wp2_with fail
        go_loop [7, 8] (fun v i => ∃ k : Nat, ∃ kk : Int, k ≤ 8 ∧ Hid (kk = 8 - (k : Int)) ∧ i = .int .i64 kk ∧ v = .float .f64 (sinPoly u k)) (fun _ i => (intOf i).toNat)
        case atStart => exact ⟨0, 8, by omega, by simp [Hid], rfl, rfl⟩
        case round =>
          obtain ⟨k, kk, hk, hkk, rfl, rfl⟩ := hrel
          by_cases h8 : k < 8
          · obtain ⟨b1, b2, b3⟩ := HP.out k h8
            rw [show 8 - (k : Int) = kk from hkk.symm] at b2 b3
            generalize hp : sinPoly u (k + 1) = p' at *
            have HPP := Lib.hid hp
            clear hp
            generalize sinPoly u k = pp at *
            have v1 := fun W => run_float_arith (P := Try.prog) W .mul 22 .f64 _ _ _ b1
            have v2 := fun W => run_float_arith (P := Try.prog) W .quo 22 .f64 _ _ _ b2
            have v3 := fun W => run_float_arith (P := Try.prog) W .sub 22 .f64 4607182418800017408 _ _ b3
            clear b1 b2 b3
            have hc : kk = 8 ∨ kk = 7 ∨ kk = 6 ∨ kk = 5 ∨ kk = 4 ∨ kk = 3 ∨ kk = 2 ∨ kk = 1 := by have := hkk; unfold Hid at this; omega
            have HK := hkk
            rcases hc with rfl | rfl | rfl | rfl | rfl | rfl | rfl | rfl
            all_goals
              simp only [Int.reduceMul, Int.reduceAdd] at v2 v3
              go_wp2_with fail
              go_round
              case rel => exact ⟨k + 1, _, by omega, by have := HK; unfold Hid at this ⊢; omega, rfl, by rw [HPP.out]⟩
              case measure => simp [intOf]
          · have hk8 : k = 8 := by omega
            subst hk8
            have hk0 : kk = 0 := by have := hkk; unfold Hid at this; omega
            subst hk0
            go_wp2_with fail
            go_ret
            exact ⟨rfl, rfl⟩
      · have k3 : (FloatKind.f64.format.order f1 4598175219545276416 == some .gt) = true := hq
        rw [hq, if_pos rfl] at H2
        rw [H2] at a3
        have q2 := fun W => run_float_arith (P := Try.prog) W .sub 22 .f64 4602678819172646912 _ _ a2
        have q3 := fun W => run_float_arith (P := Try.prog) W .mul 22 .f64 _ 4618760256179416344 _ a3
        clear hq H2 a2 a3
        generalize fs half f1 = f2 at *
        obtain ⟨u, hu⟩ : ∃ u, u = fm (sinZ f) (sinZ f) := ⟨_, rfl⟩
        rw [← hu] at HP q4 q5
        clear hu
        generalize sinZ f = z at *
        generalize sinR f = r at *
        go_enter Try.func28, Try.ntmps28
        go_wp2_with fail
        refine (HT.out _).mono ?_
        rintro e w' ⟨rfl, rfl⟩
        go_wp2_with fail
        go_loop [7, 8] (fun v i => ∃ k : Nat, ∃ kk : Int, k ≤ 8 ∧ Hid (kk = 8 - (k : Int)) ∧ i = .int .i64 kk ∧ v = .float .f64 (sinPoly u k)) (fun _ i => (intOf i).toNat)
        case atStart => exact ⟨0, 8, by omega, by simp [Hid], rfl, rfl⟩
        case round =>
          obtain ⟨k, kk, hk, hkk, rfl, rfl⟩ := hrel
          by_cases h8 : k < 8
          · obtain ⟨b1, b2, b3⟩ := HP.out k h8
            rw [show 8 - (k : Int) = kk from hkk.symm] at b2 b3
            generalize hp : sinPoly u (k + 1) = p' at *
            have HPP := Lib.hid hp
            clear hp
            generalize sinPoly u k = pp at *
            have v1 := fun W => run_float_arith (P := Try.prog) W .mul 22 .f64 _ _ _ b1
            have v2 := fun W => run_float_arith (P := Try.prog) W .quo 22 .f64 _ _ _ b2
            have v3 := fun W => run_float_arith (P := Try.prog) W .sub 22 .f64 4607182418800017408 _ _ b3
            clear b1 b2 b3
            have hc : kk = 8 ∨ kk = 7 ∨ kk = 6 ∨ kk = 5 ∨ kk = 4 ∨ kk = 3 ∨ kk = 2 ∨ kk = 1 := by have := hkk; unfold Hid at this; omega
            have HK := hkk
            rcases hc with rfl | rfl | rfl | rfl | rfl | rfl | rfl | rfl
            all_goals
              simp only [Int.reduceMul, Int.reduceAdd] at v2 v3
              go_wp2_with fail
              go_round
              case rel => exact ⟨k + 1, _, by omega, by have := HK; unfold Hid at this ⊢; omega, rfl, by rw [HPP.out]⟩
              case measure => simp [intOf]
          · have hk8 : k = 8 := by omega
            subst hk8
            have hk0 : kk = 0 := by have := hkk; unfold Hid at this; omega
            subst hk0
            go_wp2_with fail
            go_ret
            exact ⟨rfl, rfl⟩
    · clear HG
      cases hq : gtB f1 quarter
      · have k3 : (FloatKind.f64.format.order f1 4598175219545276416 == some .gt) = false := hq
        simp only [hq, Bool.false_eq_true, if_false] at H2
        rw [H2] at a3
        have q3 := fun W => run_float_arith (P := Try.prog) W .mul 22 .f64 _ 4618760256179416344 _ a3
        clear hq H2 a2 a3
        obtain ⟨u, hu⟩ : ∃ u, u = fm (sinZ f) (sinZ f) := ⟨_, rfl⟩
        rw [← hu] at HP q4 q5
        clear hu
        generalize sinZ f = z at *
        generalize sinR f = r at *
        go_enter Try.func28, Try.ntmps28
        go_wp2_with fail
        refine (HT.out _).mono ?_
        rintro e w' ⟨rfl, rfl⟩
        go_wp2_with fail
        go_loop [7, 8] (fun v i => ∃ k : Nat, ∃ kk : Int, k ≤ 8 ∧ Hid (kk = 8 - (k : Int)) ∧ i = .int .i64 kk ∧ v = .float .f64 (sinPoly u k)) (fun _ i => (intOf i).toNat)
        case atStart => exact ⟨0, 8, by omega, by simp [Hid], rfl, rfl⟩
        case round =>
          obtain ⟨k, kk, hk, hkk, rfl, rfl⟩ := hrel
          by_cases h8 : k < 8
          · obtain ⟨b1, b2, b3⟩ := HP.out k h8
            rw [show 8 - (k : Int) = kk from hkk.symm] at b2 b3
            generalize hp : sinPoly u (k + 1) = p' at *
            have HPP := Lib.hid hp
            clear hp
            generalize sinPoly u k = pp at *
            have v1 := fun W => run_float_arith (P := Try.prog) W .mul 22 .f64 _ _ _ b1
            have v2 := fun W => run_float_arith (P := Try.prog) W .quo 22 .f64 _ _ _ b2
            have v3 := fun W => run_float_arith (P := Try.prog) W .sub 22 .f64 4607182418800017408 _ _ b3
            clear b1 b2 b3
            have hc : kk = 8 ∨ kk = 7 ∨ kk = 6 ∨ kk = 5 ∨ kk = 4 ∨ kk = 3 ∨ kk = 2 ∨ kk = 1 := by have := hkk; unfold Hid at this; omega
            have HK := hkk
            rcases hc with rfl | rfl | rfl | rfl | rfl | rfl | rfl | rfl
            all_goals
              simp only [Int.reduceMul, Int.reduceAdd] at v2 v3
              go_wp2_with fail
              go_round
              case rel => exact ⟨k + 1, _, by omega, by have := HK; unfold Hid at this ⊢; omega, rfl, by rw [HPP.out]⟩
              case measure => simp [intOf]
          · have hk8 : k = 8 := by omega
            subst hk8
            have hk0 : kk = 0 := by have := hkk; unfold Hid at this; omega
            subst hk0
            go_wp2_with fail
            go_ret
            exact ⟨rfl, rfl⟩
      · have k3 : (FloatKind.f64.format.order f1 4598175219545276416 == some .gt) = true := hq
        rw [hq, if_pos rfl] at H2
        rw [H2] at a3
        have q2 := fun W => run_float_arith (P := Try.prog) W .sub 22 .f64 4602678819172646912 _ _ a2
        have q3 := fun W => run_float_arith (P := Try.prog) W .mul 22 .f64 _ 4618760256179416344 _ a3
        clear hq H2 a2 a3
        generalize fs half f1 = f2 at *
        obtain ⟨u, hu⟩ : ∃ u, u = fm (sinZ f) (sinZ f) := ⟨_, rfl⟩
        rw [← hu] at HP q4 q5
        clear hu
        generalize sinZ f = z at *
        generalize sinR f = r at *
        go_enter Try.func28, Try.ntmps28
        go_wp2_with fail
        refine (HT.out _).mono ?_
        rintro e w' ⟨rfl, rfl⟩
        go_wp2_with fail
        go_loop [7, 8] (fun v i => ∃ k : Nat, ∃ kk : Int, k ≤ 8 ∧ Hid (kk = 8 - (k : Int)) ∧ i = .int .i64 kk ∧ v = .float .f64 (sinPoly u k)) (fun _ i => (intOf i).toNat)
        case atStart => exact ⟨0, 8, by omega, by simp [Hid], rfl, rfl⟩
        case round =>
          obtain ⟨k, kk, hk, hkk, rfl, rfl⟩ := hrel
          by_cases h8 : k < 8
          · obtain ⟨b1, b2, b3⟩ := HP.out k h8
            rw [show 8 - (k : Int) = kk from hkk.symm] at b2 b3
            generalize hp : sinPoly u (k + 1) = p' at *
            have HPP := Lib.hid hp
            clear hp
            generalize sinPoly u k = pp at *
            have v1 := fun W => run_float_arith (P := Try.prog) W .mul 22 .f64 _ _ _ b1
            have v2 := fun W => run_float_arith (P := Try.prog) W .quo 22 .f64 _ _ _ b2
            have v3 := fun W => run_float_arith (P := Try.prog) W .sub 22 .f64 4607182418800017408 _ _ b3
            clear b1 b2 b3
            have hc : kk = 8 ∨ kk = 7 ∨ kk = 6 ∨ kk = 5 ∨ kk = 4 ∨ kk = 3 ∨ kk = 2 ∨ kk = 1 := by have := hkk; unfold Hid at this; omega
            have HK := hkk
            rcases hc with rfl | rfl | rfl | rfl | rfl | rfl | rfl | rfl
            all_goals
              simp only [Int.reduceMul, Int.reduceAdd] at v2 v3
              go_wp2_with fail
              go_round
              case rel => exact ⟨k + 1, _, by omega, by have := HK; unfold Hid at this ⊢; omega, rfl, by rw [HPP.out]⟩
              case measure => simp [intOf]
          · have hk8 : k = 8 := by omega
            subst hk8
            have hk0 : kk = 0 := by have := hkk; unfold Hid at this; omega
            subst hk0
            go_wp2_with fail
            go_ret
            exact ⟨rfl, rfl⟩

theorem specSine_not (t : Nat) (w : World) (h : finB .f64 t = false) : Calls Try.prog 44 #[.float .f64 t] w fun e w' => e = .returned (.float .f64 nan64) ∧ ∃ n, w' = w.drewN n := by
  have q := sub64_nan h
  have r := nanbits_ne t t
  clear h
  go_enter Try.func44, Try.ntmps44
  go_wp2_with (go_at_call 56; refine (NaN_any _).mono ?_; rintro e w' ⟨rfl, rfl⟩)
  go_ret
  exact ⟨rfl, 1, rfl⟩
set_option maxRecDepth 100000 in
theorem specSine_big (t : Nat) (w : World) (h : finB .f64 t = true) (hb : bigV t = true) : Calls Try.prog 44 #[.float .f64 t] w fun e w' => e = .returned (.float .f64 0) ∧ w = w' := by
  have q := sub64_fin h
  have o : (FloatKind.f64.format.order 0 0 != some .eq) = false := by decide
  obtain ⟨s, m, p, hr, hp⟩ := fin64 h
  have hs := (big_ok hr hp).2 hb
  clear h hb hr hp
  rcases hs with hs | ⟨hs, ht⟩
  · have k1 : (FloatKind.f64.format.order t 4841369599423283200 == some .gt || FloatKind.f64.format.order t 4841369599423283200 == some .eq) = true := hs
    clear hs
    go_enter Try.func44, Try.ntmps44
    go_wp2_with fail
    go_ret
    exact ⟨rfl, rfl⟩
  · have k1 : (FloatKind.f64.format.order t 4841369599423283200 == some .gt) = false := (or_false2 hs).1
    have k2 : (FloatKind.f64.format.order t 4841369599423283200 == some .eq) = false := (or_false2 hs).2
    have k3 : (FloatKind.f64.format.order t 14064741636278059008 == some .lt || FloatKind.f64.format.order t 14064741636278059008 == some .eq) = true := ht
    clear hs ht
    go_enter Try.func44, Try.ntmps44
    go_wp2_with fail
    go_ret
    exact ⟨rfl, rfl⟩

set_option maxRecDepth 100000 in
set_option maxHeartbeats 4000000 in
theorem specSine_fin (t : Nat) (w : World) (h : finB .f64 t = true) (hb : bigV t = false) : Calls Try.prog 44 #[.float .f64 t] w fun e w' => e = .returned (.float .f64 (sineV t)) ∧ w = w' := by
  have q := sub64_fin h
  have o : (FloatKind.f64.format.order 0 0 != some .eq) = false := by decide
  obtain ⟨s, m, p, hr, hp⟩ := fin64 h
  obtain ⟨hlt, g1, g2⟩ := (big_ok hr hp).1 hb
  have m1 : (FloatKind.f64.format.order t 4841369599423283200 == some .gt) = false := (or_false2 g1).1
  have m2 : (FloatKind.f64.format.order t 4841369599423283200 == some .eq) = false := (or_false2 g1).2
  have m3 : (FloatKind.f64.format.order t 14064741636278059008 == some .lt) = false := (or_false2 g2).1
  have m4 : (FloatKind.f64.format.order t 14064741636278059008 == some .eq) = false := (or_false2 g2).2
  obtain ⟨h1, h2, h3⟩ := trunc_ok hr hp hlt
  obtain ⟨h4, hf⟩ := part_ok h3
  have n1 := conv_trunc h1
  have n2 := fun W => run_float_arith (P := Try.prog) W .sub 22 .f64 _ _ _ h2
  have n3 := fun W => run_float_arith (P := Try.prog) W .add 22 .f64 _ 4607182418800017408 _ h4
  have HPV : partV t = if ltB (fs t (floatOfInt .f64 (truncV t))) 0 then fa (fs t (floatOfInt .f64 (truncV t))) one else fs t (floatOfInt .f64 (truncV t)) := rfl
  rw [show sineV t = sinP (partV t) from rfl]
  clear h hb hr hp hlt g1 g2 h1 h2 h3 h4
  obtain ⟨a1, a2, a3, a4, a5, a6⟩ := sin_ok hf
  obtain ⟨a7, _⟩ := sinR_ok hf
  generalize partV t = f at *
  have HP := Lib.hid (fun j hj => sinPoly_ok a6 j hj)
  have q1 := fun W => run_float_arith (P := Try.prog) W .sub 22 .f64 f 4602678819172646912 _ a1
  have q4 := fun W => run_float_arith (P := Try.prog) W .mul 22 .f64 _ _ _ a4
  have q5 := fun W => run_float_arith (P := Try.prog) W .mul 22 .f64 _ _ _ a7
  have H1 : sin1 f = if geB f half then fs f half else f := rfl
  have H2 : sin2 f = if gtB (sin1 f) quarter then fs half (sin1 f) else sin1 f := rfl
  have HR : sinP f = if geB f half then Op.negFloat .f64 (sinR f) else sinR f := rfl
  clear a1 a4 a5 a6 a7 hf
  generalize fs t (floatOfInt .f64 (truncV t)) = f0 at *
  cases hl : ltB f0 0
  · have l1 : (FloatKind.f64.format.order f0 0 == some .lt) = false := hl
    simp only [hl, Bool.false_eq_true, if_false] at HPV
    subst HPV
    clear hl n3
    cases hg : geB f half
    · have k1 : (FloatKind.f64.format.order f 4602678819172646912 == some .gt) = false := (or_false2 hg).1
      have k2 : (FloatKind.f64.format.order f 4602678819172646912 == some .eq) = false := (or_false2 hg).2
      simp only [hg, Bool.false_eq_true, if_false] at H1 HR
      rw [HR]
      rw [H1] at a2 H2
      clear hg H1 HR
      cases hq : gtB f quarter
      · have k3 : (FloatKind.f64.format.order f 4598175219545276416 == some .gt) = false := hq
        simp only [hq, Bool.false_eq_true, if_false] at H2
        rw [H2] at a3
        have q3 := fun W => run_float_arith (P := Try.prog) W .mul 22 .f64 _ 4618760256179416344 _ a3
        clear hq H2 a2 a3
        obtain ⟨u, hu⟩ : ∃ u, u = fm (sinZ f) (sinZ f) := ⟨_, rfl⟩
        rw [← hu] at HP q4 q5
        clear hu
        generalize sinZ f = z at *
        generalize sinR f = r at *
        go_enter Try.func44, Try.ntmps44
        go_wp2_with fail
        go_loop [7, 8] (fun v i => ∃ k : Nat, ∃ kk : Int, k ≤ 8 ∧ Hid (kk = 8 - (k : Int)) ∧ i = .int .i64 kk ∧ v = .float .f64 (sinPoly u k)) (fun _ i => (intOf i).toNat)
        case atStart => exact ⟨0, 8, by omega, by simp [Hid], rfl, rfl⟩
        case round =>
          obtain ⟨k, kk, hk, hkk, rfl, rfl⟩ := hrel
          by_cases h8 : k < 8
          · obtain ⟨b1, b2, b3⟩ := HP.out k h8
            rw [show 8 - (k : Int) = kk from hkk.symm] at b2 b3
            generalize hp : sinPoly u (k + 1) = p' at *
            have HPP := Lib.hid hp
            clear hp
            generalize sinPoly u k = pp at *
            have v1 := fun W => run_float_arith (P := Try.prog) W .mul 22 .f64 _ _ _ b1
            have v2 := fun W => run_float_arith (P := Try.prog) W .quo 22 .f64 _ _ _ b2
            have v3 := fun W => run_float_arith (P := Try.prog) W .sub 22 .f64 4607182418800017408 _ _ b3
            clear b1 b2 b3
            have hc : kk = 8 ∨ kk = 7 ∨ kk = 6 ∨ kk = 5 ∨ kk = 4 ∨ kk = 3 ∨ kk = 2 ∨ kk = 1 := by have := hkk; unfold Hid at this; omega
            have HK := hkk
            rcases hc with rfl | rfl | rfl | rfl | rfl | rfl | rfl | rfl
            all_goals
              simp only [Int.reduceMul, Int.reduceAdd] at v2 v3
              go_wp2_with fail
              go_round
              case rel => exact ⟨k + 1, _, by omega, by have := HK; unfold Hid at this ⊢; omega, rfl, by rw [HPP.out]⟩
              case measure => simp [intOf]
          · have hk8 : k = 8 := by omega
            subst hk8
            have hk0 : kk = 0 := by have := hkk; unfold Hid at this; omega
            subst hk0
            go_wp2_with fail
            go_ret
            exact ⟨rfl, rfl⟩
      · have k3 : (FloatKind.f64.format.order f 4598175219545276416 == some .gt) = true := hq
        rw [hq, if_pos rfl] at H2
        rw [H2] at a3
        have q2 := fun W => run_float_arith (P := Try.prog) W .sub 22 .f64 4602678819172646912 _ _ a2
        have q3 := fun W => run_float_arith (P := Try.prog) W .mul 22 .f64 _ 4618760256179416344 _ a3
        clear hq H2 a2 a3
        generalize fs half f = f2 at *
        obtain ⟨u, hu⟩ : ∃ u, u = fm (sinZ f) (sinZ f) := ⟨_, rfl⟩
        rw [← hu] at HP q4 q5
        clear hu
        generalize sinZ f = z at *
        generalize sinR f = r at *
        go_enter Try.func44, Try.ntmps44
        go_wp2_with fail
        go_loop [7, 8] (fun v i => ∃ k : Nat, ∃ kk : Int, k ≤ 8 ∧ Hid (kk = 8 - (k : Int)) ∧ i = .int .i64 kk ∧ v = .float .f64 (sinPoly u k)) (fun _ i => (intOf i).toNat)
        case atStart => exact ⟨0, 8, by omega, by simp [Hid], rfl, rfl⟩
        case round =>
          obtain ⟨k, kk, hk, hkk, rfl, rfl⟩ := hrel
          by_cases h8 : k < 8
          · obtain ⟨b1, b2, b3⟩ := HP.out k h8
            rw [show 8 - (k : Int) = kk from hkk.symm] at b2 b3
            generalize hp : sinPoly u (k + 1) = p' at *
            have HPP := Lib.hid hp
            clear hp
            generalize sinPoly u k = pp at *
            have v1 := fun W => run_float_arith (P := Try.prog) W .mul 22 .f64 _ _ _ b1
            have v2 := fun W => run_float_arith (P := Try.prog) W .quo 22 .f64 _ _ _ b2
            have v3 := fun W => run_float_arith (P := Try.prog) W .sub 22 .f64 4607182418800017408 _ _ b3
            clear b1 b2 b3
            have hc : kk = 8 ∨ kk = 7 ∨ kk = 6 ∨ kk = 5 ∨ kk = 4 ∨ kk = 3 ∨ kk = 2 ∨ kk = 1 := by have := hkk; unfold Hid at this; omega
            have HK := hkk
            rcases hc with rfl | rfl | rfl | rfl | rfl | rfl | rfl | rfl
            all_goals
              simp only [Int.reduceMul, Int.reduceAdd] at v2 v3
              go_wp2_with fail
              go_round
              case rel => exact ⟨k + 1, _, by omega, by have := HK; unfold Hid at this ⊢; omega, rfl, by rw [HPP.out]⟩
              case measure => simp [intOf]
          · have hk8 : k = 8 := by omega
            subst hk8
            have hk0 : kk = 0 := by have := hkk; unfold Hid at this; omega
            subst hk0
            go_wp2_with fail
            go_ret
            exact ⟨rfl, rfl⟩
    · have HG := Lib.hid hg
      rw [hg, if_pos rfl] at H1 HR
      rw [HR]
      rw [H1] at a2 H2
      clear hg H1 HR
      generalize fs f half = f1 at *
      cases ho : (FloatKind.f64.format.order f 4602678819172646912 == some .gt)
      · have k2 : (FloatKind.f64.format.order f 4602678819172646912 == some .eq) = true := by
          have := HG.out
          unfold geB half at this
          rw [show Ieee.double = FloatKind.f64.format from rfl, ho] at this
          exact this
        clear HG
        cases hq : gtB f1 quarter
        · have k3 : (FloatKind.f64.format.order f1 4598175219545276416 == some .gt) = false := hq
          simp only [hq, Bool.false_eq_true, if_false] at H2
          rw [H2] at a3
          have q3 := fun W => run_float_arith (P := Try.prog) W .mul 22 .f64 _ 4618760256179416344 _ a3
          clear hq H2 a2 a3
          obtain ⟨u, hu⟩ : ∃ u, u = fm (sinZ f) (sinZ f) := ⟨_, rfl⟩
          rw [← hu] at HP q4 q5
          clear hu
          generalize sinZ f = z at *
          generalize sinR f = r at *
          go_enter Try.func44, Try.ntmps44
          go_wp2_with fail
          go_loop [7, 8] (fun v i => ∃ k : Nat, ∃ kk : Int, k ≤ 8 ∧ Hid (kk = 8 - (k : Int)) ∧ i = .int .i64 kk ∧ v = .float .f64 (sinPoly u k)) (fun _ i => (intOf i).toNat)
          case atStart => exact ⟨0, 8, by omega, by simp [Hid], rfl, rfl⟩
          case round =>
            obtain ⟨k, kk, hk, hkk, rfl, rfl⟩ := hrel
            by_cases h8 : k < 8
            · obtain ⟨b1, b2, b3⟩ := HP.out k h8
              rw [show 8 - (k : Int) = kk from hkk.symm] at b2 b3
              generalize hp : sinPoly u (k + 1) = p' at *
              have HPP := Lib.hid hp
              clear hp
              generalize sinPoly u k = pp at *
              have v1 := fun W => run_float_arith (P := Try.prog) W .mul 22 .f64 _ _ _ b1
              have v2 := fun W => run_float_arith (P := Try.prog) W .quo 22 .f64 _ _ _ b2
              have v3 := fun W => run_float_arith (P := Try.prog) W .sub 22 .f64 4607182418800017408 _ _ b3
              clear b1 b2 b3
              have hc : kk = 8 ∨ kk = 7 ∨ kk = 6 ∨ kk = 5 ∨ kk = 4 ∨ kk = 3 ∨ kk = 2 ∨ kk = 1 := by have := hkk; unfold Hid at this; omega
              have HK := hkk
              rcases hc with rfl | rfl | rfl | rfl | rfl | rfl | rfl | rfl
              all_goals
                simp only [Int.reduceMul, Int.reduceAdd] at v2 v3
                go_wp2_with fail
                go_round
                case rel => exact ⟨k + 1, _, by omega, by have := HK; unfold Hid at this ⊢; omega, rfl, by rw [HPP.out]⟩
                case measure => simp [intOf]
            · have hk8 : k = 8 := by omega
              subst hk8
              have hk0 : kk = 0 := by have := hkk; unfold Hid at this; omega
              subst hk0
              go_wp2_with fail
              go_ret
              exact ⟨rfl, rfl⟩
        · have k3 : (FloatKind.f64.format.order f1 4598175219545276416 == some .gt) = true := hq
          rw [hq, if_pos rfl] at H2
          rw [H2] at a3
          have q2 := fun W => run_float_arith (P := Try.prog) W .sub 22 .f64 4602678819172646912 _ _ a2
          have q3 := fun W => run_float_arith (P := Try.prog) W .mul 22 .f64 _ 4618760256179416344 _ a3
          clear hq H2 a2 a3
          generalize fs half f1 = f2 at *
          obtain ⟨u, hu⟩ : ∃ u, u = fm (sinZ f) (sinZ f) := ⟨_, rfl⟩
          rw [← hu] at HP q4 q5
          clear hu
          generalize sinZ f = z at *
          generalize sinR f = r at *
          go_enter Try.func44, Try.ntmps44
          go_wp2_with fail
          go_loop [7, 8] (fun v i => ∃ k : Nat, ∃ kk : Int, k ≤ 8 ∧ Hid (kk = 8 - (k : Int)) ∧ i = .int .i64 kk ∧ v = .float .f64 (sinPoly u k)) (fun _ i => (intOf i).toNat)
          case atStart => exact ⟨0, 8, by omega, by simp [Hid], rfl, rfl⟩
          case round =>
            obtain ⟨k, kk, hk, hkk, rfl, rfl⟩ := hrel
            by_cases h8 : k < 8
            · obtain ⟨b1, b2, b3⟩ := HP.out k h8
              rw [show 8 - (k : Int) = kk from hkk.symm] at b2 b3
              generalize hp : sinPoly u (k + 1) = p' at *
              have HPP := Lib.hid hp
              clear hp
              generalize sinPoly u k = pp at *
              have v1 := fun W => run_float_arith (P := Try.prog) W .mul 22 .f64 _ _ _ b1
              have v2 := fun W => run_float_arith (P := Try.prog) W .quo 22 .f64 _ _ _ b2
              have v3 := fun W => run_float_arith (P := Try.prog) W .sub 22 .f64 4607182418800017408 _ _ b3
              clear b1 b2 b3
              have hc : kk = 8 ∨ kk = 7 ∨ kk = 6 ∨ kk = 5 ∨ kk = 4 ∨ kk = 3 ∨ kk = 2 ∨ kk = 1 := by have := hkk; unfold Hid at this; omega
              have HK := hkk
              rcases hc with rfl | rfl | rfl | rfl | rfl | rfl | rfl | rfl
              all_goals
                simp only [Int.reduceMul, Int.reduceAdd] at v2 v3
                go_wp2_with fail
                go_round
                case rel => exact ⟨k + 1, _, by omega, by have := HK; unfold Hid at this ⊢; omega, rfl, by rw [HPP.out]⟩
                case measure => simp [intOf]
            · have hk8 : k = 8 := by omega
              subst hk8
              have hk0 : kk = 0 := by have := hkk; unfold Hid at this; omega
              subst hk0
              go_wp2_with fail
              go_ret
              exact ⟨rfl, rfl⟩
      · clear HG
        cases hq : gtB f1 quarter
        · have k3 : (FloatKind.f64.format.order f1 4598175219545276416 == some .gt) = false := hq
          simp only [hq, Bool.false_eq_true, if_false] at H2
          rw [H2] at a3
          have q3 := fun W => run_float_arith (P := Try.prog) W .mul 22 .f64 _ 4618760256179416344 _ a3
          clear hq H2 a2 a3
          obtain ⟨u, hu⟩ : ∃ u, u = fm (sinZ f) (sinZ f) := ⟨_, rfl⟩
          rw [← hu] at HP q4 q5
          clear hu
          generalize sinZ f = z at *
          generalize sinR f = r at *
          go_enter Try.func44, Try.ntmps44
          go_wp2_with fail
          go_loop [7, 8] (fun v i => ∃ k : Nat, ∃ kk : Int, k ≤ 8 ∧ Hid (kk = 8 - (k : Int)) ∧ i = .int .i64 kk ∧ v = .float .f64 (sinPoly u k)) (fun _ i => (intOf i).toNat)
          case atStart => exact ⟨0, 8, by omega, by simp [Hid], rfl, rfl⟩
          case round =>
            obtain ⟨k, kk, hk, hkk, rfl, rfl⟩ := hrel
            by_cases h8 : k < 8
            · obtain ⟨b1, b2, b3⟩ := HP.out k h8
              rw [show 8 - (k : Int) = kk from hkk.symm] at b2 b3
              generalize hp : sinPoly u (k + 1) = p' at *
              have HPP := Lib.hid hp
              clear hp
              generalize sinPoly u k = pp at *
              have v1 := fun W => run_float_arith (P := Try.prog) W .mul 22 .f64 _ _ _ b1
              have v2 := fun W => run_float_arith (P := Try.prog) W .quo 22 .f64 _ _ _ b2
              have v3 := fun W => run_float_arith (P := Try.prog) W .sub 22 .f64 4607182418800017408 _ _ b3
              clear b1 b2 b3
              have hc : kk = 8 ∨ kk = 7 ∨ kk = 6 ∨ kk = 5 ∨ kk = 4 ∨ kk = 3 ∨ kk = 2 ∨ kk = 1 := by have := hkk; unfold Hid at this; omega
              have HK := hkk
              rcases hc with rfl | rfl | rfl | rfl | rfl | rfl | rfl | rfl
              all_goals
                simp only [Int.reduceMul, Int.reduceAdd] at v2 v3
                go_wp2_with fail
                go_round
                case rel => exact ⟨k + 1, _, by omega, by have := HK; unfold Hid at this ⊢; omega, rfl, by rw [HPP.out]⟩
                case measure => simp [intOf]
            · have hk8 : k = 8 := by omega
              subst hk8
              have hk0 : kk = 0 := by have := hkk; unfold Hid at this; omega
              subst hk0
              go_wp2_with fail
              go_ret
              exact ⟨rfl, rfl⟩
        · have k3 : (FloatKind.f64.format.order f1 4598175219545276416 == some .gt) = true := hq
          rw [hq, if_pos rfl] at H2
          rw [H2] at a3
          have q2 := fun W => run_float_arith (P := Try.prog) W .sub 22 .f64 4602678819172646912 _ _ a2
          have q3 := fun W => run_float_arith (P := Try.prog) W .mul 22 .f64 _ 4618760256179416344 _ a3
          clear hq H2 a2 a3
          generalize fs half f1 = f2 at *
          obtain ⟨u, hu⟩ : ∃ u, u = fm (sinZ f) (sinZ f) := ⟨_, rfl⟩
          rw [← hu] at HP q4 q5
          clear hu
          generalize sinZ f = z at *
          generalize sinR f = r at *
          go_enter Try.func44, Try.ntmps44
          go_wp2_with fail
          go_loop [7, 8] (fun v i => ∃ k : Nat, ∃ kk : Int, k ≤ 8 ∧ Hid (kk = 8 - (k : Int)) ∧ i = .int .i64 kk ∧ v = .float .f64 (sinPoly u k)) (fun _ i => (intOf i).toNat)
          case atStart => exact ⟨0, 8, by omega, by simp [Hid], rfl, rfl⟩
          case round =>
            obtain ⟨k, kk, hk, hkk, rfl, rfl⟩ := hrel
            by_cases h8 : k < 8
            · obtain ⟨b1, b2, b3⟩ := HP.out k h8
              rw [show 8 - (k : Int) = kk from hkk.symm] at b2 b3
              generalize hp : sinPoly u (k + 1) = p' at *
              have HPP := Lib.hid hp
              clear hp
              generalize sinPoly u k = pp at *
              have v1 := fun W => run_float_arith (P := Try.prog) W .mul 22 .f64 _ _ _ b1
              have v2 := fun W => run_float_arith (P := Try.prog) W .quo 22 .f64 _ _ _ b2
              have v3 := fun W => run_float_arith (P := Try.prog) W .sub 22 .f64 4607182418800017408 _ _ b3
              clear b1 b2 b3
              have hc : kk = 8 ∨ kk = 7 ∨ kk = 6 ∨ kk = 5 ∨ kk = 4 ∨ kk = 3 ∨ kk = 2 ∨ kk = 1 := by have := hkk; unfold Hid at this; omega
              have HK := hkk
              rcases hc with rfl | rfl | rfl | rfl | rfl | rfl | rfl | rfl
              all_goals
                simp only [Int.reduceMul, Int.reduceAdd] at v2 v3
                go_wp2_with fail
                go_round
                case rel => exact ⟨k + 1, _, by omega, by have := HK; unfold Hid at this ⊢; omega, rfl, by rw [HPP.out]⟩
                case measure => simp [intOf]
            · have hk8 : k = 8 := by omega
              subst hk8
              have hk0 : kk = 0 := by have := hkk; unfold Hid at this; omega
              subst hk0
              go_wp2_with fail
              go_ret
              exact ⟨rfl, rfl⟩
  · have l1 : (FloatKind.f64.format.order f0 0 == some .lt) = true := hl
    rw [hl, if_pos rfl] at HPV
    rw [← HPV] at n3
    clear hl HPV
    cases hg : geB f half
    · have k1 : (FloatKind.f64.format.order f 4602678819172646912 == some .gt) = false := (or_false2 hg).1
      have k2 : (FloatKind.f64.format.order f 4602678819172646912 == some .eq) = false := (or_false2 hg).2
      simp only [hg, Bool.false_eq_true, if_false] at H1 HR
      rw [HR]
      rw [H1] at a2 H2
      clear hg H1 HR
      cases hq : gtB f quarter
      · have k3 : (FloatKind.f64.format.order f 4598175219545276416 == some .gt) = false := hq
        simp only [hq, Bool.false_eq_true, if_false] at H2
        rw [H2] at a3
        have q3 := fun W => run_float_arith (P := Try.prog) W .mul 22 .f64 _ 4618760256179416344 _ a3
        clear hq H2 a2 a3
        obtain ⟨u, hu⟩ : ∃ u, u = fm (sinZ f) (sinZ f) := ⟨_, rfl⟩
        rw [← hu] at HP q4 q5
        clear hu
        generalize sinZ f = z at *
        generalize sinR f = r at *
        go_enter Try.func44, Try.ntmps44
        go_wp2_with fail
        go_loop [7, 8] (fun v i => ∃ k : Nat, ∃ kk : Int, k ≤ 8 ∧ Hid (kk = 8 - (k : Int)) ∧ i = .int .i64 kk ∧ v = .float .f64 (sinPoly u k)) (fun _ i => (intOf i).toNat)
        case atStart => exact ⟨0, 8, by omega, by simp [Hid], rfl, rfl⟩
        case round =>
          obtain ⟨k, kk, hk, hkk, rfl, rfl⟩ := hrel
          by_cases h8 : k < 8
          · obtain ⟨b1, b2, b3⟩ := HP.out k h8
            rw [show 8 - (k : Int) = kk from hkk.symm] at b2 b3
            generalize hp : sinPoly u (k + 1) = p' at *
            have HPP := Lib.hid hp
            clear hp
            generalize sinPoly u k = pp at *
            have v1 := fun W => run_float_arith (P := Try.prog) W .mul 22 .f64 _ _ _ b1
            have v2 := fun W => run_float_arith (P := Try.prog) W .quo 22 .f64 _ _ _ b2
            have v3 := fun W => run_float_arith (P := Try.prog) W .sub 22 .f64 4607182418800017408 _ _ b3
            clear b1 b2 b3
            have hc : kk = 8 ∨ kk = 7 ∨ kk = 6 ∨ kk = 5 ∨ kk = 4 ∨ kk = 3 ∨ kk = 2 ∨ kk = 1 := by have := hkk; unfold Hid at this; omega
            have HK := hkk
            rcases hc with rfl | rfl | rfl | rfl | rfl | rfl | rfl | rfl
            all_goals
              simp only [Int.reduceMul, Int.reduceAdd] at v2 v3
              go_wp2_with fail
              go_round
              case rel => exact ⟨k + 1, _, by omega, by have := HK; unfold Hid at this ⊢; omega, rfl, by rw [HPP.out]⟩
              case measure => simp [intOf]
          · have hk8 : k = 8 := by omega
            subst hk8
            have hk0 : kk = 0 := by have := hkk; unfold Hid at this; omega
            subst hk0
            go_wp2_with fail
            go_ret
            exact ⟨rfl, rfl⟩
      · have k3 : (FloatKind.f64.format.order f 4598175219545276416 == some .gt) = true := hq
        rw [hq, if_pos rfl] at H2
        rw [H2] at a3
        have q2 := fun W => run_float_arith (P := Try.prog) W .sub 22 .f64 4602678819172646912 _ _ a2
        have q3 := fun W => run_float_arith (P := Try.prog) W .mul 22 .f64 _ 4618760256179416344 _ a3
        clear hq H2 a2 a3
        generalize fs half f = f2 at *
        obtain ⟨u, hu⟩ : ∃ u, u = fm (sinZ f) (sinZ f) := ⟨_, rfl⟩
        rw [← hu] at HP q4 q5
        clear hu
        generalize sinZ f = z at *
        generalize sinR f = r at *
        go_enter Try.func44, Try.ntmps44
        go_wp2_with fail
        go_loop [7, 8] (fun v i => ∃ k : Nat, ∃ kk : Int, k ≤ 8 ∧ Hid (kk = 8 - (k : Int)) ∧ i = .int .i64 kk ∧ v = .float .f64 (sinPoly u k)) (fun _ i => (intOf i).toNat)
        case atStart => exact ⟨0, 8, by omega, by simp [Hid], rfl, rfl⟩
        case round =>
          obtain ⟨k, kk, hk, hkk, rfl, rfl⟩ := hrel
          by_cases h8 : k < 8
          · obtain ⟨b1, b2, b3⟩ := HP.out k h8
            rw [show 8 - (k : Int) = kk from hkk.symm] at b2 b3
            generalize hp : sinPoly u (k + 1) = p' at *
            have HPP := Lib.hid hp
            clear hp
            generalize sinPoly u k = pp at *
            have v1 := fun W => run_float_arith (P := Try.prog) W .mul 22 .f64 _ _ _ b1
            have v2 := fun W => run_float_arith (P := Try.prog) W .quo 22 .f64 _ _ _ b2
            have v3 := fun W => run_float_arith (P := Try.prog) W .sub 22 .f64 4607182418800017408 _ _ b3
            clear b1 b2 b3
            have hc : kk = 8 ∨ kk = 7 ∨ kk = 6 ∨ kk = 5 ∨ kk = 4 ∨ kk = 3 ∨ kk = 2 ∨ kk = 1 := by have := hkk; unfold Hid at this; omega
            have HK := hkk
            rcases hc with rfl | rfl | rfl | rfl | rfl | rfl | rfl | rfl
            all_goals
              simp only [Int.reduceMul, Int.reduceAdd] at v2 v3
              go_wp2_with fail
              go_round
              case rel => exact ⟨k + 1, _, by omega, by have := HK; unfold Hid at this ⊢; omega, rfl, by rw [HPP.out]⟩
              case measure => simp [intOf]
          · have hk8 : k = 8 := by omega
            subst hk8
            have hk0 : kk = 0 := by have := hkk; unfold Hid at this; omega
            subst hk0
            go_wp2_with fail
            go_ret
            exact ⟨rfl, rfl⟩
    · have HG := Lib.hid hg
      rw [hg, if_pos rfl] at H1 HR
      rw [HR]
      rw [H1] at a2 H2
      clear hg H1 HR
      generalize fs f half = f1 at *
      cases ho : (FloatKind.f64.format.order f 4602678819172646912 == some .gt)
      · have k2 : (FloatKind.f64.format.order f 4602678819172646912 == some .eq) = true := by
          have := HG.out
          unfold geB half at this
          rw [show Ieee.double = FloatKind.f64.format from rfl, ho] at this
          exact this
        clear HG
        cases hq : gtB f1 quarter
        · have k3 : (FloatKind.f64.format.order f1 4598175219545276416 == some .gt) = false := hq
          simp only [hq, Bool.false_eq_true, if_false] at H2
          rw [H2] at a3
          have q3 := fun W => run_float_arith (P := Try.prog) W .mul 22 .f64 _ 4618760256179416344 _ a3
          clear hq H2 a2 a3
          obtain ⟨u, hu⟩ : ∃ u, u = fm (sinZ f) (sinZ f) := ⟨_, rfl⟩
          rw [← hu] at HP q4 q5
          clear hu
          generalize sinZ f = z at *
          generalize sinR f = r at *
          go_enter Try.func44, Try.ntmps44
          go_wp2_with fail
          go_loop [7, 8] (fun v i => ∃ k : Nat, ∃ kk : Int, k ≤ 8 ∧ Hid (kk = 8 - (k : Int)) ∧ i = .int .i64 kk ∧ v = .float .f64 (sinPoly u k)) (fun _ i => (intOf i).toNat)
          case atStart => exact ⟨0, 8, by omega, by simp [Hid], rfl, rfl⟩
          case round =>
            obtain ⟨k, kk, hk, hkk, rfl, rfl⟩ := hrel
            by_cases h8 : k < 8
            · obtain ⟨b1, b2, b3⟩ := HP.out k h8
              rw [show 8 - (k : Int) = kk from hkk.symm] at b2 b3
              generalize hp : sinPoly u (k + 1) = p' at *
              have HPP := Lib.hid hp
              clear hp
              generalize sinPoly u k = pp at *
              have v1 := fun W => run_float_arith (P := Try.prog) W .mul 22 .f64 _ _ _ b1
              have v2 := fun W => run_float_arith (P := Try.prog) W .quo 22 .f64 _ _ _ b2
              have v3 := fun W => run_float_arith (P := Try.prog) W .sub 22 .f64 4607182418800017408 _ _ b3
              clear b1 b2 b3
              have hc : kk = 8 ∨ kk = 7 ∨ kk = 6 ∨ kk = 5 ∨ kk = 4 ∨ kk = 3 ∨ kk = 2 ∨ kk = 1 := by have := hkk; unfold Hid at this; omega
              have HK := hkk
              rcases hc with rfl | rfl | rfl | rfl | rfl | rfl | rfl | rfl
              all_goals
                simp only [Int.reduceMul, Int.reduceAdd] at v2 v3
                go_wp2_with fail
                go_round
                case rel => exact ⟨k + 1, _, by omega, by have := HK; unfold Hid at this ⊢; omega, rfl, by rw [HPP.out]⟩
                case measure => simp [intOf]
            · have hk8 : k = 8 := by omega
              subst hk8
              have hk0 : kk = 0 := by have := hkk; unfold Hid at this; omega
              subst hk0
              go_wp2_with fail
              go_ret
              exact ⟨rfl, rfl⟩
        · have k3 : (FloatKind.f64.format.order f1 4598175219545276416 == some .gt) = true := hq
          rw [hq, if_pos rfl] at H2
          rw [H2] at a3
          have q2 := fun W => run_float_arith (P := Try.prog) W .sub 22 .f64 4602678819172646912 _ _ a2
          have q3 := fun W => run_float_arith (P := Try.prog) W .mul 22 .f64 _ 4618760256179416344 _ a3
          clear hq H2 a2 a3
          generalize fs half f1 = f2 at *
          obtain ⟨u, hu⟩ : ∃ u, u = fm (sinZ f) (sinZ f) := ⟨_, rfl⟩
          rw [← hu] at HP q4 q5
          clear hu
          generalize sinZ f = z at *
          generalize sinR f = r at *
          go_enter Try.func44, Try.ntmps44
          go_wp2_with fail
          go_loop [7, 8] (fun v i => ∃ k : Nat, ∃ kk : Int, k ≤ 8 ∧ Hid (kk = 8 - (k : Int)) ∧ i = .int .i64 kk ∧ v = .float .f64 (sinPoly u k)) (fun _ i => (intOf i).toNat)
          case atStart => exact ⟨0, 8, by omega, by simp [Hid], rfl, rfl⟩
          case round =>
            obtain ⟨k, kk, hk, hkk, rfl, rfl⟩ := hrel
            by_cases h8 : k < 8
            · obtain ⟨b1, b2, b3⟩ := HP.out k h8
              rw [show 8 - (k : Int) = kk from hkk.symm] at b2 b3
              generalize hp : sinPoly u (k + 1) = p' at *
              have HPP := Lib.hid hp
              clear hp
              generalize sinPoly u k = pp at *
              have v1 := fun W => run_float_arith (P := Try.prog) W .mul 22 .f64 _ _ _ b1
              have v2 := fun W => run_float_arith (P := Try.prog) W .quo 22 .f64 _ _ _ b2
              have v3 := fun W => run_float_arith (P := Try.prog) W .sub 22 .f64 4607182418800017408 _ _ b3
              clear b1 b2 b3
              have hc : kk = 8 ∨ kk = 7 ∨ kk = 6 ∨ kk = 5 ∨ kk = 4 ∨ kk = 3 ∨ kk = 2 ∨ kk = 1 := by have := hkk; unfold Hid at this; omega
              have HK := hkk
              rcases hc with rfl | rfl | rfl | rfl | rfl | rfl | rfl | rfl
              all_goals
                simp only [Int.reduceMul, Int.reduceAdd] at v2 v3
                go_wp2_with fail
                go_round
                case rel => exact ⟨k + 1, _, by omega, by have := HK; unfold Hid at this ⊢; omega, rfl, by rw [HPP.out]⟩
                case measure => simp [intOf]
            · have hk8 : k = 8 := by omega
              subst hk8
              have hk0 : kk = 0 := by have := hkk; unfold Hid at this; omega
              subst hk0
              go_wp2_with fail
              go_ret
              exact ⟨rfl, rfl⟩
      · clear HG
        cases hq : gtB f1 quarter
        · have k3 : (FloatKind.f64.format.order f1 4598175219545276416 == some .gt) = false := hq
          simp only [hq, Bool.false_eq_true, if_false] at H2
          rw [H2] at a3
          have q3 := fun W => run_float_arith (P := Try.prog) W .mul 22 .f64 _ 4618760256179416344 _ a3
          clear hq H2 a2 a3
          obtain ⟨u, hu⟩ : ∃ u, u = fm (sinZ f) (sinZ f) := ⟨_, rfl⟩
          rw [← hu] at HP q4 q5
          clear hu
          generalize sinZ f = z at *
          generalize sinR f = r at *
          go_enter Try.func44, Try.ntmps44
          go_wp2_with fail
          go_loop [7, 8] (fun v i => ∃ k : Nat, ∃ kk : Int, k ≤ 8 ∧ Hid (kk = 8 - (k : Int)) ∧ i = .int .i64 kk ∧ v = .float .f64 (sinPoly u k)) (fun _ i => (intOf i).toNat)
          case atStart => exact ⟨0, 8, by omega, by simp [Hid], rfl, rfl⟩
          case round =>
            obtain ⟨k, kk, hk, hkk, rfl, rfl⟩ := hrel
            by_cases h8 : k < 8
            · obtain ⟨b1, b2, b3⟩ := HP.out k h8
              rw [show 8 - (k : Int) = kk from hkk.symm] at b2 b3
              generalize hp : sinPoly u (k + 1) = p' at *
              have HPP := Lib.hid hp
              clear hp
              generalize sinPoly u k = pp at *
              have v1 := fun W => run_float_arith (P := Try.prog) W .mul 22 .f64 _ _ _ b1
              have v2 := fun W => run_float_arith (P := Try.prog) W .quo 22 .f64 _ _ _ b2
              have v3 := fun W => run_float_arith (P := Try.prog) W .sub 22 .f64 4607182418800017408 _ _ b3
              clear b1 b2 b3
              have hc : kk = 8 ∨ kk = 7 ∨ kk = 6 ∨ kk = 5 ∨ kk = 4 ∨ kk = 3 ∨ kk = 2 ∨ kk = 1 := by have := hkk; unfold Hid at this; omega
              have HK := hkk
              rcases hc with rfl | rfl | rfl | rfl | rfl | rfl | rfl | rfl
              all_goals
                simp only [Int.reduceMul, Int.reduceAdd] at v2 v3
                go_wp2_with fail
                go_round
                case rel => exact ⟨k + 1, _, by omega, by have := HK; unfold Hid at this ⊢; omega, rfl, by rw [HPP.out]⟩
                case measure => simp [intOf]
            · have hk8 : k = 8 := by omega
              subst hk8
              have hk0 : kk = 0 := by have := hkk; unfold Hid at this; omega
              subst hk0
              go_wp2_with fail
              go_ret
              exact ⟨rfl, rfl⟩
        · have k3 : (FloatKind.f64.format.order f1 4598175219545276416 == some .gt) = true := hq
          rw [hq, if_pos rfl] at H2
          rw [H2] at a3
          have q2 := fun W => run_float_arith (P := Try.prog) W .sub 22 .f64 4602678819172646912 _ _ a2
          have q3 := fun W => run_float_arith (P := Try.prog) W .mul 22 .f64 _ 4618760256179416344 _ a3
          clear hq H2 a2 a3
          generalize fs half f1 = f2 at *
          obtain ⟨u, hu⟩ : ∃ u, u = fm (sinZ f) (sinZ f) := ⟨_, rfl⟩
          rw [← hu] at HP q4 q5
          clear hu
          generalize sinZ f = z at *
          generalize sinR f = r at *
          go_enter Try.func44, Try.ntmps44
          go_wp2_with fail
          go_loop [7, 8] (fun v i => ∃ k : Nat, ∃ kk : Int, k ≤ 8 ∧ Hid (kk = 8 - (k : Int)) ∧ i = .int .i64 kk ∧ v = .float .f64 (sinPoly u k)) (fun _ i => (intOf i).toNat)
          case atStart => exact ⟨0, 8, by omega, by simp [Hid], rfl, rfl⟩
          case round =>
            obtain ⟨k, kk, hk, hkk, rfl, rfl⟩ := hrel
            by_cases h8 : k < 8
            · obtain ⟨b1, b2, b3⟩ := HP.out k h8
              rw [show 8 - (k : Int) = kk from hkk.symm] at b2 b3
              generalize hp : sinPoly u (k + 1) = p' at *
              have HPP := Lib.hid hp
              clear hp
              generalize sinPoly u k = pp at *
              have v1 := fun W => run_float_arith (P := Try.prog) W .mul 22 .f64 _ _ _ b1
              have v2 := fun W => run_float_arith (P := Try.prog) W .quo 22 .f64 _ _ _ b2
              have v3 := fun W => run_float_arith (P := Try.prog) W .sub 22 .f64 4607182418800017408 _ _ b3
              clear b1 b2 b3
              have hc : kk = 8 ∨ kk = 7 ∨ kk = 6 ∨ kk = 5 ∨ kk = 4 ∨ kk = 3 ∨ kk = 2 ∨ kk = 1 := by have := hkk; unfold Hid at this; omega
              have HK := hkk
              rcases hc with rfl | rfl | rfl | rfl | rfl | rfl | rfl | rfl
              all_goals
                simp only [Int.reduceMul, Int.reduceAdd] at v2 v3
                go_wp2_with fail
                go_round
                case rel => exact ⟨k + 1, _, by omega, by have := HK; unfold Hid at this ⊢; omega, rfl, by rw [HPP.out]⟩
                case measure => simp [intOf]
            · have hk8 : k = 8 := by omega
              subst hk8
              have hk0 : kk = 0 := by have := hkk; unfold Hid at this; omega
              subst hk0
              go_wp2_with fail
              go_ret
              exact ⟨rfl, rfl⟩

end Go.Proofs.Ytfmnfidocicjkaa
