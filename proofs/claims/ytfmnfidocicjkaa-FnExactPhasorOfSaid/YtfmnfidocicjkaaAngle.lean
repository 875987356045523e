/- The angle of a point: the program and the model compute one function of the bits. -/
import Derived.Test.YtfmnfidocicjkaaWalkAng
import Derived.Test.YtfmnfidocicjkaaNarrow
import Derived.Test.YtfmnfidocicjkaaSine
set_option linter.unusedVariables false
namespace Go.Proofs.Ytfmnfidocicjkaa
open Go.RowKit

def quotV (y x : Nat) : Nat := if gtB (y % 2 ^ 63) (x % 2 ^ 63) then fd (x % 2 ^ 63) (y % 2 ^ 63) else fd (y % 2 ^ 63) (x % 2 ^ 63)
def angle0 (y x : Nat) : Nat := if gtB (y % 2 ^ 63) (x % 2 ^ 63) then fs 4598175219545276416 (flatV (quotV y x)) else flatV (quotV y x)
def angle1 (y x : Nat) : Nat := if ltB x 0 then fs 4602678819172646912 (angle0 y x) else angle0 y x
def angleV (y x : Nat) : Nat := if ltB y 0 then Op.negFloat .f64 (angle1 y x) else angle1 y x

theorem flatV_bd {t : Nat} (h : B 1075 t) : B 1101 (flatV t) := (flat_ok (atIter_bd h 3)).2.2.2.2.2

/-- What the quotient needs: finite numbers, not both zero. -/
theorem quot_ok {y x : Nat} (hy : finB .f64 y = true) (hx : finB .f64 x = true) (h0 : ((Ieee.double.order x 0 == some .eq) && (Ieee.double.order y 0 == some .eq)) = false) :
    (gtB (y % 2 ^ 63) (x % 2 ^ 63) = true → floatBits .quo .f64 (x % 2 ^ 63) (y % 2 ^ 63) = some (fd (x % 2 ^ 63) (y % 2 ^ 63))) ∧
    (gtB (y % 2 ^ 63) (x % 2 ^ 63) = false → floatBits .quo .f64 (y % 2 ^ 63) (x % 2 ^ 63) = some (fd (y % 2 ^ 63) (x % 2 ^ 63))) ∧ B 1075 (quotV y x) := by
  obtain ⟨s, m, i, hr, hi⟩ := fin64 hy
  obtain ⟨t, n, j, kr, hj⟩ := fin64 hx
  have ra : Ieee.double.read (y % 2 ^ 63) = .number false m i := by rw [show y % 2 ^ 63 = y % Ieee.double.signWeight from rfl, read_abs, hr]
  have rb : Ieee.double.read (x % 2 ^ 63) = .number false n j := by rw [show x % 2 ^ 63 = x % Ieee.double.signWeight from rfl, read_abs, kr]
  have hord : gtB (y % 2 ^ 63) (x % 2 ^ 63) = decide (n * 2 ^ (j + 1074).toNat < m * 2 ^ (i + 1074).toNat) := by
    unfold gtB Ieee.Format.order
    rw [ra, rb, Fl.order_num (L := -1074) hi hj]
    have e1 : ∀ z : Int, (z - -1074).toNat = (z + 1074).toNat := fun z => by congr 1
    rw [e1, e1]
    generalize m * 2 ^ (i + 1074).toNat = A
    generalize n * 2 ^ (j + 1074).toNat = C
    rw [show Fl.sv false A = (A : Int) from rfl, show Fl.sv false C = (C : Int) from rfl]
    by_cases h : C < A
    · rw [decide_eq_true h, Int.compare_eq_gt.2 (by omega)]; rfl
    · rw [decide_eq_false h]
      by_cases he : A = C
      · rw [Int.compare_eq_eq.2 (by omega)]; rfl
      · rw [Int.compare_eq_lt.2 (by omega)]; rfl
  have hz : ∀ z s m i, Ieee.double.read z = .number s m i → -1074 ≤ i → m * 2 ^ (i + 1074).toNat = 0 → (Ieee.double.order z 0 == some .eq) = true := by
    intro z s m i h1 h2 h3
    have h4 : Ieee.double.read 0 = .number false 0 (-1074) := by decide
    unfold Ieee.Format.order
    rw [h1, h4, Fl.order_num (L := -1074) h2 (Int.le_refl _)]
    have e1 : (i - -1074).toNat = (i + 1074).toNat := by congr 1
    rw [e1, h3, Nat.zero_mul]
    cases s <;> rfl
  unfold quotV
  by_cases h : n * 2 ^ (j + 1074).toNat < m * 2 ^ (i + 1074).toNat
  · have := quot_small rb ra hj hi (by omega) (by omega)
    rw [hord, decide_eq_true h]
    exact ⟨fun _ => this.1, (fun k => by cases k), this.2⟩
  · have hne : n * 2 ^ (j + 1074).toNat ≠ 0 := by
      intro hc
      have e1 := hz x t n j kr hj hc
      have e2 := hz y s m i hr hi (by omega)
      rw [e1, e2] at h0
      cases h0
    have := quot_small ra rb hi hj (by omega) hne
    rw [hord, decide_eq_false h]
    exact ⟨(fun k => by cases k), fun _ => this.1, this.2⟩

theorem angle_ok {y x : Nat} (h : B 1075 (quotV y x)) :
    floatBits .sub .f64 4598175219545276416 (flatV (quotV y x)) = some (fs 4598175219545276416 (flatV (quotV y x))) ∧ floatBits .sub .f64 4602678819172646912 (angle0 y x) = some (fs 4602678819172646912 (angle0 y x)) ∧ B 1103 (angleV y x) := by
  have b0 := flatV_bd h
  obtain ⟨a1, b1⟩ := fs_ok B_quarter b0 (by omega)
  have c1 : B 1102 (angle0 y x) := by
    unfold angle0
    split
    · exact b1.mono (by omega)
    · exact b0.mono (by omega)
  obtain ⟨a2, b2⟩ := fs_ok B_half c1 (by omega)
  have c2 : B 1103 (angle1 y x) := by
    unfold angle1
    split
    · exact b2.mono (by omega)
    · exact c1.mono (by omega)
  refine ⟨a1, a2, ?_⟩
  unfold angleV
  split
  · exact B_neg c2
  · exact c2


set_option maxRecDepth 100000 in
theorem wideAngle_not (y x : Nat) (w : World) (h : finB .f64 y = false ∨ finB .f64 x = false) : Calls Try.prog 50 #[.float .f64 y, .float .f64 x] w fun e w' => e = .returned (.float .f64 nan64) ∧ ∃ n, w' = w.drewN n := by
  cases hy : finB .f64 y
  · have q := sub64_nan hy
    have r := nanbits_ne y y
    clear h hy
    go_enter Try.func50, Try.ntmps50
    go_wp2_with (go_at_call 56; refine (NaN_any _).mono ?_; rintro e w' ⟨rfl, rfl⟩)
    go_ret
    exact ⟨rfl, 1, rfl⟩
  · have hx : finB .f64 x = false := by rcases h with h | h; (rw [hy] at h; cases h); exact h
    have q := sub64_fin hy
    have q2 := sub64_nan hx
    have r := nanbits_ne x x
    clear h hy hx
    go_enter Try.func50, Try.ntmps50
    go_wp2_with (go_at_call 56; refine (NaN_any _).mono ?_; rintro e w' ⟨rfl, rfl⟩)
    go_ret
    exact ⟨rfl, 1, rfl⟩

set_option maxRecDepth 100000 in
theorem wideAngle_zero (y x : Nat) (w : World) (hy : finB .f64 y = true) (hx : finB .f64 x = true) (h1 : (FloatKind.f64.format.order x 0 == some .eq) = true) (h2 : (FloatKind.f64.format.order y 0 == some .eq) = true) : Calls Try.prog 50 #[.float .f64 y, .float .f64 x] w fun e w' => e = .returned (.float .f64 0) ∧ w = w' := by
  have q := sub64_fin hy
  have q2 := sub64_fin hx
  have o : (FloatKind.f64.format.order 0 0 != some .eq) = false := by decide
  clear hy hx
  go_enter Try.func50, Try.ntmps50
  go_wp2_with fail
  go_ret
  exact ⟨rfl, rfl⟩

set_option maxRecDepth 100000 in
set_option maxHeartbeats 1000000 in
theorem wideAngle_fin (y x : Nat) (w : World) (wy : (Lit.float .f64 y).wf = true) (wx : (Lit.float .f64 x).wf = true) (hy : finB .f64 y = true) (hx : finB .f64 x = true)
    (h0 : ((Ieee.double.order x 0 == some .eq) && (Ieee.double.order y 0 == some .eq)) = false) : Calls Try.prog 50 #[.float .f64 y, .float .f64 x] w fun e w' => e = .returned (.float .f64 (angleV y x)) ∧ w = w' := by
  have q := sub64_fin hy
  have q2 := sub64_fin hx
  have o : (FloatKind.f64.format.order 0 0 != some .eq) = false := by decide
  obtain ⟨d1, d2, hB⟩ := quot_ok hy hx h0
  obtain ⟨s1, s2, _⟩ := angle_ok hB
  have HT := Lib.hid (atIter_bd hB)
  have HS := Lib.hid (fun i => atStep_ok (HT.out i))
  have HF := Lib.hid (flat_ok (HT.out 3))
  have HP := Lib.hid (fun j hj => atPoly_ok HF.out.2.1 j hj)
  have HV := Lib.hid (show angleV y x = if ltB y 0 then Op.negFloat .f64 (angle1 y x) else angle1 y x from rfl)
  have HV1 := Lib.hid (show angle1 y x = if ltB x 0 then fs 4602678819172646912 (angle0 y x) else angle0 y x from rfl)
  have u2 := fun W => run_float_arith (P := Try.prog) W .sub 22 .f64 _ _ _ s2
  clear hy hx s2
  have ab1 := fun W => Abs_any y W wy
  have ab2 := fun W => Abs_any x W wx
  have AB1 := Lib.hid ab1
  have AB2 := Lib.hid ab2
  clear ab1 ab2 wy wx
  cases ho : gtB (y % 2 ^ 63) (x % 2 ^ 63)
  · have hq := d2 ho
    have HQ := Lib.hid (show quotV y x = fd (y % 2 ^ 63) (x % 2 ^ 63) by unfold quotV; rw [if_neg (by rw [ho]; decide)])
    have HA := Lib.hid (show angle0 y x = flatV (quotV y x) by unfold angle0; rw [if_neg (by rw [ho]; decide)])
    rw [← HQ.out] at hq
    have hgt : (FloatKind.f64.format.order (y % 2 ^ 63) (x % 2 ^ 63) == some .gt) = false := ho
    have HI := Lib.hid (show flatV (quotV y x) = fd (fm eight (fm (atIter (quotV y x) 3) (atPoly (fm (atIter (quotV y x) 3) (atIter (quotV y x) 3)) 8))) turn from rfl)
    rw [HA.out] at u2 HV1
    clear d1 d2 ho
    generalize quotV y x = t0 at *
    generalize flatV t0 = fv at *
    have u1 := fun W => run_float_arith (P := Try.prog) W .quo 22 .f64 _ _ _ hq
    clear hq s1 HQ HA
    generalize y % 2 ^ 63 = ya at *
    generalize x % 2 ^ 63 = xa at *
    cases hz : (Ieee.double.order x 0 == some .eq)
    · have z1 : (FloatKind.f64.format.order x 0 == some .eq) = false := hz
      clear hz h0
      go_enter Try.func50, Try.ntmps50
      go_wp2_with fail
      refine (AB1.out _).mono ?_
      rintro e w' ⟨rfl, rfl⟩
      go_wp2_with fail
      refine (AB2.out _).mono ?_
      rintro e w' ⟨rfl, rfl⟩
      go_wp2_with fail
      have e8 : ∀ a b : Nat, a = b → Ending.returned (.float .f64 a) = .returned (.float .f64 b) := fun _ _ h => by rw [h]
      go_loop [8, 9] (fun v i => ∃ k : Nat, k ≤ 3 ∧ i = .int .i64 k ∧ v = .float .f64 (atIter t0 k)) (fun _ i => 3 - (intOf i).toNat)
      case atStart => exact ⟨0, by omega, rfl, rfl⟩
      case round =>
        obtain ⟨k, hk, rfl, rfl⟩ := hrel
        by_cases hlt : k < 3
        · obtain ⟨a1, a2, a3, a4, a5, _⟩ := HS.out k
          generalize hz : atStep (atIter t0 k) = z at *
          have HZ := Lib.hid hz
          clear hz
          have r1 := fun W => run_float_arith (P := Try.prog) W .mul 22 .f64 _ _ _ a1
          have r2 := fun W => run_float_arith (P := Try.prog) W .add 22 .f64 4607182418800017408 _ _ a2
          have r3 := fun W => Sqrt_any a3 W
          have r4 := fun W => run_float_arith (P := Try.prog) W .add 22 .f64 4607182418800017408 _ _ a4
          have r5 := fun W => run_float_arith (P := Try.prog) W .quo 22 .f64 _ _ _ a5
          clear a1 a2 a3 a4 a5
          have R3 := Lib.hid r3
          clear r3
          go_wp2_with fail
          refine (R3.out _).mono ?_
          rintro e w' ⟨rfl, rfl⟩
          go_wp2_with fail
          go_round
          case rel => exact ⟨k + 1, by omega, by go_num, by rw [← HZ.out]; rfl⟩
          case measure => simp [intOf]; omega
        · have hk3 : k = 3 := by omega
          subst hk3
          clear hlt hk
          obtain ⟨a1, _, a3, a4, a5, _⟩ := HF.out
          generalize atIter t0 3 = z at *
          rw [← HI.out] at a5
          have r1 := fun W => run_float_arith (P := Try.prog) W .mul 22 .f64 _ _ _ a1
          have r3 := fun W => run_float_arith (P := Try.prog) W .mul 22 .f64 _ _ _ a3
          have r4 := fun W => run_float_arith (P := Try.prog) W .mul 22 .f64 4620693217682128896 _ _ a4
          have r5 := fun W => run_float_arith (P := Try.prog) W .quo 22 .f64 _ 4618760256179416344 _ a5
          clear a1 a3 a4 a5
          go_wp2_with fail
          go_loop [11, 12] (fun v i => ∃ k : Nat, ∃ kk : Int, k ≤ 8 ∧ Hid (kk = 15 - 2 * (k : Int)) ∧ -1 ≤ kk ∧ kk ≤ 15 ∧ i = .int .i64 kk ∧ v = .float .f64 (atPoly (fm z z) k)) (fun _ i => (intOf i + 1).toNat)
          case atStart => exact ⟨0, 15, by omega, by simp [Hid], by omega, by omega, rfl, rfl⟩
          case round =>
            obtain ⟨k, kk, hk, hkk, hk1, hk2, rfl, rfl⟩ := hrel
            by_cases h1 : 1 ≤ kk
            · have hk8 : k < 8 := by have := hkk; unfold Hid at this; omega
              obtain ⟨b1, b2, b3⟩ := HP.out k hk8
              rw [show 15 - 2 * (k : Int) = kk from hkk.symm] at b1 b3
              generalize hp : atPoly (fm z z) (k + 1) = p' at *
              have HPP := Lib.hid hp
              clear hp
              generalize atPoly (fm z z) k = pp at *
              have v1 := fun W => run_float_arith (P := Try.prog) W .quo 22 .f64 4607182418800017408 _ _ b1
              have v2 := fun W => run_float_arith (P := Try.prog) W .mul 22 .f64 _ _ _ b2
              have v3 := fun W => run_float_arith (P := Try.prog) W .sub 22 .f64 _ _ _ b3
              clear b1 b2 b3
              go_wp2_with fail
              go_round
              case rel => exact ⟨k + 1, kk - 2, by omega, by have := hkk; unfold Hid at this ⊢; omega, by omega, by omega, rfl, by rw [HPP.out]⟩
              case measure => simp [intOf]; omega
            · have hk8 : k = 8 := by have := hkk; unfold Hid at this; omega
              subst hk8
              go_wp2_with fail
              all_goals
                go_ret
                refine ⟨e8 _ _ ?_, rfl⟩
                rw [HV.out, HV1.out]
                unfold ltB
                simp_all [FloatKind.format]
    · have z1 : (FloatKind.f64.format.order x 0 == some .eq) = true := hz
      have z2 : (FloatKind.f64.format.order y 0 == some .eq) = false := by rw [hz] at h0; exact h0
      clear hz h0
      go_enter Try.func50, Try.ntmps50
      go_wp2_with fail
      refine (AB1.out _).mono ?_
      rintro e w' ⟨rfl, rfl⟩
      go_wp2_with fail
      refine (AB2.out _).mono ?_
      rintro e w' ⟨rfl, rfl⟩
      go_wp2_with fail
      have e8 : ∀ a b : Nat, a = b → Ending.returned (.float .f64 a) = .returned (.float .f64 b) := fun _ _ h => by rw [h]
      go_loop [8, 9] (fun v i => ∃ k : Nat, k ≤ 3 ∧ i = .int .i64 k ∧ v = .float .f64 (atIter t0 k)) (fun _ i => 3 - (intOf i).toNat)
      case atStart => exact ⟨0, by omega, rfl, rfl⟩
      case round =>
        obtain ⟨k, hk, rfl, rfl⟩ := hrel
        by_cases hlt : k < 3
        · obtain ⟨a1, a2, a3, a4, a5, _⟩ := HS.out k
          generalize hz : atStep (atIter t0 k) = z at *
          have HZ := Lib.hid hz
          clear hz
          have r1 := fun W => run_float_arith (P := Try.prog) W .mul 22 .f64 _ _ _ a1
          have r2 := fun W => run_float_arith (P := Try.prog) W .add 22 .f64 4607182418800017408 _ _ a2
          have r3 := fun W => Sqrt_any a3 W
          have r4 := fun W => run_float_arith (P := Try.prog) W .add 22 .f64 4607182418800017408 _ _ a4
          have r5 := fun W => run_float_arith (P := Try.prog) W .quo 22 .f64 _ _ _ a5
          clear a1 a2 a3 a4 a5
          have R3 := Lib.hid r3
          clear r3
          go_wp2_with fail
          refine (R3.out _).mono ?_
          rintro e w' ⟨rfl, rfl⟩
          go_wp2_with fail
          go_round
          case rel => exact ⟨k + 1, by omega, by go_num, by rw [← HZ.out]; rfl⟩
          case measure => simp [intOf]; omega
        · have hk3 : k = 3 := by omega
          subst hk3
          clear hlt hk
          obtain ⟨a1, _, a3, a4, a5, _⟩ := HF.out
          generalize atIter t0 3 = z at *
          rw [← HI.out] at a5
          have r1 := fun W => run_float_arith (P := Try.prog) W .mul 22 .f64 _ _ _ a1
          have r3 := fun W => run_float_arith (P := Try.prog) W .mul 22 .f64 _ _ _ a3
          have r4 := fun W => run_float_arith (P := Try.prog) W .mul 22 .f64 4620693217682128896 _ _ a4
          have r5 := fun W => run_float_arith (P := Try.prog) W .quo 22 .f64 _ 4618760256179416344 _ a5
          clear a1 a3 a4 a5
          go_wp2_with fail
          go_loop [11, 12] (fun v i => ∃ k : Nat, ∃ kk : Int, k ≤ 8 ∧ Hid (kk = 15 - 2 * (k : Int)) ∧ -1 ≤ kk ∧ kk ≤ 15 ∧ i = .int .i64 kk ∧ v = .float .f64 (atPoly (fm z z) k)) (fun _ i => (intOf i + 1).toNat)
          case atStart => exact ⟨0, 15, by omega, by simp [Hid], by omega, by omega, rfl, rfl⟩
          case round =>
            obtain ⟨k, kk, hk, hkk, hk1, hk2, rfl, rfl⟩ := hrel
            by_cases h1 : 1 ≤ kk
            · have hk8 : k < 8 := by have := hkk; unfold Hid at this; omega
              obtain ⟨b1, b2, b3⟩ := HP.out k hk8
              rw [show 15 - 2 * (k : Int) = kk from hkk.symm] at b1 b3
              generalize hp : atPoly (fm z z) (k + 1) = p' at *
              have HPP := Lib.hid hp
              clear hp
              generalize atPoly (fm z z) k = pp at *
              have v1 := fun W => run_float_arith (P := Try.prog) W .quo 22 .f64 4607182418800017408 _ _ b1
              have v2 := fun W => run_float_arith (P := Try.prog) W .mul 22 .f64 _ _ _ b2
              have v3 := fun W => run_float_arith (P := Try.prog) W .sub 22 .f64 _ _ _ b3
              clear b1 b2 b3
              go_wp2_with fail
              go_round
              case rel => exact ⟨k + 1, kk - 2, by omega, by have := hkk; unfold Hid at this ⊢; omega, by omega, by omega, rfl, by rw [HPP.out]⟩
              case measure => simp [intOf]; omega
            · have hk8 : k = 8 := by have := hkk; unfold Hid at this; omega
              subst hk8
              go_wp2_with fail
              all_goals
                go_ret
                refine ⟨e8 _ _ ?_, rfl⟩
                rw [HV.out, HV1.out]
                unfold ltB
                simp_all [FloatKind.format]
  · have hq := d1 ho
    have HQ := Lib.hid (show quotV y x = fd (x % 2 ^ 63) (y % 2 ^ 63) by unfold quotV; rw [if_pos ho])
    have HA := Lib.hid (show angle0 y x = fs 4598175219545276416 (flatV (quotV y x)) by unfold angle0; rw [if_pos ho])
    rw [← HQ.out] at hq
    have hgt : (FloatKind.f64.format.order (y % 2 ^ 63) (x % 2 ^ 63) == some .gt) = true := ho
    have HI := Lib.hid (show flatV (quotV y x) = fd (fm eight (fm (atIter (quotV y x) 3) (atPoly (fm (atIter (quotV y x) 3) (atIter (quotV y x) 3)) 8))) turn from rfl)
    have u3 := fun W => run_float_arith (P := Try.prog) W .sub 22 .f64 _ _ _ s1
    rw [← HA.out] at u3
    clear d1 d2 ho
    generalize quotV y x = t0 at *
    generalize flatV t0 = fv at *
    generalize angle0 y x = a0 at *
    have u1 := fun W => run_float_arith (P := Try.prog) W .quo 22 .f64 _ _ _ hq
    clear hq s1 HQ HA
    generalize y % 2 ^ 63 = ya at *
    generalize x % 2 ^ 63 = xa at *
    cases hz : (Ieee.double.order x 0 == some .eq)
    · have z1 : (FloatKind.f64.format.order x 0 == some .eq) = false := hz
      clear hz h0
      go_enter Try.func50, Try.ntmps50
      go_wp2_with fail
      refine (AB1.out _).mono ?_
      rintro e w' ⟨rfl, rfl⟩
      go_wp2_with fail
      refine (AB2.out _).mono ?_
      rintro e w' ⟨rfl, rfl⟩
      go_wp2_with fail
      have e8 : ∀ a b : Nat, a = b → Ending.returned (.float .f64 a) = .returned (.float .f64 b) := fun _ _ h => by rw [h]
      go_loop [8, 9] (fun v i => ∃ k : Nat, k ≤ 3 ∧ i = .int .i64 k ∧ v = .float .f64 (atIter t0 k)) (fun _ i => 3 - (intOf i).toNat)
      case atStart => exact ⟨0, by omega, rfl, rfl⟩
      case round =>
        obtain ⟨k, hk, rfl, rfl⟩ := hrel
        by_cases hlt : k < 3
        · obtain ⟨a1, a2, a3, a4, a5, _⟩ := HS.out k
          generalize hz : atStep (atIter t0 k) = z at *
          have HZ := Lib.hid hz
          clear hz
          have r1 := fun W => run_float_arith (P := Try.prog) W .mul 22 .f64 _ _ _ a1
          have r2 := fun W => run_float_arith (P := Try.prog) W .add 22 .f64 4607182418800017408 _ _ a2
          have r3 := fun W => Sqrt_any a3 W
          have r4 := fun W => run_float_arith (P := Try.prog) W .add 22 .f64 4607182418800017408 _ _ a4
          have r5 := fun W => run_float_arith (P := Try.prog) W .quo 22 .f64 _ _ _ a5
          clear a1 a2 a3 a4 a5
          have R3 := Lib.hid r3
          clear r3
          go_wp2_with fail
          refine (R3.out _).mono ?_
          rintro e w' ⟨rfl, rfl⟩
          go_wp2_with fail
          go_round
          case rel => exact ⟨k + 1, by omega, by go_num, by rw [← HZ.out]; rfl⟩
          case measure => simp [intOf]; omega
        · have hk3 : k = 3 := by omega
          subst hk3
          clear hlt hk
          obtain ⟨a1, _, a3, a4, a5, _⟩ := HF.out
          generalize atIter t0 3 = z at *
          rw [← HI.out] at a5
          have r1 := fun W => run_float_arith (P := Try.prog) W .mul 22 .f64 _ _ _ a1
          have r3 := fun W => run_float_arith (P := Try.prog) W .mul 22 .f64 _ _ _ a3
          have r4 := fun W => run_float_arith (P := Try.prog) W .mul 22 .f64 4620693217682128896 _ _ a4
          have r5 := fun W => run_float_arith (P := Try.prog) W .quo 22 .f64 _ 4618760256179416344 _ a5
          clear a1 a3 a4 a5
          go_wp2_with fail
          go_loop [11, 12] (fun v i => ∃ k : Nat, ∃ kk : Int, k ≤ 8 ∧ Hid (kk = 15 - 2 * (k : Int)) ∧ -1 ≤ kk ∧ kk ≤ 15 ∧ i = .int .i64 kk ∧ v = .float .f64 (atPoly (fm z z) k)) (fun _ i => (intOf i + 1).toNat)
          case atStart => exact ⟨0, 15, by omega, by simp [Hid], by omega, by omega, rfl, rfl⟩
          case round =>
            obtain ⟨k, kk, hk, hkk, hk1, hk2, rfl, rfl⟩ := hrel
            by_cases h1 : 1 ≤ kk
            · have hk8 : k < 8 := by have := hkk; unfold Hid at this; omega
              obtain ⟨b1, b2, b3⟩ := HP.out k hk8
              rw [show 15 - 2 * (k : Int) = kk from hkk.symm] at b1 b3
              generalize hp : atPoly (fm z z) (k + 1) = p' at *
              have HPP := Lib.hid hp
              clear hp
              generalize atPoly (fm z z) k = pp at *
              have v1 := fun W => run_float_arith (P := Try.prog) W .quo 22 .f64 4607182418800017408 _ _ b1
              have v2 := fun W => run_float_arith (P := Try.prog) W .mul 22 .f64 _ _ _ b2
              have v3 := fun W => run_float_arith (P := Try.prog) W .sub 22 .f64 _ _ _ b3
              clear b1 b2 b3
              go_wp2_with fail
              go_round
              case rel => exact ⟨k + 1, kk - 2, by omega, by have := hkk; unfold Hid at this ⊢; omega, by omega, by omega, rfl, by rw [HPP.out]⟩
              case measure => simp [intOf]; omega
            · have hk8 : k = 8 := by have := hkk; unfold Hid at this; omega
              subst hk8
              go_wp2_with fail
              all_goals
                go_ret
                refine ⟨e8 _ _ ?_, rfl⟩
                rw [HV.out, HV1.out]
                unfold ltB
                simp_all [FloatKind.format]
    · have z1 : (FloatKind.f64.format.order x 0 == some .eq) = true := hz
      have z2 : (FloatKind.f64.format.order y 0 == some .eq) = false := by rw [hz] at h0; exact h0
      clear hz h0
      go_enter Try.func50, Try.ntmps50
      go_wp2_with fail
      refine (AB1.out _).mono ?_
      rintro e w' ⟨rfl, rfl⟩
      go_wp2_with fail
      refine (AB2.out _).mono ?_
      rintro e w' ⟨rfl, rfl⟩
      go_wp2_with fail
      have e8 : ∀ a b : Nat, a = b → Ending.returned (.float .f64 a) = .returned (.float .f64 b) := fun _ _ h => by rw [h]
      go_loop [8, 9] (fun v i => ∃ k : Nat, k ≤ 3 ∧ i = .int .i64 k ∧ v = .float .f64 (atIter t0 k)) (fun _ i => 3 - (intOf i).toNat)
      case atStart => exact ⟨0, by omega, rfl, rfl⟩
      case round =>
        obtain ⟨k, hk, rfl, rfl⟩ := hrel
        by_cases hlt : k < 3
        · obtain ⟨a1, a2, a3, a4, a5, _⟩ := HS.out k
          generalize hz : atStep (atIter t0 k) = z at *
          have HZ := Lib.hid hz
          clear hz
          have r1 := fun W => run_float_arith (P := Try.prog) W .mul 22 .f64 _ _ _ a1
          have r2 := fun W => run_float_arith (P := Try.prog) W .add 22 .f64 4607182418800017408 _ _ a2
          have r3 := fun W => Sqrt_any a3 W
          have r4 := fun W => run_float_arith (P := Try.prog) W .add 22 .f64 4607182418800017408 _ _ a4
          have r5 := fun W => run_float_arith (P := Try.prog) W .quo 22 .f64 _ _ _ a5
          clear a1 a2 a3 a4 a5
          have R3 := Lib.hid r3
          clear r3
          go_wp2_with fail
          refine (R3.out _).mono ?_
          rintro e w' ⟨rfl, rfl⟩
          go_wp2_with fail
          go_round
          case rel => exact ⟨k + 1, by omega, by go_num, by rw [← HZ.out]; rfl⟩
          case measure => simp [intOf]; omega
        · have hk3 : k = 3 := by omega
          subst hk3
          clear hlt hk
          obtain ⟨a1, _, a3, a4, a5, _⟩ := HF.out
          generalize atIter t0 3 = z at *
          rw [← HI.out] at a5
          have r1 := fun W => run_float_arith (P := Try.prog) W .mul 22 .f64 _ _ _ a1
          have r3 := fun W => run_float_arith (P := Try.prog) W .mul 22 .f64 _ _ _ a3
          have r4 := fun W => run_float_arith (P := Try.prog) W .mul 22 .f64 4620693217682128896 _ _ a4
          have r5 := fun W => run_float_arith (P := Try.prog) W .quo 22 .f64 _ 4618760256179416344 _ a5
          clear a1 a3 a4 a5
          go_wp2_with fail
          go_loop [11, 12] (fun v i => ∃ k : Nat, ∃ kk : Int, k ≤ 8 ∧ Hid (kk = 15 - 2 * (k : Int)) ∧ -1 ≤ kk ∧ kk ≤ 15 ∧ i = .int .i64 kk ∧ v = .float .f64 (atPoly (fm z z) k)) (fun _ i => (intOf i + 1).toNat)
          case atStart => exact ⟨0, 15, by omega, by simp [Hid], by omega, by omega, rfl, rfl⟩
          case round =>
            obtain ⟨k, kk, hk, hkk, hk1, hk2, rfl, rfl⟩ := hrel
            by_cases h1 : 1 ≤ kk
            · have hk8 : k < 8 := by have := hkk; unfold Hid at this; omega
              obtain ⟨b1, b2, b3⟩ := HP.out k hk8
              rw [show 15 - 2 * (k : Int) = kk from hkk.symm] at b1 b3
              generalize hp : atPoly (fm z z) (k + 1) = p' at *
              have HPP := Lib.hid hp
              clear hp
              generalize atPoly (fm z z) k = pp at *
              have v1 := fun W => run_float_arith (P := Try.prog) W .quo 22 .f64 4607182418800017408 _ _ b1
              have v2 := fun W => run_float_arith (P := Try.prog) W .mul 22 .f64 _ _ _ b2
              have v3 := fun W => run_float_arith (P := Try.prog) W .sub 22 .f64 _ _ _ b3
              clear b1 b2 b3
              go_wp2_with fail
              go_round
              case rel => exact ⟨k + 1, kk - 2, by omega, by have := hkk; unfold Hid at this ⊢; omega, by omega, by omega, rfl, by rw [HPP.out]⟩
              case measure => simp [intOf]; omega
            · have hk8 : k = 8 := by have := hkk; unfold Hid at this; omega
              subst hk8
              go_wp2_with fail
              all_goals
                go_ret
                refine ⟨e8 _ _ ?_, rfl⟩
                rw [HV.out, HV1.out]
                unfold ltB
                simp_all [FloatKind.format]
end Go.Proofs.Ytfmnfidocicjkaa
