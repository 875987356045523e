/- The law on angles of points. -/
import Derived.Test.YtfmnfidocicjkaaAngle
set_option linter.unusedVariables false
namespace Go.Proofs.Ytfmnfidocicjkaa
open Go.RowKit

theorem angleArgs {y x : Nat} (hy : finB .f32 y = true) (hx : finB .f32 x = true) : finB .f64 (wide y) = true ∧ finB .f64 (wide x) = true := by
  rw [wide_fin (fin_nan32 hy), wide_fin (fin_nan32 hx)]; exact ⟨hy, hx⟩

set_option maxHeartbeats 1000000 in
theorem implAngle_fin (y x : Nat) (w : World) (wy : (Lit.float .f32 y).wf = true) (wx : (Lit.float .f32 x).wf = true) (hy : finB .f32 y = true) (hx : finB .f32 x = true)
    (h0 : ((FloatKind.f32.format.order y 0 == some .eq) && (FloatKind.f32.format.order x 0 == some .eq)) = false) : Calls Try.prog 13 #[.float .f32 y, .float .f32 x] w fun e w' => e = .returned (.float .f32 (narrow (angleV (wide y) (wide x)))) ∧ ∃ n, w' = w.drewN n := by
  have ny := fin_nan32 hy
  have nx := fin_nan32 hx
  obtain ⟨fy, fx⟩ := angleArgs hy hx
  have h0' : ((Ieee.double.order (wide x) 0 == some .eq) && (Ieee.double.order (wide y) 0 == some .eq)) = false := by
    rw [wide_ord0 nx, wide_ord0 ny, Bool.and_comm]; exact h0
  obtain ⟨d1, d2, hB⟩ := quot_ok fy fx h0'
  obtain ⟨s1, s2, bA⟩ := angle_ok hB
  have IY := Lib.hid (fun W => implIsFinite_any y W wy)
  have IX := Lib.hid (fun W => implIsFinite_any x W wx)
  rw [hy] at IY
  rw [hx] at IX
  have cy := cv_some ny
  have cx := cv_some nx
  have AB1 := Lib.hid (fun W => Abs_any (wide y) W (wide_wf ny wy))
  have AB2 := Lib.hid (fun W => Abs_any (wide x) W (wide_wf nx wx))
  have FA := Lib.hid (fun W => flatAngle_any (quotV (wide y) (wide x)) W hB)
  have NW := Lib.hid (fun W => Narrow_bd bA (by omega) W)
  have u2 := fun W => run_float_arith (P := Try.prog) W .sub 22 .f64 _ _ _ s2
  clear hy hx fy fx h0' hB s2 bA wy wx
  rw [show angleV (wide y) (wide x) = if ltB (wide y) 0 then Op.negFloat .f64 (angle1 (wide y) (wide x)) else angle1 (wide y) (wide x) from rfl] at NW ⊢
  rw [show angle1 (wide y) (wide x) = if ltB (wide x) 0 then fs 4602678819172646912 (angle0 (wide y) (wide x)) else angle0 (wide y) (wide x) from rfl] at NW ⊢
  cases ho : gtB (wide y % 2 ^ 63) (wide x % 2 ^ 63)
  · have hq := d2 ho
    have HQ := Lib.hid (show quotV (wide y) (wide x) = fd (wide y % 2 ^ 63) (wide x % 2 ^ 63) by unfold quotV; rw [if_neg (by rw [ho]; decide)])
    have HA := Lib.hid (show angle0 (wide y) (wide x) = flatV (quotV (wide y) (wide x)) by unfold angle0; rw [if_neg (by rw [ho]; decide)])
    rw [← HQ.out] at hq
    have hgt : (FloatKind.f64.format.order (wide y % 2 ^ 63) (wide x % 2 ^ 63) == some .gt) = false := ho
    have u1 := fun W => run_float_arith (P := Try.prog) W .quo 22 .f64 _ _ _ hq
    rw [HA.out] at u2 NW ⊢
    clear d1 d2 ho hq HQ HA s1
    generalize quotV (wide y) (wide x) = t0 at *
    generalize flatV t0 = a0 at *
    cases hxl : ltB (wide x) 0
    · have lx : (FloatKind.f32.format.order x 0 == some .lt) = false := by rw [← hxl]; unfold ltB; rw [wide_ord0 nx]; rfl
      simp only [hxl, Bool.false_eq_true, if_false] at NW ⊢
      clear hxl
      cases hyl : ltB (wide y) 0
      · have ly : (FloatKind.f32.format.order y 0 == some .lt) = false := by rw [← hyl]; unfold ltB; rw [wide_ord0 ny]; rfl
        simp only [hyl, Bool.false_eq_true, if_false] at NW ⊢
        clear hyl nx ny
        cases hby : (FloatKind.f32.format.order y 0 == some .eq)
        · clear h0
          go_enter Try.func13, Try.ntmps13
          go_wp2_with fail
          refine (IY.out _).mono ?_
          rintro e w' ⟨rfl, n, rfl⟩
          go_wp2_with fail
          refine (IX.out _).mono ?_
          rintro e w' ⟨rfl, m, rfl⟩
          go_wp2_with fail
          refine (AB1.out _).mono ?_
          rintro e w' ⟨rfl, rfl⟩
          go_wp2_with fail
          refine (AB2.out _).mono ?_
          rintro e w' ⟨rfl, rfl⟩
          go_wp2_with fail
          refine (FA.out _).mono ?_
          rintro e w' ⟨rfl, rfl⟩
          go_wp2_with fail
          refine (NW.out _).mono ?_
          rintro e w' ⟨rfl, rfl⟩
          go_wp2_with fail
          go_ret
          exact ⟨rfl, _, rfl⟩
        · have hbx : (FloatKind.f32.format.order x 0 == some .eq) = false := by rw [hby] at h0; simpa using h0
          clear h0
          go_enter Try.func13, Try.ntmps13
          go_wp2_with fail
          refine (IY.out _).mono ?_
          rintro e w' ⟨rfl, n, rfl⟩
          go_wp2_with fail
          refine (IX.out _).mono ?_
          rintro e w' ⟨rfl, m, rfl⟩
          go_wp2_with fail
          refine (AB1.out _).mono ?_
          rintro e w' ⟨rfl, rfl⟩
          go_wp2_with fail
          refine (AB2.out _).mono ?_
          rintro e w' ⟨rfl, rfl⟩
          go_wp2_with fail
          refine (FA.out _).mono ?_
          rintro e w' ⟨rfl, rfl⟩
          go_wp2_with fail
          refine (NW.out _).mono ?_
          rintro e w' ⟨rfl, rfl⟩
          go_wp2_with fail
          go_ret
          exact ⟨rfl, _, rfl⟩
      · have ly : (FloatKind.f32.format.order y 0 == some .lt) = true := by rw [← hyl]; unfold ltB; rw [wide_ord0 ny]; rfl
        simp only [hyl, if_true] at NW ⊢
        clear hyl nx ny
        cases hby : (FloatKind.f32.format.order y 0 == some .eq)
        · clear h0
          go_enter Try.func13, Try.ntmps13
          go_wp2_with fail
          refine (IY.out _).mono ?_
          rintro e w' ⟨rfl, n, rfl⟩
          go_wp2_with fail
          refine (IX.out _).mono ?_
          rintro e w' ⟨rfl, m, rfl⟩
          go_wp2_with fail
          refine (AB1.out _).mono ?_
          rintro e w' ⟨rfl, rfl⟩
          go_wp2_with fail
          refine (AB2.out _).mono ?_
          rintro e w' ⟨rfl, rfl⟩
          go_wp2_with fail
          refine (FA.out _).mono ?_
          rintro e w' ⟨rfl, rfl⟩
          go_wp2_with fail
          refine (NW.out _).mono ?_
          rintro e w' ⟨rfl, rfl⟩
          go_wp2_with fail
          go_ret
          exact ⟨rfl, _, rfl⟩
        · have hbx : (FloatKind.f32.format.order x 0 == some .eq) = false := by rw [hby] at h0; simpa using h0
          clear h0
          go_enter Try.func13, Try.ntmps13
          go_wp2_with fail
          refine (IY.out _).mono ?_
          rintro e w' ⟨rfl, n, rfl⟩
          go_wp2_with fail
          refine (IX.out _).mono ?_
          rintro e w' ⟨rfl, m, rfl⟩
          go_wp2_with fail
          refine (AB1.out _).mono ?_
          rintro e w' ⟨rfl, rfl⟩
          go_wp2_with fail
          refine (AB2.out _).mono ?_
          rintro e w' ⟨rfl, rfl⟩
          go_wp2_with fail
          refine (FA.out _).mono ?_
          rintro e w' ⟨rfl, rfl⟩
          go_wp2_with fail
          refine (NW.out _).mono ?_
          rintro e w' ⟨rfl, rfl⟩
          go_wp2_with fail
          go_ret
          exact ⟨rfl, _, rfl⟩
    · have lx : (FloatKind.f32.format.order x 0 == some .lt) = true := by rw [← hxl]; unfold ltB; rw [wide_ord0 nx]; rfl
      simp only [hxl, if_true] at NW ⊢
      clear hxl
      cases hyl : ltB (wide y) 0
      · have ly : (FloatKind.f32.format.order y 0 == some .lt) = false := by rw [← hyl]; unfold ltB; rw [wide_ord0 ny]; rfl
        simp only [hyl, Bool.false_eq_true, if_false] at NW ⊢
        clear hyl nx ny
        cases hby : (FloatKind.f32.format.order y 0 == some .eq)
        · clear h0
          go_enter Try.func13, Try.ntmps13
          go_wp2_with fail
          refine (IY.out _).mono ?_
          rintro e w' ⟨rfl, n, rfl⟩
          go_wp2_with fail
          refine (IX.out _).mono ?_
          rintro e w' ⟨rfl, m, rfl⟩
          go_wp2_with fail
          refine (AB1.out _).mono ?_
          rintro e w' ⟨rfl, rfl⟩
          go_wp2_with fail
          refine (AB2.out _).mono ?_
          rintro e w' ⟨rfl, rfl⟩
          go_wp2_with fail
          refine (FA.out _).mono ?_
          rintro e w' ⟨rfl, rfl⟩
          go_wp2_with fail
          refine (NW.out _).mono ?_
          rintro e w' ⟨rfl, rfl⟩
          go_wp2_with fail
          go_ret
          exact ⟨rfl, _, rfl⟩
        · have hbx : (FloatKind.f32.format.order x 0 == some .eq) = false := by rw [hby] at h0; simpa using h0
          clear h0
          go_enter Try.func13, Try.ntmps13
          go_wp2_with fail
          refine (IY.out _).mono ?_
          rintro e w' ⟨rfl, n, rfl⟩
          go_wp2_with fail
          refine (IX.out _).mono ?_
          rintro e w' ⟨rfl, m, rfl⟩
          go_wp2_with fail
          refine (AB1.out _).mono ?_
          rintro e w' ⟨rfl, rfl⟩
          go_wp2_with fail
          refine (AB2.out _).mono ?_
          rintro e w' ⟨rfl, rfl⟩
          go_wp2_with fail
          refine (FA.out _).mono ?_
          rintro e w' ⟨rfl, rfl⟩
          go_wp2_with fail
          refine (NW.out _).mono ?_
          rintro e w' ⟨rfl, rfl⟩
          go_wp2_with fail
          go_ret
          exact ⟨rfl, _, rfl⟩
      · have ly : (FloatKind.f32.format.order y 0 == some .lt) = true := by rw [← hyl]; unfold ltB; rw [wide_ord0 ny]; rfl
        simp only [hyl, if_true] at NW ⊢
        clear hyl nx ny
        cases hby : (FloatKind.f32.format.order y 0 == some .eq)
        · clear h0
          go_enter Try.func13, Try.ntmps13
          go_wp2_with fail
          refine (IY.out _).mono ?_
          rintro e w' ⟨rfl, n, rfl⟩
          go_wp2_with fail
          refine (IX.out _).mono ?_
          rintro e w' ⟨rfl, m, rfl⟩
          go_wp2_with fail
          refine (AB1.out _).mono ?_
          rintro e w' ⟨rfl, rfl⟩
          go_wp2_with fail
          refine (AB2.out _).mono ?_
          rintro e w' ⟨rfl, rfl⟩
          go_wp2_with fail
          refine (FA.out _).mono ?_
          rintro e w' ⟨rfl, rfl⟩
          go_wp2_with fail
          refine (NW.out _).mono ?_
          rintro e w' ⟨rfl, rfl⟩
          go_wp2_with fail
          go_ret
          exact ⟨rfl, _, rfl⟩
        · have hbx : (FloatKind.f32.format.order x 0 == some .eq) = false := by rw [hby] at h0; simpa using h0
          clear h0
          go_enter Try.func13, Try.ntmps13
          go_wp2_with fail
          refine (IY.out _).mono ?_
          rintro e w' ⟨rfl, n, rfl⟩
          go_wp2_with fail
          refine (IX.out _).mono ?_
          rintro e w' ⟨rfl, m, rfl⟩
          go_wp2_with fail
          refine (AB1.out _).mono ?_
          rintro e w' ⟨rfl, rfl⟩
          go_wp2_with fail
          refine (AB2.out _).mono ?_
          rintro e w' ⟨rfl, rfl⟩
          go_wp2_with fail
          refine (FA.out _).mono ?_
          rintro e w' ⟨rfl, rfl⟩
          go_wp2_with fail
          refine (NW.out _).mono ?_
          rintro e w' ⟨rfl, rfl⟩
          go_wp2_with fail
          go_ret
          exact ⟨rfl, _, rfl⟩
  · have hq := d1 ho
    have HQ := Lib.hid (show quotV (wide y) (wide x) = fd (wide x % 2 ^ 63) (wide y % 2 ^ 63) by unfold quotV; rw [if_pos ho])
    have HA := Lib.hid (show angle0 (wide y) (wide x) = fs 4598175219545276416 (flatV (quotV (wide y) (wide x))) by unfold angle0; rw [if_pos ho])
    rw [← HQ.out] at hq
    have hgt : (FloatKind.f64.format.order (wide y % 2 ^ 63) (wide x % 2 ^ 63) == some .gt) = true := ho
    have u1 := fun W => run_float_arith (P := Try.prog) W .quo 22 .f64 _ _ _ hq
    have u3 := fun W => run_float_arith (P := Try.prog) W .sub 22 .f64 _ _ _ s1
    rw [← HA.out] at u3
    clear d1 d2 ho hq HQ HA s1
    generalize quotV (wide y) (wide x) = t0 at *
    generalize flatV t0 = fv at *
    generalize angle0 (wide y) (wide x) = a0 at *
    cases hxl : ltB (wide x) 0
    · have lx : (FloatKind.f32.format.order x 0 == some .lt) = false := by rw [← hxl]; unfold ltB; rw [wide_ord0 nx]; rfl
      simp only [hxl, Bool.false_eq_true, if_false] at NW ⊢
      clear hxl
      cases hyl : ltB (wide y) 0
      · have ly : (FloatKind.f32.format.order y 0 == some .lt) = false := by rw [← hyl]; unfold ltB; rw [wide_ord0 ny]; rfl
        simp only [hyl, Bool.false_eq_true, if_false] at NW ⊢
        clear hyl nx ny
        cases hby : (FloatKind.f32.format.order y 0 == some .eq)
        · clear h0
          go_enter Try.func13, Try.ntmps13
          go_wp2_with fail
          refine (IY.out _).mono ?_
          rintro e w' ⟨rfl, n, rfl⟩
          go_wp2_with fail
          refine (IX.out _).mono ?_
          rintro e w' ⟨rfl, m, rfl⟩
          go_wp2_with fail
          refine (AB1.out _).mono ?_
          rintro e w' ⟨rfl, rfl⟩
          go_wp2_with fail
          refine (AB2.out _).mono ?_
          rintro e w' ⟨rfl, rfl⟩
          go_wp2_with fail
          refine (FA.out _).mono ?_
          rintro e w' ⟨rfl, rfl⟩
          go_wp2_with fail
          refine (NW.out _).mono ?_
          rintro e w' ⟨rfl, rfl⟩
          go_wp2_with fail
          go_ret
          exact ⟨rfl, _, rfl⟩
        · have hbx : (FloatKind.f32.format.order x 0 == some .eq) = false := by rw [hby] at h0; simpa using h0
          clear h0
          go_enter Try.func13, Try.ntmps13
          go_wp2_with fail
          refine (IY.out _).mono ?_
          rintro e w' ⟨rfl, n, rfl⟩
          go_wp2_with fail
          refine (IX.out _).mono ?_
          rintro e w' ⟨rfl, m, rfl⟩
          go_wp2_with fail
          refine (AB1.out _).mono ?_
          rintro e w' ⟨rfl, rfl⟩
          go_wp2_with fail
          refine (AB2.out _).mono ?_
          rintro e w' ⟨rfl, rfl⟩
          go_wp2_with fail
          refine (FA.out _).mono ?_
          rintro e w' ⟨rfl, rfl⟩
          go_wp2_with fail
          refine (NW.out _).mono ?_
          rintro e w' ⟨rfl, rfl⟩
          go_wp2_with fail
          go_ret
          exact ⟨rfl, _, rfl⟩
      · have ly : (FloatKind.f32.format.order y 0 == some .lt) = true := by rw [← hyl]; unfold ltB; rw [wide_ord0 ny]; rfl
        simp only [hyl, if_true] at NW ⊢
        clear hyl nx ny
        cases hby : (FloatKind.f32.format.order y 0 == some .eq)
        · clear h0
          go_enter Try.func13, Try.ntmps13
          go_wp2_with fail
          refine (IY.out _).mono ?_
          rintro e w' ⟨rfl, n, rfl⟩
          go_wp2_with fail
          refine (IX.out _).mono ?_
          rintro e w' ⟨rfl, m, rfl⟩
          go_wp2_with fail
          refine (AB1.out _).mono ?_
          rintro e w' ⟨rfl, rfl⟩
          go_wp2_with fail
          refine (AB2.out _).mono ?_
          rintro e w' ⟨rfl, rfl⟩
          go_wp2_with fail
          refine (FA.out _).mono ?_
          rintro e w' ⟨rfl, rfl⟩
          go_wp2_with fail
          refine (NW.out _).mono ?_
          rintro e w' ⟨rfl, rfl⟩
          go_wp2_with fail
          go_ret
          exact ⟨rfl, _, rfl⟩
        · have hbx : (FloatKind.f32.format.order x 0 == some .eq) = false := by rw [hby] at h0; simpa using h0
          clear h0
          go_enter Try.func13, Try.ntmps13
          go_wp2_with fail
          refine (IY.out _).mono ?_
          rintro e w' ⟨rfl, n, rfl⟩
          go_wp2_with fail
          refine (IX.out _).mono ?_
          rintro e w' ⟨rfl, m, rfl⟩
          go_wp2_with fail
          refine (AB1.out _).mono ?_
          rintro e w' ⟨rfl, rfl⟩
          go_wp2_with fail
          refine (AB2.out _).mono ?_
          rintro e w' ⟨rfl, rfl⟩
          go_wp2_with fail
          refine (FA.out _).mono ?_
          rintro e w' ⟨rfl, rfl⟩
          go_wp2_with fail
          refine (NW.out _).mono ?_
          rintro e w' ⟨rfl, rfl⟩
          go_wp2_with fail
          go_ret
          exact ⟨rfl, _, rfl⟩
    · have lx : (FloatKind.f32.format.order x 0 == some .lt) = true := by rw [← hxl]; unfold ltB; rw [wide_ord0 nx]; rfl
      simp only [hxl, if_true] at NW ⊢
      clear hxl
      cases hyl : ltB (wide y) 0
      · have ly : (FloatKind.f32.format.order y 0 == some .lt) = false := by rw [← hyl]; unfold ltB; rw [wide_ord0 ny]; rfl
        simp only [hyl, Bool.false_eq_true, if_false] at NW ⊢
        clear hyl nx ny
        cases hby : (FloatKind.f32.format.order y 0 == some .eq)
        · clear h0
          go_enter Try.func13, Try.ntmps13
          go_wp2_with fail
          refine (IY.out _).mono ?_
          rintro e w' ⟨rfl, n, rfl⟩
          go_wp2_with fail
          refine (IX.out _).mono ?_
          rintro e w' ⟨rfl, m, rfl⟩
          go_wp2_with fail
          refine (AB1.out _).mono ?_
          rintro e w' ⟨rfl, rfl⟩
          go_wp2_with fail
          refine (AB2.out _).mono ?_
          rintro e w' ⟨rfl, rfl⟩
          go_wp2_with fail
          refine (FA.out _).mono ?_
          rintro e w' ⟨rfl, rfl⟩
          go_wp2_with fail
          refine (NW.out _).mono ?_
          rintro e w' ⟨rfl, rfl⟩
          go_wp2_with fail
          go_ret
          exact ⟨rfl, _, rfl⟩
        · have hbx : (FloatKind.f32.format.order x 0 == some .eq) = false := by rw [hby] at h0; simpa using h0
          clear h0
          go_enter Try.func13, Try.ntmps13
          go_wp2_with fail
          refine (IY.out _).mono ?_
          rintro e w' ⟨rfl, n, rfl⟩
          go_wp2_with fail
          refine (IX.out _).mono ?_
          rintro e w' ⟨rfl, m, rfl⟩
          go_wp2_with fail
          refine (AB1.out _).mono ?_
          rintro e w' ⟨rfl, rfl⟩
          go_wp2_with fail
          refine (AB2.out _).mono ?_
          rintro e w' ⟨rfl, rfl⟩
          go_wp2_with fail
          refine (FA.out _).mono ?_
          rintro e w' ⟨rfl, rfl⟩
          go_wp2_with fail
          refine (NW.out _).mono ?_
          rintro e w' ⟨rfl, rfl⟩
          go_wp2_with fail
          go_ret
          exact ⟨rfl, _, rfl⟩
      · have ly : (FloatKind.f32.format.order y 0 == some .lt) = true := by rw [← hyl]; unfold ltB; rw [wide_ord0 ny]; rfl
        simp only [hyl, if_true] at NW ⊢
        clear hyl nx ny
        cases hby : (FloatKind.f32.format.order y 0 == some .eq)
        · clear h0
          go_enter Try.func13, Try.ntmps13
          go_wp2_with fail
          refine (IY.out _).mono ?_
          rintro e w' ⟨rfl, n, rfl⟩
          go_wp2_with fail
          refine (IX.out _).mono ?_
          rintro e w' ⟨rfl, m, rfl⟩
          go_wp2_with fail
          refine (AB1.out _).mono ?_
          rintro e w' ⟨rfl, rfl⟩
          go_wp2_with fail
          refine (AB2.out _).mono ?_
          rintro e w' ⟨rfl, rfl⟩
          go_wp2_with fail
          refine (FA.out _).mono ?_
          rintro e w' ⟨rfl, rfl⟩
          go_wp2_with fail
          refine (NW.out _).mono ?_
          rintro e w' ⟨rfl, rfl⟩
          go_wp2_with fail
          go_ret
          exact ⟨rfl, _, rfl⟩
        · have hbx : (FloatKind.f32.format.order x 0 == some .eq) = false := by rw [hby] at h0; simpa using h0
          clear h0
          go_enter Try.func13, Try.ntmps13
          go_wp2_with fail
          refine (IY.out _).mono ?_
          rintro e w' ⟨rfl, n, rfl⟩
          go_wp2_with fail
          refine (IX.out _).mono ?_
          rintro e w' ⟨rfl, m, rfl⟩
          go_wp2_with fail
          refine (AB1.out _).mono ?_
          rintro e w' ⟨rfl, rfl⟩
          go_wp2_with fail
          refine (AB2.out _).mono ?_
          rintro e w' ⟨rfl, rfl⟩
          go_wp2_with fail
          refine (FA.out _).mono ?_
          rintro e w' ⟨rfl, rfl⟩
          go_wp2_with fail
          refine (NW.out _).mono ?_
          rintro e w' ⟨rfl, rfl⟩
          go_wp2_with fail
          go_ret
          exact ⟨rfl, _, rfl⟩
theorem implAngle_not (y x : Nat) (w : World) (wy : (Lit.float .f32 y).wf = true) (wx : (Lit.float .f32 x).wf = true) (h : finB .f32 y = false ∨ finB .f32 x = false) :
    Calls Try.prog 13 #[.float .f32 y, .float .f32 x] w fun e w' => e = .returned (.float .f32 2143289344) ∧ ∃ n, w' = w.drewN n := by
  have IY := Lib.hid (fun W => implIsFinite_any y W wy)
  have IX := Lib.hid (fun W => implIsFinite_any x W wx)
  cases hy : finB .f32 y
  · rw [hy] at IY
    clear h hy wy wx IX
    go_enter Try.func13, Try.ntmps13
    go_wp2_with fail
    refine (IY.out _).mono ?_
    rintro e w' ⟨rfl, n, rfl⟩
    go_wp2_with fail
    refine (notANumber_any _).mono ?_
    rintro e w' ⟨rfl, rfl⟩
    go_wp2_with fail
    go_ret
    exact ⟨rfl, _, rfl⟩
  · have hx : finB .f32 x = false := by rcases h with h | h; (rw [hy] at h; cases h); exact h
    rw [hy] at IY
    rw [hx] at IX
    clear h hy hx wy wx
    go_enter Try.func13, Try.ntmps13
    go_wp2_with fail
    refine (IY.out _).mono ?_
    rintro e w' ⟨rfl, n, rfl⟩
    go_wp2_with fail
    refine (IX.out _).mono ?_
    rintro e w' ⟨rfl, m, rfl⟩
    go_wp2_with fail
    refine (notANumber_any _).mono ?_
    rintro e w' ⟨rfl, rfl⟩
    go_wp2_with fail
    go_ret
    exact ⟨rfl, _, rfl⟩
theorem implAngle_zero (y x : Nat) (w : World) (wy : (Lit.float .f32 y).wf = true) (wx : (Lit.float .f32 x).wf = true) (hy : finB .f32 y = true) (hx : finB .f32 x = true)
    (h1 : (FloatKind.f32.format.order y 0 == some .eq) = true) (h2 : (FloatKind.f32.format.order x 0 == some .eq) = true) : Calls Try.prog 13 #[.float .f32 y, .float .f32 x] w fun e w' => e = .returned (.float .f32 0) ∧ ∃ n, w' = w.drewN n := by
  have IY := Lib.hid (fun W => implIsFinite_any y W wy)
  have IX := Lib.hid (fun W => implIsFinite_any x W wx)
  rw [hy] at IY
  rw [hx] at IX
  clear hy hx wy wx
  go_enter Try.func13, Try.ntmps13
  go_wp2_with fail
  refine (IY.out _).mono ?_
  rintro e w' ⟨rfl, n, rfl⟩
  go_wp2_with fail
  refine (IX.out _).mono ?_
  rintro e w' ⟨rfl, m, rfl⟩
  go_wp2_with fail
  go_ret
  exact ⟨rfl, _, rfl⟩

theorem specAngle_not (y x : Nat) (w : World) (h : finB .f32 y = false ∨ finB .f32 x = false) :
    Calls Try.prog 30 #[.float .f32 y, .float .f32 x] w fun e w' => SomeNaN .f32 e ∧ ∃ n, w' = w.drewN n := by
  cases hy : nanB .f32 y
  · have cy := cv_some hy
    cases hx : nanB .f32 x
    · have cx := cv_some hx
      have HN := Lib.hid (show finB .f64 (wide y) = false ∨ finB .f64 (wide x) = false by rw [wide_fin hy, wide_fin hx]; exact h)
      clear hy hx h
      go_enter Try.func30, Try.ntmps30
      go_wp2_with fail
      refine (wideAngle_not _ _ _ (HN.out)).mono ?_
      rintro e w' ⟨rfl, n, rfl⟩
      go_wp2_with fail
      refine (l01Narrow_nan (by decide) _).mono ?_
      rintro e w' ⟨⟨r, rfl, hr⟩, m, rfl⟩
      have HR := Lib.hid hr
      clear hr
      go_wp2_with fail
      go_ret
      exact ⟨⟨_, rfl, HR.out⟩, _, rfl⟩
    · have cx := cv_nan hx
      clear hy hx h
      go_enter Try.func30, Try.ntmps30
      go_wp2_with fail
      refine (wideAngle_not _ _ _ (.inr (fin_not_nan (nanOf_conv _ _ _)))).mono ?_
      rintro e w' ⟨rfl, n, rfl⟩
      go_wp2_with fail
      refine (l01Narrow_nan (by decide) _).mono ?_
      rintro e w' ⟨⟨r, rfl, hr⟩, m, rfl⟩
      have HR := Lib.hid hr
      clear hr
      go_wp2_with fail
      go_ret
      exact ⟨⟨_, rfl, HR.out⟩, _, rfl⟩
  · have cy := cv_nan hy
    cases hx : nanB .f32 x
    · have cx := cv_some hx
      clear hy hx h
      go_enter Try.func30, Try.ntmps30
      go_wp2_with fail
      refine (wideAngle_not _ _ _ (.inl (fin_not_nan (nanOf_conv _ _ _)))).mono ?_
      rintro e w' ⟨rfl, n, rfl⟩
      go_wp2_with fail
      refine (l01Narrow_nan (by decide) _).mono ?_
      rintro e w' ⟨⟨r, rfl, hr⟩, m, rfl⟩
      have HR := Lib.hid hr
      clear hr
      go_wp2_with fail
      go_ret
      exact ⟨⟨_, rfl, HR.out⟩, _, rfl⟩
    · have cx := cv_nan hx
      clear hy hx h
      go_enter Try.func30, Try.ntmps30
      go_wp2_with fail
      refine (wideAngle_not _ _ _ (.inl (fin_not_nan (nanOf_conv _ _ _)))).mono ?_
      rintro e w' ⟨rfl, n, rfl⟩
      go_wp2_with fail
      refine (l01Narrow_nan (by decide) _).mono ?_
      rintro e w' ⟨⟨r, rfl, hr⟩, m, rfl⟩
      have HR := Lib.hid hr
      clear hr
      go_wp2_with fail
      go_ret
      exact ⟨⟨_, rfl, HR.out⟩, _, rfl⟩
theorem specAngle_zero (y x : Nat) (w : World) (hy : finB .f32 y = true) (hx : finB .f32 x = true)
    (h1 : (FloatKind.f32.format.order y 0 == some .eq) = true) (h2 : (FloatKind.f32.format.order x 0 == some .eq) = true) : Calls Try.prog 30 #[.float .f32 y, .float .f32 x] w fun e w' => e = .returned (.float .f32 0) ∧ w = w' := by
  have ny := fin_nan32 hy
  have nx := fin_nan32 hx
  have cy := cv_some ny
  have cx := cv_some nx
  obtain ⟨fy, fx⟩ := angleArgs hy hx
  have k1 : (FloatKind.f64.format.order (wide y) 0 == some .eq) = true := by rw [show FloatKind.f64.format = Ieee.double from rfl, wide_ord0 ny]; exact h1
  have k2 : (FloatKind.f64.format.order (wide x) 0 == some .eq) = true := by rw [show FloatKind.f64.format = Ieee.double from rfl, wide_ord0 nx]; exact h2
  have HW := Lib.hid (fun W => wideAngle_zero (wide y) (wide x) W fy fx k2 k1)
  have n0 : narrow 0 = 0 := by decide
  have HN := Lib.hid (fun W => l01Narrow_bd B_zero (by omega) W)
  rw [n0] at HN
  clear hy hx h1 h2 ny nx fy fx k1 k2 n0
  go_enter Try.func30, Try.ntmps30
  go_wp2_with fail
  refine (HW.out _).mono ?_
  rintro e w' ⟨rfl, rfl⟩
  go_wp2_with fail
  refine (HN.out _).mono ?_
  rintro e w' ⟨rfl, rfl⟩
  go_wp2_with fail
  go_ret
  exact ⟨rfl, rfl⟩
theorem specAngle_fin (y x : Nat) (w : World) (wy : (Lit.float .f32 y).wf = true) (wx : (Lit.float .f32 x).wf = true) (hy : finB .f32 y = true) (hx : finB .f32 x = true)
    (h0 : ((FloatKind.f32.format.order y 0 == some .eq) && (FloatKind.f32.format.order x 0 == some .eq)) = false) : Calls Try.prog 30 #[.float .f32 y, .float .f32 x] w fun e w' => e = .returned (.float .f32 (narrow (angleV (wide y) (wide x)))) ∧ w = w' := by
  have ny := fin_nan32 hy
  have nx := fin_nan32 hx
  have cy := cv_some ny
  have cx := cv_some nx
  obtain ⟨fy, fx⟩ := angleArgs hy hx
  have h0' : ((Ieee.double.order (wide x) 0 == some .eq) && (Ieee.double.order (wide y) 0 == some .eq)) = false := by
    rw [wide_ord0 nx, wide_ord0 ny, Bool.and_comm]; exact h0
  have HW := Lib.hid (fun W => wideAngle_fin (wide y) (wide x) W (wide_wf ny wy) (wide_wf nx wx) fy fx h0')
  have HN := Lib.hid (fun W => l01Narrow_bd (angle_ok (quot_ok fy fx h0').2.2).2.2 (by omega) W)
  clear hy hx h0 h0' ny nx fy fx wy wx
  go_enter Try.func30, Try.ntmps30
  go_wp2_with fail
  refine (HW.out _).mono ?_
  rintro e w' ⟨rfl, rfl⟩
  go_wp2_with fail
  refine (HN.out _).mono ?_
  rintro e w' ⟨rfl, rfl⟩
  go_wp2_with fail
  go_ret
  exact ⟨rfl, rfl⟩
theorem specAngleTurns_of {y x : Nat} {w : World} {R : Ending → World → Prop} (h : Calls Try.prog 30 #[.float .f32 y, .float .f32 x] w fun e w' => (∃ r, e = .returned (.float .f32 r)) ∧ R e w') :
    Calls Try.prog 12 #[.float .f32 y, .float .f32 x] w (Wrap R) := by
  have H := Lib.hid h
  clear h
  go_enter Try.func12, Try.ntmps12
  go_wp2_with fail
  refine H.out.mono ?_
  rintro e w' ⟨⟨r, rfl⟩, hr⟩
  have HR := Lib.hid hr
  clear hr
  go_wp2_with fail
  go_ret
  exact HR.out

theorem fnExactAngleTurns.walk (y x : Nat) (w : World) (wy : (Lit.float .f32 y).wf = true) (wx : (Lit.float .f32 x).wf = true) : Calls Try.prog 4 #[.float .f32 y, .float .f32 x] w fun e w' => e = .returned (.bool true) ∧ Below w.heap.size w w' := by
  by_cases hf : finB .f32 y = true ∧ finB .f32 x = true
  · obtain ⟨hy, hx⟩ := hf
    cases h0 : ((FloatKind.f32.format.order y 0 == some .eq) && (FloatKind.f32.format.order x 0 == some .eq))
    · have HN := Lib.hid (narrow_bd (angle_ok (quot_ok (angleArgs hy hx).1 (angleArgs hy hx).2 (by rw [wide_ord0 (fin_nan32 hy), wide_ord0 (fin_nan32 hx), Bool.and_comm]; exact h0)).2.2).2.2 (by omega)).2
      have H1 := Lib.hid (fun W => specAngleTurns_of ((specAngle_fin y x W wy wx hy hx h0).mono fun e w' h => ⟨⟨_, h.1⟩, h⟩))
      have H2 := Lib.hid (fun W => implAngle_fin y x W wy wx hy hx h0)
      clear hy hx h0 wy wx
      generalize narrow (angleV (wide y) (wide x)) = v at *
      have hc := cv_some HN.out
      have HS := Lib.hid (same_wide HN.out)
      go_enter Try.func4, Try.ntmps4
      go_wp2_with fail
      refine (H1.out _).mono ?_
      rintro e w' ⟨rfl, rfl⟩
      go_wp2_with fail
      refine (H2.out _).mono ?_
      rintro e w' ⟨rfl, n, rfl⟩
      go_wp2_with fail
      refine (sameFloat_any _ _ _ HS.out).mono ?_
      rintro e w' ⟨rfl, rfl⟩
      go_wp2_with fail
      go_ret
      exact ⟨rfl, below_drewN (Below.refl _ _) _⟩
    · have k : (FloatKind.f32.format.order y 0 == some .eq) = true ∧ (FloatKind.f32.format.order x 0 == some .eq) = true := by rw [Bool.and_eq_true] at h0; exact h0
      have hn : nanB .f32 0 = false := by decide
      have H1 := Lib.hid (fun W => specAngleTurns_of ((specAngle_zero y x W hy hx k.1 k.2).mono fun e w' h => ⟨⟨_, h.1⟩, h⟩))
      have H2 := Lib.hid (fun W => implAngle_zero y x W wy wx hy hx k.1 k.2)
      have hc := cv_some hn
      have HS := Lib.hid (same_wide hn)
      clear hy hx h0 wy wx k hn
      go_enter Try.func4, Try.ntmps4
      go_wp2_with fail
      refine (H1.out _).mono ?_
      rintro e w' ⟨rfl, rfl⟩
      go_wp2_with fail
      refine (H2.out _).mono ?_
      rintro e w' ⟨rfl, n, rfl⟩
      go_wp2_with fail
      refine (sameFloat_any _ _ _ HS.out).mono ?_
      rintro e w' ⟨rfl, rfl⟩
      go_wp2_with fail
      go_ret
      exact ⟨rfl, below_drewN (Below.refl _ _) _⟩
  · have hf' : finB .f32 y = false ∨ finB .f32 x = false := by
      cases hy : finB .f32 y
      · exact .inl rfl
      · right
        cases hx : finB .f32 x
        · rfl
        · exact absurd ⟨hy, hx⟩ hf
    have H1 := Lib.hid (fun W => specAngleTurns_of ((specAngle_not y x W hf').mono fun e w' h => ⟨⟨h.1.choose, h.1.choose_spec.1⟩, h⟩))
    have H2 := Lib.hid (fun W => implAngle_not y x W wy wx hf')
    have c2 := cv_nan (show nanB .f32 2143289344 = true by decide)
    clear hf hf' wy wx
    go_enter Try.func4, Try.ntmps4
    go_wp2_with fail
    refine (H1.out _).mono ?_
    rintro e w' ⟨⟨r, rfl, hr⟩, n, rfl⟩
    have c1 := cv_nan hr
    clear hr
    go_wp2_with fail
    refine (H2.out _).mono ?_
    rintro e w' ⟨rfl, m, rfl⟩
    go_wp2_with fail
    refine (sameFloat_any _ _ _ (.inr ⟨nanOf_conv _ _ _, nanOf_conv _ _ _⟩)).mono ?_
    rintro e w' ⟨rfl, rfl⟩
    go_wp2_with fail
    go_ret
    exact ⟨rfl, below_drewN (Below.refl _ _) _⟩
end Go.Proofs.Ytfmnfidocicjkaa
