/- The law on phasors. -/
import Derived.Test.YtfmnfidocicjkaaWalkC2
import Derived.Test.YtfmnfidocicjkaaPhas
import Derived.Laws.Cover3
set_option linter.unusedVariables false
namespace Go.Proofs.Ytfmnfidocicjkaa
open Go.RowKit

theorem small64 {x : Nat} (h : B 1075 x) : finB .f64 x = true ∧ bigV x = false ∧ ∃ s m p, Ieee.double.read x = .number s m p ∧ -1074 ≤ p ∧ m * 2 ^ (p + 1074).toNat < 2 ^ 52 * 2 ^ 1074 := by
  obtain ⟨K, hK⟩ : ∃ K : Nat, K = 1074 := ⟨_, rfl⟩
  have h' : B (K + 1) x := by rw [hK]; exact h
  obtain ⟨s, m, p, hr, hp, hv⟩ := h'
  clear h
  rw [least64] at hp hv
  have e1 : (p - -1074).toNat = (p + 1074).toNat := by congr 1
  rw [e1] at hv
  rw [← hK]
  have hv' : m * 2 ^ (p + 1074).toNat ≤ 2 * 2 ^ K := by
    rw [Nat.pow_succ] at hv
    omega
  clear hv
  have hpos := Nat.two_pow_pos K
  have hlt : m * 2 ^ (p + 1074).toNat < 2 ^ 52 * 2 ^ K := by omega
  refine ⟨by unfold finB; rw [show FloatKind.f64.decode x = _ from hr], ?_, s, m, p, hr, hp, hlt⟩
  have ra : Ieee.double.read (x % 2 ^ 63) = .number false m p := by rw [show x % 2 ^ 63 = x % Ieee.double.signWeight from rfl, read_abs, hr]
  have rc : Ieee.double.read big = .number false 4503599627370496 0 := by decide
  have e2 : (0 - -1074 : Int).toNat = K := by rw [hK]; decide
  have e3 : 4503599627370496 * 2 ^ K = 2 ^ 52 * 2 ^ K := rfl
  unfold bigV geB Ieee.Format.order
  rw [ra, rc, Fl.order_num (L := -1074) hp (by omega), e1, e2, e3]
  generalize 2 ^ 52 * 2 ^ K = X at *
  generalize m * 2 ^ (p + 1074).toNat = U at *
  have : Fl.sv false U < Fl.sv false X := by
    show (U : Int) < (X : Int)
    omega
  rw [Int.compare_eq_lt.2 this]
  rfl

theorem specSine_sm {x : Nat} (h : B 1075 x) (w : World) : Calls Try.prog 44 #[.float .f64 x] w fun e w' => e = .returned (.float .f64 (sineV x)) ∧ w = w' :=
  specSine_fin x w (small64 h).1 (small64 h).2.1
theorem implSine_sm {x : Nat} (h : B 1075 x) (w : World) : Calls Try.prog 28 #[.float .f64 x] w fun e w' => e = .returned (.float .f64 (sineV x)) ∧ w = w' := by
  obtain ⟨_, _, s, m, p, hr, hp, hlt⟩ := small64 h
  exact wideSine_any w (fun W => partOfTurn_any W hr hp hlt) (part_ok (trunc_ok hr hp hlt).2.2).2
theorem sineV_bd {x : Nat} (h : B 1075 x) : B 1184 (sineV x) := by
  obtain ⟨_, _, s, m, p, hr, hp, hlt⟩ := small64 h
  exact (sinR_ok (part_ok (trunc_ok hr hp hlt).2.2).2).2

theorem NarrowComplex_any {re im : Nat} (h1 : B 1185 re) (h2 : B 1185 im) (w : World) : Calls Try.prog 29 #[.complex .f64 re im] w fun e w' => e = .returned (.complex .f32 (narrow re) (narrow im)) ∧ w = w' := by
  have H1 := Lib.hid (fun W => Narrow_bd h1 (by omega) W)
  have H2 := Lib.hid (fun W => Narrow_bd h2 (by omega) W)
  clear h1 h2
  go_enter Try.func29, Try.ntmps29
  go_wp2_with fail
  refine (H1.out _).mono ?_
  rintro e w' ⟨rfl, rfl⟩
  go_wp2_with fail
  refine (H2.out _).mono ?_
  rintro e w' ⟨rfl, rfl⟩
  go_wp2_with fail
  go_ret
  exact ⟨rfl, rfl⟩

def phRe (k c s : Nat) : Nat := if k = 1 then fs 0 s else if k = 2 then fs 0 c else if k = 3 then s else c
def phIm (k c s : Nat) : Nat := if k = 1 then c else if k = 2 then fs 0 s else if k = 3 then fs 0 c else s
def phC (f k : Nat) : Nat := sineV (fs quarter (qF f k))
def phS (f k : Nat) : Nat := sineV (qF f k)
theorem ph_bd {f V k : Nat} (h : Rounds f V k) :
    floatBits .sub .f64 quarter (qF f k) = some (fs quarter (qF f k)) ∧ B 1075 (fs quarter (qF f k)) ∧ B 1075 (qF f k) ∧ floatBits .sub .f64 0 (phC f k) = some (fs 0 (phC f k)) ∧ floatBits .sub .f64 0 (phS f k) = some (fs 0 (phS f k)) ∧
      B 1185 (phC f k) ∧ B 1185 (phS f k) ∧ B 1185 (fs 0 (phC f k)) ∧ B 1185 (fs 0 (phS f k)) := by
  have hb := h.bd
  obtain ⟨a1, b1⟩ := fs_ok B_quarter hb (by omega)
  have b1' : B 1075 (fs quarter (qF f k)) := b1.mono (by omega)
  have hb' : B 1075 (qF f k) := hb.mono (by omega)
  have c1 := sineV_bd b1'
  have s1 := sineV_bd hb'
  obtain ⟨a2, b2⟩ := fs_ok B_zero c1 (by omega)
  obtain ⟨a3, b3⟩ := fs_ok B_zero s1 (by omega)
  exact ⟨a1, b1', hb', a2, a3, c1.mono (by omega), s1.mono (by omega), b2.mono (by omega), b3.mono (by omega)⟩

theorem implPh_any {t V : Nat} (w : World) (wt : (Lit.float .f64 t).wf = true) (hf : finB .f64 t = true) (hb : bigV t = false) (hP : Part (partV t) V) (hV : V ≤ 4 * Q1) :
    Calls Try.prog 10 #[.float .f64 t] w fun e w' => e = .returned (.complex .f32 (narrow (phRe (V / Q1) (phC (partV t) (V / Q1)) (phS (partV t) (V / Q1)))) (narrow (phIm (V / Q1) (phC (partV t) (V / Q1)) (phS (partV t) (V / Q1))))) ∧ w = w' := by
  obtain ⟨s, m, p, hr, hp⟩ := fin64 hf
  obtain ⟨hlt, g1, g2⟩ := (big_ok hr hp).1 hb
  have HF := Lib.hid (fun W => isFiniteWide_any t W wt)
  rw [hf] at HF
  have HA := Lib.hid (fun W => Abs_any t W wt)
  have HT := Lib.hid (fun W => partOfTurn_any W hr hp hlt)
  have m1 : (FloatKind.f64.format.order (t % 2 ^ 63) 4841369599423283200 == some .gt) = false := (or_false2 hb).1
  have m2 : (FloatKind.f64.format.order (t % 2 ^ 63) 4841369599423283200 == some .eq) = false := (or_false2 hb).2
  generalize partV t = f at *
  clear hr hp hlt g1 g2 hb hf wt
  generalize t % 2 ^ 63 = t' at *
  have H0 := Lib.hid (Rounds.zero hP hV)
  clear hP hV
  go_enter Try.func10, Try.ntmps10
  go_wp2_with fail
  refine (HF.out _).mono ?_
  rintro e w' ⟨rfl, rfl⟩
  go_wp2_with fail
  refine (HA.out _).mono ?_
  rintro e w' ⟨rfl, rfl⟩
  go_wp2_with fail
  refine (HT.out _).mono ?_
  rintro e w' ⟨rfl, rfl⟩
  go_wp2_with fail
  go_loop [3, 4] (fun v i => ∃ k : Nat, k ≤ 4 ∧ i = .int .i64 k ∧ v = .float .f64 (qF f k) ∧ Hid (Rounds f V k)) (fun _ i => 4 - (intOf i).toNat)
  case atStart => exact ⟨0, by omega, rfl, rfl, H0⟩
  case round =>
    obtain ⟨k, hk, rfl, rfl, HR⟩ := hrel
    cases hg : geB (qF f k) quarter
    · skip
      have k1 : (FloatKind.f64.format.order (qF f k) 4598175219545276416 == some .gt) = false := (or_false2 hg).1
      have k2 : (FloatKind.f64.format.order (qF f k) 4598175219545276416 == some .eq) = false := (or_false2 hg).2
      have hkV := Lib.hid (HR.out.done hg)
      obtain ⟨a1, a2, a3, a4, a5, a6, a7, a8, a9⟩ := ph_bd HR.out
      have HC := Lib.hid (fun W => implSine_sm a2 W)
      have HS := Lib.hid (fun W => implSine_sm a3 W)
      have q1 := fun W => run_float_arith (P := Try.prog) W .sub 22 .f64 4598175219545276416 _ _ a1
      have q2 := fun W => run_float_arith (P := Try.prog) W .sub 22 .f64 0 _ _ a4
      have q3 := fun W => run_float_arith (P := Try.prog) W .sub 22 .f64 0 _ _ a5
      have hkk : k = 0 ∨ k = 1 ∨ k = 2 ∨ k = 3 ∨ k = 4 := by omega
      rw [show sineV (fs quarter (qF f k)) = phC f k from rfl] at HC
      rw [show sineV (qF f k) = phS f k from rfl] at HS
      clear a1 a2 a3 a4 a5 hg hk HR
      generalize hc0 : phC f k = c at *
      generalize hs0 : phS f k = s at *
      have hc := Lib.hid hc0
      have hs := Lib.hid hs0
      clear hc0 hs0
      generalize fs quarter (qF f k) = y at *
      generalize qF f k = x at *
      rcases hkk with rfl | rfl | rfl | rfl | rfl
      · have HN := Lib.hid (fun W => NarrowComplex_any a6 a7 W)
        clear a6 a7 a8 a9
        go_wp2_with fail
        refine (HC.out _).mono ?_
        rintro e w' ⟨rfl, rfl⟩
        go_wp2_with fail
        refine (HS.out _).mono ?_
        rintro e w' ⟨rfl, rfl⟩
        go_wp2_with fail
        refine (HN.out _).mono ?_
        rintro e w' ⟨rfl, rfl⟩
        go_wp2_with fail
        go_ret
        exact ⟨by rw [← hkV.out, hc.out, hs.out]; rfl, rfl⟩
      · have HN := Lib.hid (fun W => NarrowComplex_any a9 a6 W)
        clear a6 a7 a8 a9
        go_wp2_with fail
        refine (HC.out _).mono ?_
        rintro e w' ⟨rfl, rfl⟩
        go_wp2_with fail
        refine (HS.out _).mono ?_
        rintro e w' ⟨rfl, rfl⟩
        go_wp2_with fail
        refine (HN.out _).mono ?_
        rintro e w' ⟨rfl, rfl⟩
        go_wp2_with fail
        go_ret
        exact ⟨by rw [← hkV.out, hc.out, hs.out]; rfl, rfl⟩
      · have HN := Lib.hid (fun W => NarrowComplex_any a8 a9 W)
        clear a6 a7 a8 a9
        go_wp2_with fail
        refine (HC.out _).mono ?_
        rintro e w' ⟨rfl, rfl⟩
        go_wp2_with fail
        refine (HS.out _).mono ?_
        rintro e w' ⟨rfl, rfl⟩
        go_wp2_with fail
        refine (HN.out _).mono ?_
        rintro e w' ⟨rfl, rfl⟩
        go_wp2_with fail
        go_ret
        exact ⟨by rw [← hkV.out, hc.out, hs.out]; rfl, rfl⟩
      · have HN := Lib.hid (fun W => NarrowComplex_any a7 a8 W)
        clear a6 a7 a8 a9
        go_wp2_with fail
        refine (HC.out _).mono ?_
        rintro e w' ⟨rfl, rfl⟩
        go_wp2_with fail
        refine (HS.out _).mono ?_
        rintro e w' ⟨rfl, rfl⟩
        go_wp2_with fail
        refine (HN.out _).mono ?_
        rintro e w' ⟨rfl, rfl⟩
        go_wp2_with fail
        go_ret
        exact ⟨by rw [← hkV.out, hc.out, hs.out]; rfl, rfl⟩
      · have HN := Lib.hid (fun W => NarrowComplex_any a6 a7 W)
        clear a6 a7 a8 a9
        go_wp2_with fail
        refine (HC.out _).mono ?_
        rintro e w' ⟨rfl, rfl⟩
        go_wp2_with fail
        refine (HS.out _).mono ?_
        rintro e w' ⟨rfl, rfl⟩
        go_wp2_with fail
        refine (HN.out _).mono ?_
        rintro e w' ⟨rfl, rfl⟩
        go_wp2_with fail
        go_ret
        exact ⟨by rw [← hkV.out, hc.out, hs.out]; rfl, rfl⟩
    · skip
      obtain ⟨hq, hR⟩ := HR.out.more hg
      have hk4 := hR.le
      have HR2 := Lib.hid hR
      have q1 := fun W => run_float_arith (P := Try.prog) W .sub 22 .f64 (qF f k) 4598175219545276416 _ hq
      have HG := Lib.hid hg
      clear hg hq hR HR
      generalize hx : qF f (k + 1) = y at *
      have hx' := Lib.hid hx
      clear hx
      generalize qF f k = x at *
      cases ho : (FloatKind.f64.format.order x 4598175219545276416 == some .gt)
      · have k2 : (FloatKind.f64.format.order x 4598175219545276416 == some .eq) = true := by
          have := HG.out
          unfold geB quarter at this
          rw [show Ieee.double = FloatKind.f64.format from rfl, ho] at this
          exact this
        clear HG
        go_wp2_with fail
        exact ⟨⟨k + 1, by omega, by simp, by rw [hx'.out], HR2⟩, by simp [intOf]; omega⟩
      · clear HG
        go_wp2_with fail
        exact ⟨⟨k + 1, by omega, by simp, by rw [hx'.out], HR2⟩, by simp [intOf]; omega⟩

theorem implPh_not {t : Nat} (w : World) (wt : (Lit.float .f64 t).wf = true) (hf : finB .f64 t = false) :
    Calls Try.prog 10 #[.float .f64 t] w fun e w' => e = .returned (.complex .f32 2143289344 2143289344) ∧ ∃ n, w' = w.drewN n := by
  have HF := Lib.hid (fun W => isFiniteWide_any t W wt)
  rw [hf] at HF
  clear hf wt
  go_enter Try.func10, Try.ntmps10
  go_wp2_with fail
  refine (HF.out _).mono ?_
  rintro e w' ⟨rfl, rfl⟩
  go_wp2_with fail
  refine (notANumber_any _).mono ?_
  rintro e w' ⟨rfl, rfl⟩
  go_wp2_with fail
  refine (notANumber_any _).mono ?_
  rintro e w' ⟨rfl, rfl⟩
  go_wp2_with fail
  go_ret
  exact ⟨rfl, 0, rfl⟩
theorem implPh_big {t : Nat} (w : World) (wt : (Lit.float .f64 t).wf = true) (hf : finB .f64 t = true) (hb : bigV t = true) :
    Calls Try.prog 10 #[.float .f64 t] w fun e w' => e = .returned (.complex .f32 1065353216 0) ∧ ∃ n, w' = w.drewN n := by
  have HF := Lib.hid (fun W => isFiniteWide_any t W wt)
  rw [hf] at HF
  have HA := Lib.hid (fun W => Abs_any t W wt)
  have m1 : (FloatKind.f64.format.order (t % 2 ^ 63) 4841369599423283200 == some .gt || FloatKind.f64.format.order (t % 2 ^ 63) 4841369599423283200 == some .eq) = true := hb
  clear hb hf wt
  generalize t % 2 ^ 63 = t' at *
  go_enter Try.func10, Try.ntmps10
  go_wp2_with fail
  refine (HF.out _).mono ?_
  rintro e w' ⟨rfl, rfl⟩
  go_wp2_with fail
  refine (HA.out _).mono ?_
  rintro e w' ⟨rfl, rfl⟩
  go_wp2_with fail
  go_ret
  exact ⟨rfl, 0, rfl⟩

theorem l01From_nan (w : World) : Calls Try.prog 43 #[.int .i64 2143289344] w fun e w' => e = .returned (.float .f32 2143289344) ∧ w = w' := by
  go_enter Try.func43, Try.ntmps43
  go_wp2
  go_ret
  exact ⟨rfl, rfl⟩
theorem specPh_not (t : Nat) (w : World) (h : finB .f64 t = false) : Calls Try.prog 23 #[.float .f64 t] w fun e w' => e = .returned (.complex .f32 2143289344 2143289344) ∧ ∃ n, w' = w.drewN n := by
  have q := sub64_nan h
  have r := nanbits_ne t t
  clear h
  go_enter Try.func23, Try.ntmps23
  go_wp2_with fail
  refine (l01From_nan _).mono ?_
  rintro e w' ⟨rfl, rfl⟩
  go_wp2_with fail
  refine (l01From_nan _).mono ?_
  rintro e w' ⟨rfl, rfl⟩
  go_wp2_with fail
  go_ret
  exact ⟨rfl, 1, rfl⟩
set_option maxRecDepth 100000 in
theorem specPh_big (t : Nat) (w : World) (h : finB .f64 t = true) (hb : bigV t = true) : Calls Try.prog 23 #[.float .f64 t] w fun e w' => e = .returned (.complex .f32 1065353216 0) ∧ ∃ n, w' = w.drewN n := by
  have q := sub64_fin h
  have o : (FloatKind.f64.format.order 0 0 != some .eq) = false := by decide
  obtain ⟨s, m, p, hr, hp⟩ := fin64 h
  have hs := (big_ok hr hp).2 hb
  clear h hb hr hp
  rcases hs with hs | ⟨hs, ht⟩
  · have k1 : (FloatKind.f64.format.order t 4841369599423283200 == some .gt || FloatKind.f64.format.order t 4841369599423283200 == some .eq) = true := hs
    clear hs
    go_enter Try.func23, Try.ntmps23
    go_wp2_with fail
    go_ret
    exact ⟨rfl, 0, rfl⟩
  · have k1 : (FloatKind.f64.format.order t 4841369599423283200 == some .gt) = false := (or_false2 hs).1
    have k2 : (FloatKind.f64.format.order t 4841369599423283200 == some .eq) = false := (or_false2 hs).2
    have k3 : (FloatKind.f64.format.order t 14064741636278059008 == some .lt || FloatKind.f64.format.order t 14064741636278059008 == some .eq) = true := ht
    clear hs ht
    go_enter Try.func23, Try.ntmps23
    go_wp2_with fail
    go_ret
    exact ⟨rfl, 0, rfl⟩

set_option maxRecDepth 100000 in
theorem specPh_any {t V : Nat} (w : World) (h : finB .f64 t = true) (hb : bigV t = false) (hP : Part (partV t) V) (hV : V ≤ 4 * Q1) :
    Calls Try.prog 23 #[.float .f64 t] w fun e w' => e = .returned (.complex .f32 (narrow (phRe (V / Q1) (phC (partV t) (V / Q1)) (phS (partV t) (V / Q1)))) (narrow (phIm (V / Q1) (phC (partV t) (V / Q1)) (phS (partV t) (V / Q1))))) ∧ w = w' := by
  have q := sub64_fin h
  have o : (FloatKind.f64.format.order 0 0 != some .eq) = false := by decide
  obtain ⟨s, m, p, hr, hp⟩ := fin64 h
  obtain ⟨hlt, g1, g2⟩ := (big_ok hr hp).1 hb
  have m1 : (FloatKind.f64.format.order t 4841369599423283200 == some .gt) = false := (or_false2 g1).1
  have m2 : (FloatKind.f64.format.order t 4841369599423283200 == some .eq) = false := (or_false2 g1).2
  have m3 : (FloatKind.f64.format.order t 14064741636278059008 == some .lt) = false := (or_false2 g2).1
  have m4 : (FloatKind.f64.format.order t 14064741636278059008 == some .eq) = false := (or_false2 g2).2
  obtain ⟨h1, h2, h3⟩ := trunc_ok hr hp hlt
  obtain ⟨h4, hf⟩ := part_ok h3
  have n1 := conv_trunc h1
  have n2 := fun W => run_float_arith (P := Try.prog) W .sub 22 .f64 _ _ _ h2
  have n3 := fun W => run_float_arith (P := Try.prog) W .add 22 .f64 _ 4607182418800017408 _ h4
  have HPV : partV t = if ltB (fs t (floatOfInt .f64 (truncV t))) 0 then fa (fs t (floatOfInt .f64 (truncV t))) one else fs t (floatOfInt .f64 (truncV t)) := rfl
  clear h hb hr hp hlt g1 g2 h1 h2 h3 h4 hf
  generalize partV t = f at *
  have H0 := Lib.hid (Rounds.zero hP hV)
  clear hP hV
  generalize fs t (floatOfInt .f64 (truncV t)) = f0 at *
  cases hl : ltB f0 0
  · have l1 : (FloatKind.f64.format.order f0 0 == some .lt) = false := hl
    simp only [hl, Bool.false_eq_true, if_false] at HPV
    subst HPV
    clear hl n3
    go_enter Try.func23, Try.ntmps23
    go_wp2_with fail
    clear l1
    go_loop [3, 4] (fun v i => ∃ k : Nat, k ≤ 4 ∧ i = .int .i64 k ∧ v = .float .f64 (qF f k) ∧ Hid (Rounds f V k)) (fun _ i => 4 - (intOf i).toNat)
    case atStart => exact ⟨0, by omega, rfl, rfl, H0⟩
    case round =>
      obtain ⟨k, hk, rfl, rfl, HR⟩ := hrel
      cases hg : geB (qF f k) quarter
      · skip
        have k1 : (FloatKind.f64.format.order (qF f k) 4598175219545276416 == some .gt) = false := (or_false2 hg).1
        have k2 : (FloatKind.f64.format.order (qF f k) 4598175219545276416 == some .eq) = false := (or_false2 hg).2
        have hkV := Lib.hid (HR.out.done hg)
        obtain ⟨a1, a2, a3, a4, a5, a6, a7, a8, a9⟩ := ph_bd HR.out
        have HC := Lib.hid (fun W => specSine_sm a2 W)
        have HS := Lib.hid (fun W => specSine_sm a3 W)
        have q1 := fun W => run_float_arith (P := Try.prog) W .sub 22 .f64 4598175219545276416 _ _ a1
        have q2 := fun W => run_float_arith (P := Try.prog) W .sub 22 .f64 0 _ _ a4
        have q3 := fun W => run_float_arith (P := Try.prog) W .sub 22 .f64 0 _ _ a5
        have hkk : k = 0 ∨ k = 1 ∨ k = 2 ∨ k = 3 ∨ k = 4 := by omega
        rw [show sineV (fs quarter (qF f k)) = phC f k from rfl] at HC
        rw [show sineV (qF f k) = phS f k from rfl] at HS
        clear a1 a2 a3 a4 a5 hg hk HR
        generalize hc0 : phC f k = c at *
        generalize hs0 : phS f k = s at *
        have hc := Lib.hid hc0
        have hs := Lib.hid hs0
        clear hc0 hs0
        generalize fs quarter (qF f k) = y at *
        generalize qF f k = x at *
        rcases hkk with rfl | rfl | rfl | rfl | rfl
        · have HN := Lib.hid (fun W => l01Narrow_bd a6 (by omega) W)
          have HM := Lib.hid (fun W => l01Narrow_bd a7 (by omega) W)
          clear a6 a7 a8 a9
          go_wp2_with fail
          refine (HC.out _).mono ?_
          rintro e w' ⟨rfl, rfl⟩
          go_wp2_with fail
          refine (HS.out _).mono ?_
          rintro e w' ⟨rfl, rfl⟩
          go_wp2_with fail
          refine (HN.out _).mono ?_
          rintro e w' ⟨rfl, rfl⟩
          go_wp2_with fail
          refine (HM.out _).mono ?_
          rintro e w' ⟨rfl, rfl⟩
          go_wp2_with fail
          go_ret
          exact ⟨by rw [← hkV.out, hc.out, hs.out]; rfl, rfl⟩
        · have HN := Lib.hid (fun W => l01Narrow_bd a9 (by omega) W)
          have HM := Lib.hid (fun W => l01Narrow_bd a6 (by omega) W)
          clear a6 a7 a8 a9
          go_wp2_with fail
          refine (HC.out _).mono ?_
          rintro e w' ⟨rfl, rfl⟩
          go_wp2_with fail
          refine (HS.out _).mono ?_
          rintro e w' ⟨rfl, rfl⟩
          go_wp2_with fail
          refine (HN.out _).mono ?_
          rintro e w' ⟨rfl, rfl⟩
          go_wp2_with fail
          refine (HM.out _).mono ?_
          rintro e w' ⟨rfl, rfl⟩
          go_wp2_with fail
          go_ret
          exact ⟨by rw [← hkV.out, hc.out, hs.out]; rfl, rfl⟩
        · have HN := Lib.hid (fun W => l01Narrow_bd a8 (by omega) W)
          have HM := Lib.hid (fun W => l01Narrow_bd a9 (by omega) W)
          clear a6 a7 a8 a9
          go_wp2_with fail
          refine (HC.out _).mono ?_
          rintro e w' ⟨rfl, rfl⟩
          go_wp2_with fail
          refine (HS.out _).mono ?_
          rintro e w' ⟨rfl, rfl⟩
          go_wp2_with fail
          refine (HN.out _).mono ?_
          rintro e w' ⟨rfl, rfl⟩
          go_wp2_with fail
          refine (HM.out _).mono ?_
          rintro e w' ⟨rfl, rfl⟩
          go_wp2_with fail
          go_ret
          exact ⟨by rw [← hkV.out, hc.out, hs.out]; rfl, rfl⟩
        · have HN := Lib.hid (fun W => l01Narrow_bd a7 (by omega) W)
          have HM := Lib.hid (fun W => l01Narrow_bd a8 (by omega) W)
          clear a6 a7 a8 a9
          go_wp2_with fail
          refine (HC.out _).mono ?_
          rintro e w' ⟨rfl, rfl⟩
          go_wp2_with fail
          refine (HS.out _).mono ?_
          rintro e w' ⟨rfl, rfl⟩
          go_wp2_with fail
          refine (HN.out _).mono ?_
          rintro e w' ⟨rfl, rfl⟩
          go_wp2_with fail
          refine (HM.out _).mono ?_
          rintro e w' ⟨rfl, rfl⟩
          go_wp2_with fail
          go_ret
          exact ⟨by rw [← hkV.out, hc.out, hs.out]; rfl, rfl⟩
        · have HN := Lib.hid (fun W => l01Narrow_bd a6 (by omega) W)
          have HM := Lib.hid (fun W => l01Narrow_bd a7 (by omega) W)
          clear a6 a7 a8 a9
          go_wp2_with fail
          refine (HC.out _).mono ?_
          rintro e w' ⟨rfl, rfl⟩
          go_wp2_with fail
          refine (HS.out _).mono ?_
          rintro e w' ⟨rfl, rfl⟩
          go_wp2_with fail
          refine (HN.out _).mono ?_
          rintro e w' ⟨rfl, rfl⟩
          go_wp2_with fail
          refine (HM.out _).mono ?_
          rintro e w' ⟨rfl, rfl⟩
          go_wp2_with fail
          go_ret
          exact ⟨by rw [← hkV.out, hc.out, hs.out]; rfl, rfl⟩
      · skip
        obtain ⟨hq, hR⟩ := HR.out.more hg
        have hk4 := hR.le
        have HR2 := Lib.hid hR
        have q1 := fun W => run_float_arith (P := Try.prog) W .sub 22 .f64 (qF f k) 4598175219545276416 _ hq
        have HG := Lib.hid hg
        clear hg hq hR HR
        generalize hx : qF f (k + 1) = y at *
        have hx' := Lib.hid hx
        clear hx
        generalize qF f k = x at *
        cases ho : (FloatKind.f64.format.order x 4598175219545276416 == some .gt)
        · have k2 : (FloatKind.f64.format.order x 4598175219545276416 == some .eq) = true := by
            have := HG.out
            unfold geB quarter at this
            rw [show Ieee.double = FloatKind.f64.format from rfl, ho] at this
            exact this
          clear HG
          go_wp2_with fail
          exact ⟨⟨k + 1, by omega, by simp, by rw [hx'.out], HR2⟩, by simp [intOf]; omega⟩
        · clear HG
          go_wp2_with fail
          exact ⟨⟨k + 1, by omega, by simp, by rw [hx'.out], HR2⟩, by simp [intOf]; omega⟩
  · have l1 : (FloatKind.f64.format.order f0 0 == some .lt) = true := hl
    rw [hl, if_pos rfl] at HPV
    rw [← HPV] at n3
    clear hl HPV
    go_enter Try.func23, Try.ntmps23
    go_wp2_with fail
    clear l1
    go_loop [3, 4] (fun v i => ∃ k : Nat, k ≤ 4 ∧ i = .int .i64 k ∧ v = .float .f64 (qF f k) ∧ Hid (Rounds f V k)) (fun _ i => 4 - (intOf i).toNat)
    case atStart => exact ⟨0, by omega, rfl, rfl, H0⟩
    case round =>
      obtain ⟨k, hk, rfl, rfl, HR⟩ := hrel
      cases hg : geB (qF f k) quarter
      · skip
        have k1 : (FloatKind.f64.format.order (qF f k) 4598175219545276416 == some .gt) = false := (or_false2 hg).1
        have k2 : (FloatKind.f64.format.order (qF f k) 4598175219545276416 == some .eq) = false := (or_false2 hg).2
        have hkV := Lib.hid (HR.out.done hg)
        obtain ⟨a1, a2, a3, a4, a5, a6, a7, a8, a9⟩ := ph_bd HR.out
        have HC := Lib.hid (fun W => specSine_sm a2 W)
        have HS := Lib.hid (fun W => specSine_sm a3 W)
        have q1 := fun W => run_float_arith (P := Try.prog) W .sub 22 .f64 4598175219545276416 _ _ a1
        have q2 := fun W => run_float_arith (P := Try.prog) W .sub 22 .f64 0 _ _ a4
        have q3 := fun W => run_float_arith (P := Try.prog) W .sub 22 .f64 0 _ _ a5
        have hkk : k = 0 ∨ k = 1 ∨ k = 2 ∨ k = 3 ∨ k = 4 := by omega
        rw [show sineV (fs quarter (qF f k)) = phC f k from rfl] at HC
        rw [show sineV (qF f k) = phS f k from rfl] at HS
        clear a1 a2 a3 a4 a5 hg hk HR
        generalize hc0 : phC f k = c at *
        generalize hs0 : phS f k = s at *
        have hc := Lib.hid hc0
        have hs := Lib.hid hs0
        clear hc0 hs0
        generalize fs quarter (qF f k) = y at *
        generalize qF f k = x at *
        rcases hkk with rfl | rfl | rfl | rfl | rfl
        · have HN := Lib.hid (fun W => l01Narrow_bd a6 (by omega) W)
          have HM := Lib.hid (fun W => l01Narrow_bd a7 (by omega) W)
          clear a6 a7 a8 a9
          go_wp2_with fail
          refine (HC.out _).mono ?_
          rintro e w' ⟨rfl, rfl⟩
          go_wp2_with fail
          refine (HS.out _).mono ?_
          rintro e w' ⟨rfl, rfl⟩
          go_wp2_with fail
          refine (HN.out _).mono ?_
          rintro e w' ⟨rfl, rfl⟩
          go_wp2_with fail
          refine (HM.out _).mono ?_
          rintro e w' ⟨rfl, rfl⟩
          go_wp2_with fail
          go_ret
          exact ⟨by rw [← hkV.out, hc.out, hs.out]; rfl, rfl⟩
        · have HN := Lib.hid (fun W => l01Narrow_bd a9 (by omega) W)
          have HM := Lib.hid (fun W => l01Narrow_bd a6 (by omega) W)
          clear a6 a7 a8 a9
          go_wp2_with fail
          refine (HC.out _).mono ?_
          rintro e w' ⟨rfl, rfl⟩
          go_wp2_with fail
          refine (HS.out _).mono ?_
          rintro e w' ⟨rfl, rfl⟩
          go_wp2_with fail
          refine (HN.out _).mono ?_
          rintro e w' ⟨rfl, rfl⟩
          go_wp2_with fail
          refine (HM.out _).mono ?_
          rintro e w' ⟨rfl, rfl⟩
          go_wp2_with fail
          go_ret
          exact ⟨by rw [← hkV.out, hc.out, hs.out]; rfl, rfl⟩
        · have HN := Lib.hid (fun W => l01Narrow_bd a8 (by omega) W)
          have HM := Lib.hid (fun W => l01Narrow_bd a9 (by omega) W)
          clear a6 a7 a8 a9
          go_wp2_with fail
          refine (HC.out _).mono ?_
          rintro e w' ⟨rfl, rfl⟩
          go_wp2_with fail
          refine (HS.out _).mono ?_
          rintro e w' ⟨rfl, rfl⟩
          go_wp2_with fail
          refine (HN.out _).mono ?_
          rintro e w' ⟨rfl, rfl⟩
          go_wp2_with fail
          refine (HM.out _).mono ?_
          rintro e w' ⟨rfl, rfl⟩
          go_wp2_with fail
          go_ret
          exact ⟨by rw [← hkV.out, hc.out, hs.out]; rfl, rfl⟩
        · have HN := Lib.hid (fun W => l01Narrow_bd a7 (by omega) W)
          have HM := Lib.hid (fun W => l01Narrow_bd a8 (by omega) W)
          clear a6 a7 a8 a9
          go_wp2_with fail
          refine (HC.out _).mono ?_
          rintro e w' ⟨rfl, rfl⟩
          go_wp2_with fail
          refine (HS.out _).mono ?_
          rintro e w' ⟨rfl, rfl⟩
          go_wp2_with fail
          refine (HN.out _).mono ?_
          rintro e w' ⟨rfl, rfl⟩
          go_wp2_with fail
          refine (HM.out _).mono ?_
          rintro e w' ⟨rfl, rfl⟩
          go_wp2_with fail
          go_ret
          exact ⟨by rw [← hkV.out, hc.out, hs.out]; rfl, rfl⟩
        · have HN := Lib.hid (fun W => l01Narrow_bd a6 (by omega) W)
          have HM := Lib.hid (fun W => l01Narrow_bd a7 (by omega) W)
          clear a6 a7 a8 a9
          go_wp2_with fail
          refine (HC.out _).mono ?_
          rintro e w' ⟨rfl, rfl⟩
          go_wp2_with fail
          refine (HS.out _).mono ?_
          rintro e w' ⟨rfl, rfl⟩
          go_wp2_with fail
          refine (HN.out _).mono ?_
          rintro e w' ⟨rfl, rfl⟩
          go_wp2_with fail
          refine (HM.out _).mono ?_
          rintro e w' ⟨rfl, rfl⟩
          go_wp2_with fail
          go_ret
          exact ⟨by rw [← hkV.out, hc.out, hs.out]; rfl, rfl⟩
      · skip
        obtain ⟨hq, hR⟩ := HR.out.more hg
        have hk4 := hR.le
        have HR2 := Lib.hid hR
        have q1 := fun W => run_float_arith (P := Try.prog) W .sub 22 .f64 (qF f k) 4598175219545276416 _ hq
        have HG := Lib.hid hg
        clear hg hq hR HR
        generalize hx : qF f (k + 1) = y at *
        have hx' := Lib.hid hx
        clear hx
        generalize qF f k = x at *
        cases ho : (FloatKind.f64.format.order x 4598175219545276416 == some .gt)
        · have k2 : (FloatKind.f64.format.order x 4598175219545276416 == some .eq) = true := by
            have := HG.out
            unfold geB quarter at this
            rw [show Ieee.double = FloatKind.f64.format from rfl, ho] at this
            exact this
          clear HG
          go_wp2_with fail
          exact ⟨⟨k + 1, by omega, by simp, by rw [hx'.out], HR2⟩, by simp [intOf]; omega⟩
        · clear HG
          go_wp2_with fail
          exact ⟨⟨k + 1, by omega, by simp, by rw [hx'.out], HR2⟩, by simp [intOf]; omega⟩

theorem narrow_not {y : Nat} (h : B 1185 y) : nanB .f32 (narrow y) = false := (narrow_bd h (by omega)).2
theorem ph_nans {f V k : Nat} (h : Rounds f V k) : nanB .f32 (narrow (phRe k (phC f k) (phS f k))) = false ∧ nanB .f32 (narrow (phIm k (phC f k) (phS f k))) = false := by
  obtain ⟨_, _, _, _, _, a6, a7, a8, a9⟩ := ph_bd h
  constructor
  · unfold phRe
    split
    · exact narrow_not a9
    · split
      · exact narrow_not a8
      · split
        · exact narrow_not a7
        · exact narrow_not a6
  · unfold phIm
    split
    · exact narrow_not a6
    · split
      · exact narrow_not a9
      · split
        · exact narrow_not a8
        · exact narrow_not a7

theorem sameComplex_any (a b : Nat) (ha : nanB .f64 a = false) (hb : nanB .f64 b = false) (w : World) : Calls Try.prog 11 #[.complex .f64 a b, .complex .f64 a b] w fun e w' => e = .returned (.bool true) ∧ w = w' := by
  have H1 := Lib.hid (fun W => sameFloat_any a a W (.inl ⟨rfl, ha⟩))
  have H2 := Lib.hid (fun W => sameFloat_any b b W (.inl ⟨rfl, hb⟩))
  clear ha hb
  go_enter Try.func11, Try.ntmps11
  go_wp2_with fail
  refine (H1.out _).mono ?_
  rintro e w' ⟨rfl, rfl⟩
  go_wp2_with fail
  refine (H2.out _).mono ?_
  rintro e w' ⟨rfl, rfl⟩
  go_wp2_with fail
  go_ret
  exact ⟨rfl, rfl⟩
theorem sameComplex_nan {a b c d : Nat} (ha : nanB .f64 a = true) (hb : nanB .f64 b = true) (hc : nanB .f64 c = true) (hd : nanB .f64 d = true) (w : World) : Calls Try.prog 11 #[.complex .f64 a b, .complex .f64 c d] w fun e w' => e = .returned (.bool true) ∧ w = w' := by
  have H1 := Lib.hid (fun W => sameFloat_any a c W (.inr ⟨ha, hc⟩))
  have H2 := Lib.hid (fun W => sameFloat_any b d W (.inr ⟨hb, hd⟩))
  clear ha hb hc hd
  go_enter Try.func11, Try.ntmps11
  go_wp2_with fail
  refine (H1.out _).mono ?_
  rintro e w' ⟨rfl, rfl⟩
  go_wp2_with fail
  refine (H2.out _).mono ?_
  rintro e w' ⟨rfl, rfl⟩
  go_wp2_with fail
  go_ret
  exact ⟨rfl, rfl⟩

theorem cvc_some {a b : Nat} (ha : nanB .f32 a = false) (hb : nanB .f32 b = false) (w : World) : (convert 23 26 (.complex .f32 a b)).run Try.prog w = .ok (.complex .f64 (wide a) (wide b)) w :=
  run_convert_complex w _ _ _ _ _ _ _ _ (by rw [Try.underlying23]; rfl) Try.underlying26 (by
    unfold cConvBits
    rw [(wide_some ha).1, (wide_some hb).1]
    rfl)
theorem cvc_nan (w : World) : (convert 23 26 (.complex .f32 2143289344 2143289344)).run Try.prog w = .ok (.complex .f64 (nanOf (.nanConv .f64 2143289344) w) (nanOf (.nanConv .f64 2143289344) w.drew)) w.drew.drew := by
  have hf : Question.forced (.nanConv .f64 2143289344) = false := rfl
  have hx : FloatKind.f32.decode 2143289344 = .nan false 4194304 := by decide
  simp [convert, run_underlying Try.underlying23, run_underlying Try.underlying26, Conv.complexToComplex, Conv.floatToFloat, hx, hf, nanOf]

theorem specPhasor_of {t : Nat} {w : World} {R : Ending → World → Prop} (h : Calls Try.prog 23 #[.float .f64 t] w fun e w' => (∃ a b, e = .returned (.complex .f32 a b)) ∧ R e w') :
    Calls Try.prog 9 #[.float .f64 t] w (Wrap R) := by
  have H := Lib.hid h
  clear h
  go_enter Try.func9, Try.ntmps9
  go_wp2_with fail
  refine H.out.mono ?_
  rintro e w' ⟨⟨a, b, rfl⟩, hr⟩
  have HR := Lib.hid hr
  clear hr
  go_wp2_with fail
  go_ret
  exact HR.out

theorem fnExactPhasorOf.walk (t : Nat) (w : World) (wt : (Lit.float .f64 t).wf = true) : Calls Try.prog 3 #[.float .f64 t] w fun e w' => e = .returned (.bool true) ∧ Below w.heap.size w w' := by
  cases hf : finB .f64 t
  · have H1 := Lib.hid (fun W => specPhasor_of ((specPh_not t W hf).mono fun e w' h => ⟨⟨_, _, h.1⟩, h⟩))
    have H2 := Lib.hid (fun W => implPh_not W wt hf)
    have c := cvc_nan
    clear hf wt
    go_enter Try.func3, Try.ntmps3
    go_wp2_with fail
    refine (H1.out _).mono ?_
    rintro e w' ⟨rfl, n, rfl⟩
    go_wp2_with fail
    refine (H2.out _).mono ?_
    rintro e w' ⟨rfl, m, rfl⟩
    go_wp2_with fail
    refine (sameComplex_nan (nanOf_conv _ _ _) (nanOf_conv _ _ _) (nanOf_conv _ _ _) (nanOf_conv _ _ _) _).mono ?_
    rintro e w' ⟨rfl, rfl⟩
    go_wp2_with fail
    go_ret
    exact ⟨rfl, below_drewN (Below.refl _ _) _⟩
  · obtain ⟨a, b, ha, hb', H1, H2⟩ : ∃ a b, nanB .f32 a = false ∧ nanB .f32 b = false ∧ (∀ W, Calls Try.prog 9 #[.float .f64 t] W fun e w' => e = .returned (.complex .f32 a b) ∧ ∃ n, w' = W.drewN n) ∧ (∀ W, Calls Try.prog 10 #[.float .f64 t] W fun e w' => e = .returned (.complex .f32 a b) ∧ ∃ n, w' = W.drewN n) := by
      cases hb : bigV t
      · obtain ⟨s, m, p, hr, hp⟩ := fin64 hf
        obtain ⟨hlt, _, _⟩ := (big_ok hr hp).1 hb
        obtain ⟨V, hP, hV⟩ := part_Part (trunc_ok hr hp hlt).2.2
        have hR : Rounds (partV t) V (V / Q1) := by
          have hall : ∀ j, j ≤ V / Q1 → Rounds (partV t) V j := by
            intro j
            induction j with
            | zero => intro _; exact Rounds.zero hP hV
            | succ j ih =>
              intro hj
              have hRj := ih (by omega)
              cases hg : geB (qF (partV t) j) quarter
              · have := hRj.done hg
                omega
              · exact (hRj.more hg).2
          exact hall _ (Nat.le_refl _)
        exact ⟨_, _, (ph_nans hR).1, (ph_nans hR).2, fun W => specPhasor_of ((specPh_any W hf hb hP hV).mono fun e w' h => ⟨⟨_, _, h.1⟩, h.1, 0, h.2.symm⟩), fun W => (implPh_any W wt hf hb hP hV).mono fun e w' h => ⟨h.1, 0, h.2.symm⟩⟩
      · exact ⟨1065353216, 0, by decide, by decide, fun W => specPhasor_of ((specPh_big t W hf hb).mono fun e w' h => ⟨⟨_, _, h.1⟩, h⟩), fun W => implPh_big W wt hf hb⟩
    have hc := cvc_some ha hb'
    have HS := Lib.hid (fun W => sameComplex_any _ _ (wide_some ha).2 (wide_some hb').2 W)
    have K1 := Lib.hid H1
    have K2 := Lib.hid H2
    clear hf wt H1 H2 ha hb'
    go_enter Try.func3, Try.ntmps3
    go_wp2_with fail
    refine (K1.out _).mono ?_
    rintro e w' ⟨rfl, n, rfl⟩
    go_wp2_with fail
    refine (K2.out _).mono ?_
    rintro e w' ⟨rfl, m, rfl⟩
    go_wp2_with fail
    refine (HS.out _).mono ?_
    rintro e w' ⟨rfl, rfl⟩
    go_wp2_with fail
    go_ret
    exact ⟨rfl, below_drewN (Below.refl _ _) _⟩
end Go.Proofs.Ytfmnfidocicjkaa
