/- The law on square roots. -/
import Derived.Test.YtlcnelcbhehiaaaNarrow
set_option linter.unusedVariables false
namespace Go.Proofs.Ytlcnelcbhehiaaa
open Go.RowKit

theorem sqrt_eq (x : Nat) : Extern.MathSqrt.sqrt #[Value.float .f64 x] = (match FloatKind.f64.format.sqrt x with | some r => pure (Value.float .f64 r) | none => (do pure (Value.float .f64 (← choose (.nanBits .f64 x x))) : Sem Value)) := by kernel_rfl
theorem ext_sqrt {x r : Nat} (h : Ieee.double.sqrt x = some r) (w : World) : (callFunc 22 #[.float .f64 x]).run Try.prog w = .ok (.value (.float .f64 r)) w := by
  rw [run_callFunc_extern (e := Extern.MathSqrt.sqrt) Try.func22 (by kernel_rfl) (by kernel_rfl) (by kernel_rfl) (by kernel_rfl), sqrt_eq, show FloatKind.f64.format.sqrt x = some r from h]
  rfl
theorem ext_sqrt_nan {x : Nat} (h : Ieee.double.sqrt x = none) (w : World) : (callFunc 22 #[.float .f64 x]).run Try.prog w = .ok (.value (.float .f64 (nanOf (.nanBits .f64 x x) w))) w.drew := by
  have hf : Question.forced (.nanBits .f64 x x) = false := rfl
  rw [run_callFunc_extern (e := Extern.MathSqrt.sqrt) Try.func22 (by kernel_rfl) (by kernel_rfl) (by kernel_rfl) (by kernel_rfl), sqrt_eq, show FloatKind.f64.format.sqrt x = none from h]
  simp [hf, nanOf]
theorem Sqrt_some {x r : Nat} (h : Ieee.double.sqrt x = some r) (w : World) : Calls Try.prog 17 #[.float .f64 x] w fun e w' => e = .returned (.float .f64 r) ∧ w = w' := by
  have hs := ext_sqrt h
  clear h
  go_enter Try.func17, Try.ntmps17
  go_wp2
  go_ret
  exact ⟨rfl, rfl⟩
theorem Sqrt_none {x : Nat} (h : Ieee.double.sqrt x = none) (w : World) : Calls Try.prog 17 #[.float .f64 x] w fun e w' => SomeNaN .f64 e ∧ ∃ n, w' = w.drewN n := by
  have hs := ext_sqrt_nan h
  clear h
  go_enter Try.func17, Try.ntmps17
  go_wp2
  go_ret
  exact ⟨⟨_, rfl, nanOf_bits _ _ _ _⟩, 1, rfl⟩

/-- The root of a widened number: told and narrowed without a draw, or none. -/
theorem root_cases {x : Nat} (hn : nanB .f32 x = false) :
    (∃ r, Ieee.double.sqrt (wide x) = some r ∧ floatToFloatBits .f64 r .f32 = some (narrow r) ∧ nanB .f32 (narrow r) = false) ∨ Ieee.double.sqrt (wide x) = none := by
  cases hx : FloatKind.f32.decode x with
  | nan s t => unfold nanB at hn; rw [hx] at hn; cases hn
  | infinity s =>
    have h2 := (wide_inf hx).2.2
    cases s
    · left
      have hq : Ieee.double.sqrt (wide x) = some (Ieee.double.word false Ieee.double.infRung) := by
        unfold Ieee.Format.sqrt
        rw [show Ieee.double.read (wide x) = _ from h2]
        rfl
      exact ⟨_, hq, by decide, by decide⟩
    · right
      unfold Ieee.Format.sqrt
      rw [show Ieee.double.read (wide x) = _ from h2]
      rfl
  | number s m p =>
    have hf : finB .f32 x = true := by unfold finB; rw [hx]
    have hB := B_wide hf
    obtain ⟨_, _, _, m', p', h2, hp', hv⟩ := wide_num hx
    by_cases hz : s = false ∨ m' = 0
    · left
      obtain ⟨r, h3, h4⟩ := Fl.sqrt_bd (H := 1138) K64 hB (by
        rw [show Ieee.double.read (wide x) = _ from h2]
        rcases hz with h | h
        · left; exact h
        · right; subst h; rfl) eb64 (by omega) (by rw [top64]; omega)
      exact ⟨r, h3, narrow_bd h4 (by omega)⟩
    · right
      have hs : s = true := by cases s; exact absurd (.inl rfl) hz; rfl
      subst hs
      unfold Ieee.Format.sqrt
      rw [show Ieee.double.read (wide x) = _ from h2]
      simp only [Ieee.Datum.root]
      rw [if_neg (fun h => hz (.inr h))]
      rfl

theorem sqrt_of_nan {y : Nat} (h : nanB .f64 y = true) : Ieee.double.sqrt y = none := by
  unfold nanB at h
  unfold Ieee.Format.sqrt
  cases hy : FloatKind.f64.decode y with
  | number s m p => rw [hy] at h; cases h
  | infinity s => rw [hy] at h; cases h
  | nan s t => rw [show Ieee.double.read y = _ from hy]; rfl

theorem narrow_wf_nan {r : Nat} (hw : floatToFloatBits .f64 r .f32 = some (narrow r)) (w : World) : (convert 25 22 (.float .f64 r)).run Try.prog w = .ok (.float .f32 (narrow r)) w :=
  run_convert_float_float w _ _ _ _ _ _ (by rw [Try.underlying25]; rfl) Try.underlying22 hw

theorem Narrow_nan {y : Nat} (h : nanB .f64 y = true) (w : World) : Calls Try.prog 16 #[.float .f64 y] w fun e w' => SomeNaN .f32 e ∧ ∃ n, w' = w.drewN n := by
  have hc := cvn_nan h
  clear h
  go_enter Try.func16, Try.ntmps16
  go_wp2
  go_ret
  exact ⟨⟨_, rfl, nanOf_conv _ _ _⟩, 1, rfl⟩
theorem specRoot0_some {x r : Nat} (hn : nanB .f32 x = false) (hq : Ieee.double.sqrt (wide x) = some r) (hw : floatToFloatBits .f64 r .f32 = some (narrow r)) (w : World) : Calls Try.prog 15 #[.float .f32 x] w fun e w' => e = .returned (.float .f32 (narrow r)) ∧ w = w' := by
  have c := cv_some hn
  have HQ := Lib.hid (fun W => Sqrt_some hq W)
  have c2 := narrow_wf_nan hw
  clear hn hq hw
  go_enter Try.func15, Try.ntmps15
  go_wp2_with fail
  refine (HQ.out _).mono ?_
  rintro e w' ⟨rfl, rfl⟩
  go_wp2_with go_in
  go_ret
  exact ⟨rfl, rfl⟩
theorem specRoot0_nan {x : Nat} (h : nanB .f32 x = true ∨ (nanB .f32 x = false ∧ Ieee.double.sqrt (wide x) = none)) (w : World) : Calls Try.prog 15 #[.float .f32 x] w fun e w' => SomeNaN .f32 e ∧ ∃ n, w' = w.drewN n := by
  rcases h with hn | ⟨hn, hq⟩
  · have c := cv_nan hn
    clear hn
    go_enter Try.func15, Try.ntmps15
    go_wp2_with fail
    refine (Sqrt_none (sqrt_of_nan (nanOf_conv _ _ _)) _).mono ?_
    rintro e w' ⟨⟨r, rfl, hr⟩, n, rfl⟩
    have HN := Lib.hid (fun W => l01Narrow_nan hr W)
    clear hr
    go_wp2_with fail
    refine (HN.out _).mono ?_
    rintro e w' ⟨⟨q, rfl, hq⟩, m, rfl⟩
    have HR := Lib.hid hq
    clear hq
    go_wp2_with fail
    go_ret
    exact ⟨⟨_, rfl, HR.out⟩, _, rfl⟩
  · have c := cv_some hn
    have HQ := Lib.hid (fun W => Sqrt_none hq W)
    clear hn hq
    go_enter Try.func15, Try.ntmps15
    go_wp2_with fail
    refine (HQ.out _).mono ?_
    rintro e w' ⟨⟨r, rfl, hr⟩, n, rfl⟩
    have HN := Lib.hid (fun W => l01Narrow_nan hr W)
    clear hr
    go_wp2_with fail
    refine (HN.out _).mono ?_
    rintro e w' ⟨⟨q, rfl, hq⟩, m, rfl⟩
    have HR := Lib.hid hq
    clear hq
    go_wp2_with fail
    go_ret
    exact ⟨⟨_, rfl, HR.out⟩, _, rfl⟩
theorem implRoot_some {x r : Nat} (hn : nanB .f32 x = false) (hq : Ieee.double.sqrt (wide x) = some r) (hw : floatToFloatBits .f64 r .f32 = some (narrow r)) (w : World) : Calls Try.prog 7 #[.float .f32 x] w fun e w' => e = .returned (.float .f32 (narrow r)) ∧ w = w' := by
  have c := cv_some hn
  have HQ := Lib.hid (fun W => Sqrt_some hq W)
  have c2 := narrow_wf_nan hw
  clear hn hq hw
  go_enter Try.func7, Try.ntmps7
  go_wp2_with fail
  refine (HQ.out _).mono ?_
  rintro e w' ⟨rfl, rfl⟩
  go_wp2_with go_in
  go_ret
  exact ⟨rfl, rfl⟩
theorem implRoot_nan {x : Nat} (h : nanB .f32 x = true ∨ (nanB .f32 x = false ∧ Ieee.double.sqrt (wide x) = none)) (w : World) : Calls Try.prog 7 #[.float .f32 x] w fun e w' => SomeNaN .f32 e ∧ ∃ n, w' = w.drewN n := by
  rcases h with hn | ⟨hn, hq⟩
  · have c := cv_nan hn
    clear hn
    go_enter Try.func7, Try.ntmps7
    go_wp2_with fail
    refine (Sqrt_none (sqrt_of_nan (nanOf_conv _ _ _)) _).mono ?_
    rintro e w' ⟨⟨r, rfl, hr⟩, n, rfl⟩
    have HN := Lib.hid (fun W => Narrow_nan hr W)
    clear hr
    go_wp2_with fail
    refine (HN.out _).mono ?_
    rintro e w' ⟨⟨q, rfl, hq⟩, m, rfl⟩
    have HR := Lib.hid hq
    clear hq
    go_wp2_with fail
    go_ret
    exact ⟨⟨_, rfl, HR.out⟩, _, rfl⟩
  · have c := cv_some hn
    have HQ := Lib.hid (fun W => Sqrt_none hq W)
    clear hn hq
    go_enter Try.func7, Try.ntmps7
    go_wp2_with fail
    refine (HQ.out _).mono ?_
    rintro e w' ⟨⟨r, rfl, hr⟩, n, rfl⟩
    have HN := Lib.hid (fun W => Narrow_nan hr W)
    clear hr
    go_wp2_with fail
    refine (HN.out _).mono ?_
    rintro e w' ⟨⟨q, rfl, hq⟩, m, rfl⟩
    have HR := Lib.hid hq
    clear hq
    go_wp2_with fail
    go_ret
    exact ⟨⟨_, rfl, HR.out⟩, _, rfl⟩

theorem specRoot_of {x : Nat} {w : World} {R : Ending → World → Prop} (h : Calls Try.prog 15 #[.float .f32 x] w fun e w' => (∃ r, e = .returned (.float .f32 r)) ∧ R e w') :
    Calls Try.prog 6 #[.float .f32 x] w (Wrap R) := by
  have H := Lib.hid h
  clear h
  go_enter Try.func6, Try.ntmps6
  go_wp2_with fail
  refine H.out.mono ?_
  rintro e w' ⟨⟨r, rfl⟩, hr⟩
  have HR := Lib.hid hr
  clear hr
  go_wp2_with fail
  go_ret
  exact HR.out

theorem fnExactRootNumber.walk (x : Nat) (w : World) (wx : (Lit.float .f32 x).wf = true) : Calls Try.prog 3 #[.float .f32 x] w fun e w' => e = .returned (.bool true) ∧ Below w.heap.size w w' := by
  have hsplit : (∃ r, nanB .f32 x = false ∧ Ieee.double.sqrt (wide x) = some r ∧ floatToFloatBits .f64 r .f32 = some (narrow r) ∧ nanB .f32 (narrow r) = false) ∨ (nanB .f32 x = true ∨ (nanB .f32 x = false ∧ Ieee.double.sqrt (wide x) = none)) := by
    cases hn : nanB .f32 x
    · rcases root_cases hn with ⟨r, h1, h2, h3⟩ | h
      · exact .inl ⟨r, rfl, h1, h2, h3⟩
      · exact .inr (.inr ⟨rfl, h⟩)
    · exact .inr (.inl rfl)
  rcases hsplit with ⟨r, hn, h1, h2, hv⟩ | h
  · have K1 := Lib.hid (fun W => specRoot_of ((specRoot0_some hn h1 h2 W).mono fun e w' h => ⟨⟨_, h.1⟩, h⟩))
    have K2 := Lib.hid (fun W => implRoot_some hn h1 h2 W)
    have hc := cv_some hv
    have HS := Lib.hid (same_wide hv)
    clear wx hn h1 h2 hv
    generalize narrow r = v at *
    go_enter Try.func3, Try.ntmps3
    go_wp2_with fail
    refine (K1.out _).mono ?_
    rintro e w' ⟨rfl, rfl⟩
    go_wp2_with fail
    refine (K2.out _).mono ?_
    rintro e w' ⟨rfl, rfl⟩
    go_wp2_with fail
    refine (sameFloat_any _ _ _ HS.out).mono ?_
    rintro e w' ⟨rfl, rfl⟩
    go_wp2_with fail
    go_ret
    exact ⟨rfl, Below.refl _ _⟩
  · have H1 := Lib.hid (fun W => specRoot_of ((specRoot0_nan h W).mono fun e w' h => ⟨⟨h.1.choose, h.1.choose_spec.1⟩, h⟩))
    have H2 := Lib.hid (fun W => implRoot_nan h W)
    clear h wx
    go_enter Try.func3, Try.ntmps3
    go_wp2_with fail
    refine (H1.out _).mono ?_
    rintro e w' ⟨⟨r, rfl, hr⟩, n, rfl⟩
    have c1 := cv_nan hr
    clear hr
    go_wp2_with fail
    refine (H2.out _).mono ?_
    rintro e w' ⟨⟨q, rfl, hq⟩, m, rfl⟩
    have c2 := cv_nan hq
    clear hq
    go_wp2_with fail
    refine (sameFloat_any _ _ _ (.inr ⟨nanOf_conv _ _ _, nanOf_conv _ _ _⟩)).mono ?_
    rintro e w' ⟨rfl, rfl⟩
    go_wp2_with fail
    go_ret
    exact ⟨rfl, below_drewN (Below.refl _ _) _⟩
end Go.Proofs.Ytlcnelcbhehiaaa
