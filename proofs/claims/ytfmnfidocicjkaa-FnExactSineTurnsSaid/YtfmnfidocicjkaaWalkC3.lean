/- The law on sines of turns: the walks above the sine. -/
import Derived.Test.YtfmnfidocicjkaaWalkC2
set_option linter.unusedVariables false
namespace Go.Proofs.Ytfmnfidocicjkaa
open Go.RowKit

theorem nan_of_fin {x : Nat} (h : nanB .f32 x = true) : finB .f32 x = false := fin_not_nan h

theorem implSine_not (x : Nat) (w : World) (wx : (Lit.float .f32 x).wf = true) (h : finB .f32 x = false) : Calls Try.prog 16 #[.float .f32 x] w fun e w' => e = .returned (.float .f32 2143289344) ∧ ∃ n, w' = w.drewN n := by
  cases hn : nanB .f32 x
  · have c := cv_some hn
    have HF := Lib.hid (fun W => isFiniteWide_any (wide x) W (wide_wf hn wx))
    rw [wide_fin hn, h] at HF
    clear hn wx h
    go_enter Try.func16, Try.ntmps16
    go_wp2_with fail
    refine (HF.out _).mono ?_
    rintro e w' ⟨rfl, rfl⟩
    go_wp2_with fail
    refine (notANumber_any _).mono ?_
    rintro e w' ⟨rfl, rfl⟩
    go_wp2_with fail
    go_ret
    exact ⟨rfl, 0, rfl⟩
  · have c := cv_nan hn
    have HN := Lib.hid (fun W => fin_not_nan (nanOf_conv .f64 x W))
    clear hn wx h
    go_enter Try.func16, Try.ntmps16
    go_wp2_with fail
    refine (isFiniteWide_any _ _ (nanOf_wf _ _ _)).mono ?_
    rintro e w' ⟨rfl, rfl⟩
    rw [HN.out]
    go_wp2_with fail
    refine (notANumber_any _).mono ?_
    rintro e w' ⟨rfl, rfl⟩
    go_wp2_with fail
    go_ret
    exact ⟨rfl, 1, rfl⟩
theorem implSine_big (x : Nat) (w : World) (wx : (Lit.float .f32 x).wf = true) (h : finB .f32 x = true) (hb : bigV (wide x) = true) : Calls Try.prog 16 #[.float .f32 x] w fun e w' => e = .returned (.float .f32 0) ∧ w = w' := by
  have hn := fin_nan32 h
  have c := cv_some hn
  have HF := Lib.hid (fun W => isFiniteWide_any (wide x) W (wide_wf hn wx))
  rw [wide_fin hn, h] at HF
  have HA := Lib.hid (fun W => Abs_any (wide x) W (wide_wf hn wx))
  have k : (FloatKind.f64.format.order (wide x % 2 ^ 63) 4841369599423283200 == some .gt || FloatKind.f64.format.order (wide x % 2 ^ 63) 4841369599423283200 == some .eq) = true := hb
  clear hn wx h hb
  generalize wide x % 2 ^ 63 = a at *
  go_enter Try.func16, Try.ntmps16
  go_wp2_with fail
  refine (HF.out _).mono ?_
  rintro e w' ⟨rfl, rfl⟩
  go_wp2_with fail
  refine (HA.out _).mono ?_
  rintro e w' ⟨rfl, rfl⟩
  go_wp2_with fail
  go_ret
  exact ⟨rfl, rfl⟩
theorem implSine_fin (x : Nat) (w : World) (wx : (Lit.float .f32 x).wf = true) (h : finB .f32 x = true) (hb : bigV (wide x) = false) : Calls Try.prog 16 #[.float .f32 x] w fun e w' => e = .returned (.float .f32 (narrow (sineV (wide x)))) ∧ w = w' := by
  have hn := fin_nan32 h
  have c := cv_some hn
  have HF := Lib.hid (fun W => isFiniteWide_any (wide x) W (wide_wf hn wx))
  rw [wide_fin hn, h] at HF
  have HA := Lib.hid (fun W => Abs_any (wide x) W (wide_wf hn wx))
  obtain ⟨s, m, p, hr, hp⟩ := fin64 (show finB .f64 (wide x) = true by rw [wide_fin hn]; exact h)
  obtain ⟨hlt, _, _⟩ := (big_ok hr hp).1 hb
  have hf := (part_ok (trunc_ok hr hp hlt).2.2).2
  have HS := Lib.hid (fun W => wideSine_any W (fun W' => partOfTurn_any W' hr hp hlt) hf)
  have HN := Lib.hid (fun W => Narrow_bd (sinR_ok hf).2 (by omega) W)
  have k1 : (FloatKind.f64.format.order (wide x % 2 ^ 63) 4841369599423283200 == some .gt) = false := (or_false2 hb).1
  have k2 : (FloatKind.f64.format.order (wide x % 2 ^ 63) 4841369599423283200 == some .eq) = false := (or_false2 hb).2
  rw [show sineV (wide x) = sinP (partV (wide x)) from rfl]
  clear hn wx h hb hr hp hlt hf
  generalize wide x % 2 ^ 63 = a at *
  go_enter Try.func16, Try.ntmps16
  go_wp2_with fail
  refine (HF.out _).mono ?_
  rintro e w' ⟨rfl, rfl⟩
  go_wp2_with fail
  refine (HA.out _).mono ?_
  rintro e w' ⟨rfl, rfl⟩
  go_wp2_with fail
  refine (HS.out _).mono ?_
  rintro e w' ⟨rfl, rfl⟩
  go_wp2_with fail
  refine (HN.out _).mono ?_
  rintro e w' ⟨rfl, rfl⟩
  go_wp2_with fail
  go_ret
  exact ⟨rfl, rfl⟩
theorem l01Sine_not (x : Nat) (w : World) (h : finB .f32 x = false) : Calls Try.prog 34 #[.float .f32 x] w fun e w' => SomeNaN .f32 e ∧ ∃ n, w' = w.drewN n := by
  cases hn : nanB .f32 x
  · have c := cv_some hn
    have HS := Lib.hid (fun W => specSine_not (wide x) W (by rw [wide_fin hn]; exact h))
    clear hn h
    go_enter Try.func34, Try.ntmps34
    go_wp2_with fail
    refine (HS.out _).mono ?_
    rintro e w' ⟨rfl, n, rfl⟩
    go_wp2_with fail
    refine (l01Narrow_nan (by decide) _).mono ?_
    rintro e w' ⟨⟨r, rfl, hr⟩, m, rfl⟩
    have HR := Lib.hid hr
    clear hr
    go_wp2_with fail
    go_ret
    exact ⟨⟨_, rfl, HR.out⟩, _, rfl⟩
  · have c := cv_nan hn
    clear hn h
    go_enter Try.func34, Try.ntmps34
    go_wp2_with fail
    refine (specSine_not _ _ (fin_not_nan (nanOf_conv _ _ _))).mono ?_
    rintro e w' ⟨rfl, n, rfl⟩
    go_wp2_with fail
    refine (l01Narrow_nan (by decide) _).mono ?_
    rintro e w' ⟨⟨r, rfl, hr⟩, m, rfl⟩
    have HR := Lib.hid hr
    clear hr
    go_wp2_with fail
    go_ret
    exact ⟨⟨_, rfl, HR.out⟩, _, rfl⟩
theorem l01Sine_big (x : Nat) (w : World) (h : finB .f32 x = true) (hb : bigV (wide x) = true) : Calls Try.prog 34 #[.float .f32 x] w fun e w' => e = .returned (.float .f32 0) ∧ w = w' := by
  have hn := fin_nan32 h
  have c := cv_some hn
  have HS := Lib.hid (fun W => specSine_big (wide x) W (by rw [wide_fin hn]; exact h) hb)
  have n0 : narrow 0 = 0 := by decide
  have HN := Lib.hid (fun W => l01Narrow_bd B_zero (by omega) W)
  rw [n0] at HN
  clear hn h hb n0
  go_enter Try.func34, Try.ntmps34
  go_wp2_with fail
  refine (HS.out _).mono ?_
  rintro e w' ⟨rfl, rfl⟩
  go_wp2_with fail
  refine (HN.out _).mono ?_
  rintro e w' ⟨rfl, rfl⟩
  go_wp2_with fail
  go_ret
  exact ⟨rfl, rfl⟩
theorem l01Sine_fin (x : Nat) (w : World) (h : finB .f32 x = true) (hb : bigV (wide x) = false) : Calls Try.prog 34 #[.float .f32 x] w fun e w' => e = .returned (.float .f32 (narrow (sineV (wide x)))) ∧ w = w' := by
  have hn := fin_nan32 h
  have c := cv_some hn
  have hf64 : finB .f64 (wide x) = true := by rw [wide_fin hn]; exact h
  have HS := Lib.hid (fun W => specSine_fin (wide x) W hf64 hb)
  obtain ⟨s, m, p, hr, hp⟩ := fin64 hf64
  obtain ⟨hlt, _, _⟩ := (big_ok hr hp).1 hb
  have hf := (part_ok (trunc_ok hr hp hlt).2.2).2
  have HN := Lib.hid (fun W => l01Narrow_bd (sinR_ok hf).2 (by omega) W)
  rw [show sinP (partV (wide x)) = sineV (wide x) from rfl] at HN
  clear hn h hb hf64 hr hp hlt hf
  go_enter Try.func34, Try.ntmps34
  go_wp2_with fail
  refine (HS.out _).mono ?_
  rintro e w' ⟨rfl, rfl⟩
  go_wp2_with fail
  refine (HN.out _).mono ?_
  rintro e w' ⟨rfl, rfl⟩
  go_wp2_with fail
  go_ret
  exact ⟨rfl, rfl⟩
theorem specSineTurns_of {x : Nat} {w : World} {R : Ending → World → Prop} (h : Calls Try.prog 34 #[.float .f32 x] w fun e w' => (∃ r, e = .returned (.float .f32 r)) ∧ R e w') :
    Calls Try.prog 15 #[.float .f32 x] w (Wrap R) := by
  have H := Lib.hid h
  clear h
  go_enter Try.func15, Try.ntmps15
  go_wp2_with fail
  refine H.out.mono ?_
  rintro e w' ⟨⟨r, rfl⟩, hr⟩
  have HR := Lib.hid hr
  clear hr
  go_wp2_with fail
  go_ret
  exact HR.out
theorem fnExactSineTurns.walk (x : Nat) (w : World) (wx : (Lit.float .f32 x).wf = true) : Calls Try.prog 5 #[.float .f32 x] w fun e w' => e = .returned (.bool true) ∧ Below w.heap.size w w' := by
  cases hf : finB .f32 x
  · have H1 := Lib.hid (fun W => specSineTurns_of ((l01Sine_not x W hf).mono fun e w' h => ⟨⟨h.1.choose, h.1.choose_spec.1⟩, h⟩))
    have H2 := Lib.hid (fun W => implSine_not x W wx hf)
    have c2 := cv_nan (show nanB .f32 2143289344 = true by decide)
    clear hf wx
    go_enter Try.func5, Try.ntmps5
    go_wp2_with fail
    refine (H1.out _).mono ?_
    rintro e w' ⟨⟨r, rfl, hr⟩, n, rfl⟩
    have c1 := cv_nan hr
    clear hr
    go_wp2_with fail
    refine (H2.out _).mono ?_
    rintro e w' ⟨rfl, m, rfl⟩
    go_wp2_with fail
    refine (sameFloat_any _ _ _ (.inr ⟨nanOf_conv _ _ _, nanOf_conv _ _ _⟩)).mono ?_
    rintro e w' ⟨rfl, rfl⟩
    go_wp2_with fail
    go_ret
    exact ⟨rfl, below_drewN (Below.refl _ _) _⟩
  · obtain ⟨v, hv, H1, H2⟩ : ∃ v, nanB .f32 v = false ∧ (∀ W, Calls Try.prog 15 #[.float .f32 x] W fun e w' => e = .returned (.float .f32 v) ∧ W = w') ∧ (∀ W, Calls Try.prog 16 #[.float .f32 x] W fun e w' => e = .returned (.float .f32 v) ∧ W = w') := by
      cases hb : bigV (wide x)
      · obtain ⟨s, m, p, hr, hp⟩ := fin64 (show finB .f64 (wide x) = true by rw [wide_fin (fin_nan32 hf)]; exact hf)
        obtain ⟨hlt, _, _⟩ := (big_ok hr hp).1 hb
        exact ⟨_, (narrow_bd (sinR_ok (part_ok (trunc_ok hr hp hlt).2.2).2).2 (by omega)).2, fun W => specSineTurns_of ((l01Sine_fin x W hf hb).mono fun e w' h => ⟨⟨_, h.1⟩, h⟩), fun W => implSine_fin x W wx hf hb⟩
      · exact ⟨0, by decide, fun W => specSineTurns_of ((l01Sine_big x W hf hb).mono fun e w' h => ⟨⟨_, h.1⟩, h⟩), fun W => implSine_big x W wx hf hb⟩
    have hc := cv_some hv
    have HS := Lib.hid (same_wide hv)
    have K1 := Lib.hid H1
    have K2 := Lib.hid H2
    clear hf wx H1 H2 hv
    go_enter Try.func5, Try.ntmps5
    go_wp2_with fail
    refine (K1.out _).mono ?_
    rintro e w' ⟨rfl, rfl⟩
    go_wp2_with fail
    refine (K2.out _).mono ?_
    rintro e w' ⟨rfl, rfl⟩
    go_wp2_with fail
    refine (sameFloat_any _ _ _ HS.out).mono ?_
    rintro e w' ⟨rfl, rfl⟩
    go_wp2_with fail
    go_ret
    exact ⟨rfl, Below.refl _ _⟩

end Go.Proofs.Ytfmnfidocicjkaa
