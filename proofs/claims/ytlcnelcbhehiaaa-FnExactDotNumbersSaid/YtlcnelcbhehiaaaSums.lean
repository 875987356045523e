/- The law on sums of lists. -/
import Derived.Test.YtlcnelcbhehiaaaLists
import Derived.Test.YtlcnelcbhehiaaaRowk
set_option linter.unusedVariables false
namespace Go.Proofs.Ytlcnelcbhehiaaa
open Go.RowKit

/-- The sum of the first numbers; none from the first on that is none. -/
def sumV (f : Nat → Nat) : Nat → Option Nat
  | 0 => some 0
  | k + 1 => (sumV f k).bind fun s => floatBits .add .f32 s (f k)
/-- What a sum of them may be. -/
def SumSt (f : Nat → Nat) (k b : Nat) : Prop := sumV f k = some b ∨ (sumV f k = none ∧ nanB .f32 b = true)

theorem add_nan32 {b : Nat} (h : nanB .f32 b = true) (x : Nat) : floatBits .add .f32 b x = none := by
  unfold nanB at h
  show Ieee.single.add b x = none
  unfold Ieee.Format.add
  cases hb : FloatKind.f32.decode b with
  | number s m p => rw [hb] at h; cases h
  | infinity s => rw [hb] at h; cases h
  | nan s t => rw [show Ieee.single.read b = _ from hb]; rfl

theorem SumSt.some {f : Nat → Nat} {k b r : Nat} (h : SumSt f k b) (hr : floatBits .add .f32 b (f k) = some r) : SumSt f (k + 1) r := by
  rcases h with h | ⟨_, h⟩
  · left; unfold sumV; rw [h]; exact hr
  · rw [add_nan32 h] at hr; cases hr
theorem SumSt.none {f : Nat → Nat} {k b r : Nat} (h : SumSt f k b) (hr : floatBits .add .f32 b (f k) = none) (hn : nanB .f32 r = true) : SumSt f (k + 1) r := by
  right
  refine ⟨?_, hn⟩
  rcases h with h | ⟨h, _⟩
  · unfold sumV; rw [h]; exact hr
  · unfold sumV; rw [h]; rfl
theorem SumSt.pair {f : Nat → Nat} {k a b : Nat} (ha : SumSt f k a) (hb : SumSt f k b) : (a = b ∧ nanB .f32 a = false) ∨ (nanB .f32 a = true ∧ nanB .f32 b = true) := by
  rcases ha with ha | ⟨ha, na⟩ <;> rcases hb with hb | ⟨hb, nb⟩
  · rw [ha] at hb
    have e : a = b := Option.some.inj hb
    subst e
    cases hn : nanB .f32 a
    · exact .inl ⟨rfl, rfl⟩
    · exact .inr ⟨rfl, rfl⟩
  · rw [ha] at hb; cases hb
  · rw [ha] at hb; cases hb
  · exact .inr ⟨na, nb⟩

theorem add_run32 (x y : Nat) (h : floatBits .add .f32 x y = none) (w : World) : (binOp .add 22 (.float .f32 x) (.float .f32 y)).run Try.prog w = .ok (.float .f32 (nanOf (.nanBits .f32 x y) w)) w.drew :=
  run_arith_nan .add 22 .f32 x y (.inl rfl) h w

theorem l01Sum_any (g n : Nat) (f : Nat → Nat) (w : World) (hn : n ≤ 1048576) (hg : At32 w g n f) :
    Calls Try.prog 19 #[.slice (some ⟨g, 0, none⟩) n n] w fun e w' => ∃ b, e = .returned (.float .f32 b) ∧ SumSt f n b ∧ ∃ m, w' = w.drewN m := by
  go_enter Try.func19, Try.ntmps19
  go_wp2
  go_loopw [3, 4] (fun v i wr => ∃ k b m : Nat, k ≤ n ∧ i = .int .i64 k ∧ v = .float .f32 b ∧ Hid (SumSt f k b) ∧ Hid (wr = w.drewN m)) (fun _ i _ => n - (intOf i).toNat)
  case atStart => exact ⟨0, 0, 0, Nat.zero_le _, rfl, rfl, .inl rfl, rfl⟩
  case round =>
    obtain ⟨k, b, m, hk, rfl, rfl, HS, hw⟩ := hrel
    by_cases hlt : k < n
    · have d1 : (k : Int) < n := by omega
      have hcg : wr.cell? ⟨g, k, none⟩ = some (.float .f32 (f k)) := by rw [hw.out]; exact hg.2 k hlt
      cases hb : floatBits .add .f32 b (f k) with
      | some r =>
        have HS2 := Lib.hid (HS.out.some hb)
        have hr := fun W => run_float_arith (P := Try.prog) W .add 22 .f32 b (f k) r hb
        clear HS hb
        generalize f k = x at *
        go_wp2
        exact ⟨⟨k + 1, r, m, by omega, by simp, rfl, HS2, hw⟩, by simp [intOf]; omega⟩
      | none =>
        have hr := fun W => add_run32 b (f k) hb W
        have HS2 := Lib.hid (fun r => HS.out.none (r := r) hb)
        clear HS hb
        generalize f k = x at *
        go_wp2
        exact ⟨⟨k + 1, _, m + 1, by omega, by simp, rfl, HS2.out _ (nanOf_bits _ _ _ _), by rw [hw.out]; exact rfl⟩, by simp [intOf]; omega⟩
    · have d1 : ¬ (k : Int) < n := by omega
      have e : k = n := by omega
      subst e
      go_wp2
      go_ret
      exact ⟨_, rfl, HS.out, _, hw.out⟩

theorem few_yes (a : Option Addr) (n cap : Nat) (w : World) (hn : n ≤ 256) : Calls Try.prog 18 #[.slice a n cap] w fun e w' => e = .returned (.bool true) ∧ w = w' := by
  have d1 : (n : Int) ≤ 256 := by omega
  go_enter Try.func18, Try.ntmps18
  go_wp2
  go_ret
  exact ⟨rfl, rfl⟩
theorem few_no (a : Option Addr) (n cap : Nat) (w : World) (hn : ¬ n ≤ 256) : Calls Try.prog 18 #[.slice a n cap] w fun e w' => e = .returned (.bool false) ∧ w = w' := by
  have d1 : ¬ (n : Int) ≤ 256 := by omega
  go_enter Try.func18, Try.ntmps18
  go_wp2
  go_ret
  exact ⟨rfl, rfl⟩

theorem specSum_any (g n : Nat) (f : Nat → Nat) (w : World) (hn : n ≤ 256) (hg : At32 w g n f) :
    Calls Try.prog 9 #[.slice (some ⟨g, 0, none⟩) n n] w fun e w' => ∃ b, e = .returned (.tuple #[.float .f32 b, .bool true]) ∧ SumSt f n b ∧ ∃ m, w' = w.drewN m := by
  have H0 := Lib.hid (fun W => few_yes (some ⟨g, 0, none⟩) n n W hn)
  have H := Lib.hid (l01Sum_any g n f w (by omega) hg)
  clear hg hn
  go_enter Try.func9, Try.ntmps9
  go_wp2_with fail
  refine (H0.out _).mono ?_
  rintro e w' ⟨rfl, rfl⟩
  go_wp2_with fail
  refine H.out.mono ?_
  rintro e w' ⟨b, rfl, hs, m, rfl⟩
  have HS := Lib.hid hs
  clear hs
  go_wp2_with fail
  go_ret2
  exact ⟨_, rfl, HS.out, _, rfl⟩
theorem specSum_no (a : Option Addr) (n cap : Nat) (w : World) (hn : ¬ n ≤ 256) :
    Calls Try.prog 9 #[.slice a n cap] w fun e w' => e = .returned (.tuple #[.float .f32 0, .bool false]) ∧ w = w' := by
  have H0 := Lib.hid (fun W => few_no a n cap W hn)
  clear hn
  go_enter Try.func9, Try.ntmps9
  go_wp2_with fail
  refine (H0.out _).mono ?_
  rintro e w' ⟨rfl, rfl⟩
  go_wp2_with fail
  go_ret2
  exact ⟨rfl, rfl⟩
theorem implSum_no (a : Option Addr) (n cap : Nat) (w : World) (hn : ¬ n ≤ 256) :
    Calls Try.prog 11 #[.slice a n cap] w fun e w' => e = .returned (.tuple #[.float .f32 0, .bool false]) ∧ w = w' := by
  have d0 : (256 : Int) < n := by omega
  go_enter Try.func11, Try.ntmps11
  go_wp2
  go_ret2
  exact ⟨rfl, rfl⟩

theorem implSum_any (g n : Nat) (f : Nat → Nat) (w : World) (hn : n ≤ 256) (hg : At32 w g n f) :
    Calls Try.prog 11 #[.slice (some ⟨g, 0, none⟩) n n] w fun e w' => ∃ b, e = .returned (.tuple #[.float .f32 b, .bool true]) ∧ SumSt f n b ∧ ∃ m, w' = w.drewN m := by
  have d0 : ¬ (256 : Int) < n := by omega
  go_enter Try.func11, Try.ntmps11
  go_wp2
  go_loopw [4, 12] (fun v i wr => ∃ k b m : Nat, k ≤ n ∧ i = .int .i64 k ∧ v = .float .f32 b ∧ Hid (SumSt f k b) ∧ Hid (wr = w.drewN m)) (fun _ i _ => n - (intOf i).toNat)
  case atStart => exact ⟨0, 0, 0, Nat.zero_le _, rfl, rfl, .inl rfl, rfl⟩
  case round =>
    obtain ⟨k, b, m, hk, rfl, rfl, HS, hw⟩ := hrel
    by_cases hlt : k < n
    · have d1 : (k : Int) < n := by omega
      have hcg : wr.cell? ⟨g, k, none⟩ = some (.float .f32 (f k)) := by rw [hw.out]; exact hg.2 k hlt
      cases hb : floatBits .add .f32 b (f k) with
      | some r =>
        have HS2 := Lib.hid (HS.out.some hb)
        have hr := fun W => run_float_arith (P := Try.prog) W .add 22 .f32 b (f k) r hb
        clear HS hb
        generalize f k = x at *
        go_wp2
        exact ⟨⟨k + 1, r, m, by omega, by simp, rfl, HS2, hw⟩, by simp [intOf]; omega⟩
      | none =>
        have hr := fun W => add_run32 b (f k) hb W
        have HS2 := Lib.hid (fun r => HS.out.none (r := r) hb)
        clear HS hb
        generalize f k = x at *
        go_wp2
        exact ⟨⟨k + 1, _, m + 1, by omega, by simp, rfl, HS2.out _ (nanOf_bits _ _ _ _), by rw [hw.out]; exact rfl⟩, by simp [intOf]; omega⟩
    · have d1 : ¬ (k : Int) < n := by omega
      have e : k = n := by omega
      subst e
      go_wp2
      go_ret2
      exact ⟨_, rfl, HS.out, _, hw.out⟩

theorem drewN_below (w : World) (m : Nat) (B : Nat) : Below B w (w.drewN m) := below_drewN (Below.refl B w) m

theorem V32_of {w : World} {a : Option Addr} {len cap : Nat} {zs : List Nat} (h : IsRowF .f32 w a len cap zs) : V32 w a len cap (fun i => zs.getD i 0) := by
  rcases h with ⟨h1, h2, h3, _⟩ | ⟨x, h1, h2, h3, h4, h5, _⟩
  · exact .inl ⟨h1, h2, h3⟩
  · exact .inr ⟨x, h1, fun i hi => h5 i (by omega)⟩

theorem sum_law (a : Option Addr) (len cap : Nat) (f : Nat → Nat) (w : World) (hbig : len ≤ 1048576) (hv0 : V32 w a len cap f) (ok : Bool) (St : Nat → Prop) (hpair : ∀ x y, St x → St y → (x = y ∧ nanB .f32 x = false) ∨ (nanB .f32 x = true ∧ nanB .f32 y = true))
    (HS0 : ∀ g W, At32 W g len f → Calls Try.prog 9 #[.slice (some ⟨g, 0, none⟩) len len] W fun e w' => ∃ b, e = .returned (.tuple #[.float .f32 b, .bool ok]) ∧ St b ∧ ∃ m, w' = W.drewN m)
    (HI0 : ∀ g W, At32 W g len f → Calls Try.prog 11 #[.slice (some ⟨g, 0, none⟩) len len] W fun e w' => ∃ b, e = .returned (.tuple #[.float .f32 b, .bool ok]) ∧ St b ∧ ∃ m, w' = W.drewN m) :
    Calls Try.prog 4 #[.slice a len cap] w fun e w' => e = .returned (.bool true) ∧ Below w.heap.size w w' := by
  have hv0 := Lib.hid hv0
  have HS := Lib.hid HS0
  have HI := Lib.hid HI0
  have HP := Lib.hid hpair
  clear HS0 HI0 hpair
  have d1 : ¬ (1048576 : Int) < len := by omega
  have HT := Lib.hid (fun W hv => toF_any a len cap f W hbig hv)
  have HE := Lib.hid (fun g h W hg hh => eqF_any g h len f W hbig hg hh)
  clear hbig
  go_enter Try.func4, Try.ntmps4
  go_wp2_with fail
  refine (HT.out _ hv0.out).mono ?_
  rintro e w1 ⟨g1, rfl, hge1, hat1, hb1⟩
  have A1 := Lib.hid hat1
  have B1 := Lib.hid hb1
  have hv1 := Lib.hid (hv0.out.below hb1)
  have hs1 := Lib.hid (hb1.size)
  clear hat1 hb1 hge1
  go_wp2_with fail
  refine (HS.out _ _ A1.out).mono ?_
  rintro e w2 ⟨b, rfl, hsum, m1, rfl⟩
  have S1 := Lib.hid hsum
  clear hsum
  go_wp2_with fail
  refine (HT.out _ (V32.below hv1.out (drewN_below _ _ _))).mono ?_
  rintro e w3 ⟨g3, rfl, hge3, hat3, hb3⟩
  have A3 := Lib.hid hat3
  have B3 := Lib.hid (B1.out.trans ((drewN_below w1 m1 _).trans (hb3.mono hs1.out)))
  have hv3 := Lib.hid (V32.below (V32.below hv1.out (drewN_below _ _ _)) hb3)
  clear hat3 hb3 hge3
  go_wp2_with fail
  refine (HI.out _ _ A3.out).mono ?_
  rintro e w4 ⟨c, rfl, hsum2, m2, rfl⟩
  have hp := HP.out _ _ hsum2 S1.out
  clear hsum2
  rcases hp with ⟨rfl, hn⟩ | ⟨n1, n2⟩
  · have c1 := cv_some hn
    have HQ := Lib.hid (same_wide hn)
    clear hn
    go_wp2_with fail
    refine (sameFloat_any _ _ _ HQ.out).mono ?_
    rintro e w' ⟨rfl, rfl⟩
    go_wp2_with fail
    refine (HT.out _ (V32.below hv3.out (drewN_below _ _ _))).mono ?_
    rintro e w5 ⟨g5, rfl, hge5, hat5, hb5⟩
    have A5 := Lib.hid hat5
    have A6 := Lib.hid (At32.below A3.out A3.out.1 ((drewN_below _ _ _).trans hb5))
    have B5 := Lib.hid (B3.out.trans ((drewN_below _ _ _).trans (hb5.mono B3.out.size)))
    clear hat5 hb5 hge5
    go_wp2_with fail
    refine (HE.out _ _ _ A6.out A5.out).mono ?_
    rintro e w6 ⟨rfl, hb6⟩
    have B6 := Lib.hid (B5.out.trans (hb6.mono B5.out.size))
    clear hb6
    go_wp2_with fail
    go_ret
    exact ⟨rfl, B6.out⟩
  · have c1 := cv_nan n1
    have c2 := cv_nan n2
    clear n1 n2
    go_wp2_with fail
    refine (sameFloat_any _ _ _ (.inr ⟨nanOf_conv _ _ _, nanOf_conv _ _ _⟩)).mono ?_
    rintro e w' ⟨rfl, rfl⟩
    go_wp2_with fail
    refine (HT.out _ (V32.below hv3.out (drewN_below _ _ _))).mono ?_
    rintro e w5 ⟨g5, rfl, hge5, hat5, hb5⟩
    have A5 := Lib.hid hat5
    have A6 := Lib.hid (At32.below A3.out A3.out.1 ((drewN_below _ _ _).trans hb5))
    have B5 := Lib.hid (B3.out.trans ((drewN_below _ _ _).trans (hb5.mono B3.out.size)))
    clear hat5 hb5 hge5
    go_wp2_with fail
    refine (HE.out _ _ _ A6.out A5.out).mono ?_
    rintro e w6 ⟨rfl, hb6⟩
    have B6 := Lib.hid (B5.out.trans (hb6.mono B5.out.size))
    clear hb6
    go_wp2_with fail
    go_ret
    exact ⟨rfl, B6.out⟩

theorem fnExactSumNumbers.walk (a : Option Addr) (len cap : Nat) (zs : List Nat) (w : World) (h : IsRowF .f32 w a len cap zs) :
    Calls Try.prog 4 #[.slice a len cap] w fun e w' => e = .returned (.bool true) ∧ Below w.heap.size w w' := by
  have hv0 := V32_of h
  clear h
  generalize (fun i => zs.getD i 0) = f at *
  by_cases hbig : len ≤ 1048576
  · by_cases hfew : len ≤ 256
    · exact sum_law a len cap f w hbig hv0 true (SumSt f len) (fun x y hx hy => hx.pair hy) (fun g W hg => specSum_any g len f W hfew hg) (fun g W hg => implSum_any g len f W hfew hg)
    · exact sum_law a len cap f w hbig hv0 false (fun x => x = 0) (fun x y hx hy => .inl ⟨hx.trans hy.symm, by rw [hx]; decide⟩)
        (fun g W hg => (specSum_no _ len len W hfew).mono fun e w' h => ⟨0, h.1, rfl, 0, h.2.symm⟩) (fun g W hg => (implSum_no _ len len W hfew).mono fun e w' h => ⟨0, h.1, rfl, 0, h.2.symm⟩)
  · have d1 : (1048576 : Int) < len := by omega
    go_enter Try.func4, Try.ntmps4
    go_wp2
    go_ret
    exact ⟨rfl, Below.refl _ _⟩
end Go.Proofs.Ytlcnelcbhehiaaa
