/- The law on products of lists. -/
import Derived.Test.YtlcnelcbhehiaaaSums
set_option linter.unusedVariables false
namespace Go.Proofs.Ytlcnelcbhehiaaa
open Go.RowKit

theorem add_nan32' (b : Nat) {x : Nat} (h : nanB .f32 x = true) : floatBits .add .f32 b x = none := by
  unfold nanB at h
  show Ieee.single.add b x = none
  unfold Ieee.Format.add
  cases hx : FloatKind.f32.decode x with
  | number s m p => rw [hx] at h; cases h
  | infinity s => rw [hx] at h; cases h
  | nan s t =>
    rw [show Ieee.single.read x = _ from hx]
    cases Ieee.single.read b <;> rfl

/-- What a product may be. -/
def ProdSt (f h : Nat → Nat) (k r : Nat) : Prop := floatBits .mul .f32 (f k) (h k) = some r ∨ (floatBits .mul .f32 (f k) (h k) = none ∧ nanB .f32 r = true)
def dotV (f h : Nat → Nat) : Nat → Option Nat
  | 0 => some 0
  | k + 1 => (dotV f h k).bind fun s => (floatBits .mul .f32 (f k) (h k)).bind fun p => floatBits .add .f32 s p
def DotSt (f h : Nat → Nat) (k b : Nat) : Prop := dotV f h k = some b ∨ (dotV f h k = none ∧ nanB .f32 b = true)

theorem dot_sum {f h pw : Nat → Nat} : ∀ k, (∀ i, i < k → ProdSt f h i (pw i)) → sumV pw k = dotV f h k
  | 0, _ => rfl
  | k + 1, hp => by
    have ih := dot_sum k fun i hi => hp i (by omega)
    unfold sumV dotV
    rw [ih]
    rcases hp k (by omega) with h1 | ⟨h1, h2⟩
    · rw [h1]; rfl
    · rw [h1]
      cases dotV f h k with
      | none => rfl
      | some s => exact add_nan32' s h2

theorem DotSt.stepS {f h : Nat → Nat} {k b p r : Nat} (hs : DotSt f h k b) (hp : floatBits .mul .f32 (f k) (h k) = some p) (hr : floatBits .add .f32 b p = some r) : DotSt f h (k + 1) r := by
  rcases hs with hs | ⟨_, hs⟩
  · left; unfold dotV; rw [hs, hp]; exact hr
  · rw [add_nan32 hs] at hr; cases hr
theorem DotSt.stepN {f h : Nat → Nat} {k b p r : Nat} (hs : DotSt f h k b) (hp : floatBits .mul .f32 (f k) (h k) = some p) (hr : floatBits .add .f32 b p = none) (hn : nanB .f32 r = true) : DotSt f h (k + 1) r := by
  right
  refine ⟨?_, hn⟩
  unfold dotV
  rcases hs with hs | ⟨hs, _⟩
  · rw [hs, hp]; exact hr
  · rw [hs]; rfl
theorem DotSt.stepM {f h : Nat → Nat} {k b r : Nat} (hs : DotSt f h k b) (hp : floatBits .mul .f32 (f k) (h k) = none) (hn : nanB .f32 r = true) : DotSt f h (k + 1) r := by
  right
  refine ⟨?_, hn⟩
  unfold dotV
  rw [hp]
  cases dotV f h k <;> rfl
theorem DotSt.pair {f h : Nat → Nat} {k a b : Nat} (ha : DotSt f h k a) (hb : DotSt f h k b) : (a = b ∧ nanB .f32 a = false) ∨ (nanB .f32 a = true ∧ nanB .f32 b = true) := by
  rcases ha with ha | ⟨ha, na⟩ <;> rcases hb with hb | ⟨hb, nb⟩
  · rw [ha] at hb
    have e : a = b := Option.some.inj hb
    subst e
    cases hn : nanB .f32 a
    · exact .inl ⟨rfl, rfl⟩
    · exact .inr ⟨rfl, rfl⟩
  · rw [ha] at hb; cases hb
  · rw [ha] at hb; cases hb
  · exact .inr ⟨na, nb⟩

theorem mul_run32 (x y : Nat) (h : floatBits .mul .f32 x y = none) (w : World) : (binOp .mul 22 (.float .f32 x) (.float .f32 y)).run Try.prog w = .ok (.float .f32 (nanOf (.nanBits .f32 x y) w)) w.drew :=
  run_arith_nan .mul 22 .f32 x y (.inr (.inr (.inl rfl))) h w
theorem add_runN (b x y : Nat) (V w : World) : (binOp .add 22 (.float .f32 b) (.float .f32 (nanOf (.nanBits .f32 x y) V))).run Try.prog w = .ok (.float .f32 (nanOf (.nanBits .f32 b (nanOf (.nanBits .f32 x y) V)) w)) w.drew :=
  add_run32 _ _ (add_nan32' b (nanOf_bits _ _ _ _)) w

set_option maxHeartbeats 4000000 in
theorem l01Dot_any (g q n : Nat) (f h : Nat → Nat) (w : World) (hn : n ≤ 1048576) (hg : At32 w g n f) (hq : At32 w q n h) :
    Calls Try.prog 20 #[.slice (some ⟨g, 0, none⟩) n n, .slice (some ⟨q, 0, none⟩) n n] w fun e w' => ∃ b, e = .returned (.float .f32 b) ∧ DotSt f h n b ∧ ∃ m, w' = w.drewN m := by
  go_enter Try.func20, Try.ntmps20
  go_wp2
  go_loopw [5, 6] (fun v i wr => ∃ k b m : Nat, k ≤ n ∧ i = .int .i64 k ∧ v = .float .f32 b ∧ Hid (DotSt f h k b) ∧ Hid (wr = w.drewN m)) (fun _ i _ => n - (intOf i).toNat)
  case atStart => exact ⟨0, 0, 0, Nat.zero_le _, rfl, rfl, .inl rfl, rfl⟩
  case round =>
    obtain ⟨k, b, m, hk, rfl, rfl, HS, hw⟩ := hrel
    by_cases hlt : k < n
    · have d1 : (k : Int) < n := by omega
      have hcg : wr.cell? ⟨g, k, none⟩ = some (.float .f32 (f k)) := by rw [hw.out]; exact hg.2 k hlt
      have hcq : wr.cell? ⟨q, k, none⟩ = some (.float .f32 (h k)) := by rw [hw.out]; exact hq.2 k hlt
      cases hm : floatBits .mul .f32 (f k) (h k) with
      | some p =>
        have hm1 := fun W => run_float_arith (P := Try.prog) W .mul 22 .f32 (f k) (h k) p hm
        cases hb : floatBits .add .f32 b p with
        | some r =>
          have HS2 := Lib.hid (HS.out.stepS hm hb)
          have hb1 := fun W => run_float_arith (P := Try.prog) W .add 22 .f32 b p r hb
          clear HS hb hm
          generalize f k = x at *
          generalize h k = y at *
          go_wp2_with fail
          go_region
          all_goals (go_wp2; exact ⟨⟨k + 1, r, m + 1, by omega, by simp, rfl, HS2, by rw [hw.out]; exact rfl⟩, by simp [intOf]; omega⟩)
        | none =>
          have HS2 := Lib.hid (fun r => HS.out.stepN (r := r) hm hb)
          have hb1 := fun W => add_run32 b p hb W
          clear HS hb hm
          generalize f k = x at *
          generalize h k = y at *
          go_wp2_with fail
          go_region
          all_goals (go_wp2; exact ⟨⟨k + 1, _, m + 2, by omega, by simp, rfl, HS2.out _ (nanOf_bits _ _ _ _), by rw [hw.out]; exact rfl⟩, by simp [intOf]; omega⟩)
      | none =>
        have HS2 := Lib.hid (fun r => HS.out.stepM (r := r) hm)
        have hm1 := fun W => mul_run32 (f k) (h k) hm W
        have hb1 := fun V W => add_runN b (f k) (h k) V W
        clear HS hm
        generalize f k = x at *
        generalize h k = y at *
        go_wp2_with fail
        go_region
        all_goals (go_wp2; exact ⟨⟨k + 1, _, m + 3, by omega, by simp, rfl, HS2.out _ (nanOf_bits _ _ _ _), by rw [hw.out]; exact rfl⟩, by simp [intOf]; omega⟩)
    · have d1 : ¬ (k : Int) < n := by omega
      have e : k = n := by omega
      subst e
      go_wp2
      go_ret
      exact ⟨_, rfl, HS.out, _, hw.out⟩

theorem specDot_any (g q n : Nat) (f h : Nat → Nat) (w : World) (hn : n ≤ 256) (hg : At32 w g n f) (hq : At32 w q n h) :
    Calls Try.prog 13 #[.slice (some ⟨g, 0, none⟩) n n, .slice (some ⟨q, 0, none⟩) n n] w fun e w' => ∃ b, e = .returned (.tuple #[.float .f32 b, .bool true]) ∧ DotSt f h n b ∧ Below w.heap.size w w' := by
  have H0 := Lib.hid (fun W => few_yes (some ⟨g, 0, none⟩) n n W hn)
  have H := Lib.hid (l01Dot_any g q n f h w (by omega) hg hq)
  clear hg hq hn
  go_enter Try.func13, Try.ntmps13
  go_wp2_with fail
  refine (H0.out _).mono ?_
  rintro e w' ⟨rfl, rfl⟩
  go_wp2_with fail
  refine H.out.mono ?_
  rintro e w' ⟨b, rfl, hs, m, rfl⟩
  have HS := Lib.hid hs
  clear hs
  go_wp2_with fail
  go_ret2
  exact ⟨_, rfl, HS.out, drewN_below _ _ _⟩
theorem specDot_no (a c : Option Addr) (n m cap cap2 : Nat) (w : World) (hn : ¬ n ≤ 256 ∨ n ≠ m) :
    Calls Try.prog 13 #[.slice a n cap, .slice c m cap2] w fun e w' => e = .returned (.tuple #[.float .f32 0, .bool false]) ∧ w = w' := by
  by_cases hf : n ≤ 256
  · have H0 := Lib.hid (fun W => few_yes a n cap W hf)
    have hne : ¬ (n : Int) = m := by omega
    clear hn hf
    go_enter Try.func13, Try.ntmps13
    go_wp2_with fail
    refine (H0.out _).mono ?_
    rintro e w' ⟨rfl, rfl⟩
    go_wp2_with fail
    go_ret2
    exact ⟨rfl, rfl⟩
  · have H0 := Lib.hid (fun W => few_no a n cap W hf)
    clear hn hf
    go_enter Try.func13, Try.ntmps13
    go_wp2_with fail
    refine (H0.out _).mono ?_
    rintro e w' ⟨rfl, rfl⟩
    go_wp2_with fail
    go_ret2
    exact ⟨rfl, rfl⟩
theorem implDot_no (a c : Option Addr) (n m cap cap2 : Nat) (w : World) (hn : n ≠ m) :
    Calls Try.prog 14 #[.slice a n cap, .slice c m cap2] w fun e w' => e = .returned (.tuple #[.float .f32 0, .bool false]) ∧ w = w' := by
  have hne : ¬ (n : Int) = m := by omega
  clear hn
  go_enter Try.func14, Try.ntmps14
  go_wp2
  go_ret2
  exact ⟨rfl, rfl⟩

/-- The products as far as they are made. -/
def Prods (f h : Nat → Nat) (xs : List Value) (k : Nat) : Prop := ∀ i, i < k → ∃ r, xs[i]? = some (.float .f32 r) ∧ ProdSt f h i r
theorem Prods.step {f h : Nat → Nat} {xs : List Value} {k r : Nat} (hp : Prods f h xs k) (hk : k < xs.length) (hr : ProdSt f h k r) : Prods f h (xs.set k (.float .f32 r)) (k + 1) := by
  intro i hi
  by_cases e : i = k
  · subst e
    exact ⟨r, by simp [hk], hr⟩
  · rw [List.getElem?_set_ne (by omega)]
    exact hp i (by omega)

theorem implDot_any (g q n : Nat) (f h : Nat → Nat) (w : World) (hn : n ≤ 1048576) (hg : At32 w g n f) (hq : At32 w q n h)
    (ok : Bool) (St : Nat → Prop) (HS0 : ∀ g' W pw, At32 W g' n pw → (∀ i, i < n → ProdSt f h i (pw i)) → Calls Try.prog 11 #[.slice (some ⟨g', 0, none⟩) n n] W fun e w' => ∃ b, e = .returned (.tuple #[.float .f32 b, .bool ok]) ∧ St b ∧ ∃ m, w' = W.drewN m) :
    Calls Try.prog 14 #[.slice (some ⟨g, 0, none⟩) n n, .slice (some ⟨q, 0, none⟩) n n] w fun e w' => ∃ b, e = .returned (.tuple #[.float .f32 b, .bool ok]) ∧ St b ∧ Below w.heap.size w w' := by
  have HS := Lib.hid HS0
  clear HS0
  obtain ⟨i, hi, hz, hs, hb⟩ := info_parts info_f32
  go_enter Try.func14, Try.ntmps14
  go_wp2_with (first
    | (at_make; refine wpList_make_full _ rfl _ _ 27 rfl w.heap.size 22 i (.float .f32 0) 1 Try.underlying27 hi hz hs .i64 .i64 _ _ n rfl rfl rfl rfl (by rw [hb]; omega) (by unfold maxLen; omega) (Nat.le_refl _) ?_; intro w0 hown0 hgrow0)
    | go_in)
  have HB0 := Lib.hid ((Below.refl w.heap.size w).grown hgrow0 (Nat.le_refl _) (fun _ h => by cases h))
  go_loopw [19] (fun r wr => ∃ k : Nat, ∃ xs : List Value, k ≤ n ∧ r = .int .i64 k ∧ wr.ownsRow w.heap.size 22 1 (.slice (some ⟨w.heap.size, 0, none⟩) n n) n xs ∧ Hid (Below w.heap.size w wr) ∧ Hid (Prods f h xs k)) (fun r _ => n - (intOf r).toNat)
  case atStart => exact ⟨0, _, Nat.zero_le _, rfl, hown0, HB0, fun i hi => by omega⟩
  case round =>
    obtain ⟨k, xs, hk, rfl, hown, HB, HP⟩ := hrel
    have hxl : xs.length = n := by have := hown.1; omega
    by_cases hlt : k < n
    · have d1 : (k : Int) < n := by omega
      have hcw : wr.cell? ⟨g, k, none⟩ = some (.float .f32 (f k)) := by rw [HB.out.cell hg.1]; exact hg.2 k hlt
      have hcq : wr.cell? ⟨q, k, none⟩ = some (.float .f32 (h k)) := by rw [HB.out.cell hq.1]; exact hq.2 k hlt
      obtain ⟨old, hcg⟩ : ∃ old, wr.cell? ⟨w.heap.size, k, none⟩ = some old := ⟨xs[k]'(by omega), by
        rw [hown.cellAt k (by omega)]
        exact List.getElem?_eq_getElem (by omega)⟩
      have hfg : wr.frozen? ⟨w.heap.size, k, none⟩ = false := hown.frozenAt k
      cases hm : floatBits .mul .f32 (f k) (h k) with
      | some p =>
        have hm1 := fun W => run_float_arith (P := Try.prog) W .mul 22 .f32 (f k) (h k) p hm
        have hst := Lib.hid (hown.stored k (.float .f32 p))
        have hP := Lib.hid (HP.out.step (show k < xs.length by omega) (.inl hm))
        have hsf := store_f32 (x := p) hcg hfg
        clear hown hm HP
        generalize f k = x at *
        generalize h k = y at *
        go_wp2
        exact ⟨⟨k + 1, _, by omega, by simp, hst.out.1, Lib.hid (HB.out.grown hst.out.2 HB.out.size (fun _ h => by cases h; exact Nat.le_refl _)), hP.out⟩, by simp [intOf]; omega⟩
      | none =>
        have hm1 := mul_run32 (f k) (h k) hm wr
        have hst := Lib.hid (fun V : Nat => hown.drew.stored k (.float .f32 V))
        have hP := Lib.hid (HP.out.step (show k < xs.length by omega) (.inr ⟨hm, nanOf_bits .f32 (f k) (h k) wr⟩))
        have hsf := store_f32 (W := wr.drew) (x := nanOf (.nanBits .f32 (f k) (h k)) wr) hcg hfg
        clear hown hm HP
        generalize f k = x at *
        generalize h k = y at *
        generalize nanOf (.nanBits .f32 x y) wr = z at *
        go_wp2
        exact ⟨⟨k + 1, _, by omega, by simp, (hst.out z).1, Lib.hid (HB.out.drew.grown (hst.out z).2 HB.out.size (fun _ h => by cases h; exact Nat.le_refl _)), hP.out⟩, by simp [intOf]; omega⟩
    · have d1 : ¬ (k : Int) < n := by omega
      have e : k = n := by omega
      subst e
      have hG : At32 wr w.heap.size k (fun i => match xs[i]? with | some (.float _ r) => r | _ => 0) ∧ (∀ i, i < k → ProdSt f h i (match xs[i]? with | some (.float _ r) => r | _ => 0)) := by
        refine ⟨⟨?_, fun i hi => ?_⟩, fun i hi => ?_⟩
        · rcases hown.2 with ⟨h', _⟩ | ⟨g', cap', cur, h', _, hg, _⟩
          · cases h'
          · simp only [Value.slice.injEq, Option.some.injEq, Addr.mk.injEq, and_true] at h'
            rw [h'.1]
            exact (Array.getElem?_eq_some_iff.1 hg).1
        · rw [hown.cellAt i (by omega)]
          obtain ⟨r, hr, _⟩ := HP.out i hi
          simp only [hr]
        · obtain ⟨r, hr, hr2⟩ := HP.out i hi
          rw [hr]
          exact hr2
      have HC := Lib.hid (HS.out _ _ _ hG.1 hG.2)
      clear hown hG HP
      go_wp2_with fail
      refine HC.out.mono ?_
      rintro e w' ⟨b, rfl, hs, m, rfl⟩
      have HSt := Lib.hid hs
      clear hs
      go_wp2_with fail
      go_ret2
      exact ⟨_, rfl, HSt.out, HB.out.trans (drewN_below _ _ _)⟩

theorem brefl (w : World) : Below w.heap.size w w := Below.refl _ _
theorem bdrew2 (w : World) : Below w.heap.size w w.drew.drew := drewN_below w 2 _
theorem dot_law (a c : Option Addr) (n m cap cap2 : Nat) (f h : Nat → Nat) (w : World) (hbig : n ≤ 1048576) (hbig2 : m ≤ 1048576) (hva : V32 w a n cap f) (hvb : V32 w c m cap2 h)
    (ok : Bool) (St : Nat → Prop) (hpair : ∀ x y, St x → St y → (x = y ∧ nanB .f32 x = false) ∨ (nanB .f32 x = true ∧ nanB .f32 y = true))
    (HS0 : ∀ g q W, At32 W g n f → At32 W q m h → Calls Try.prog 13 #[.slice (some ⟨g, 0, none⟩) n n, .slice (some ⟨q, 0, none⟩) m m] W fun e w' => ∃ b, e = .returned (.tuple #[.float .f32 b, .bool ok]) ∧ St b ∧ Below W.heap.size W w')
    (HI0 : ∀ g q W, At32 W g n f → At32 W q m h → Calls Try.prog 14 #[.slice (some ⟨g, 0, none⟩) n n, .slice (some ⟨q, 0, none⟩) m m] W fun e w' => ∃ b, e = .returned (.tuple #[.float .f32 b, .bool ok]) ∧ St b ∧ Below W.heap.size W w') :
    Calls Try.prog 5 #[.slice a n cap, .slice c m cap2] w fun e w' => e = .returned (.bool true) ∧ Below w.heap.size w w' := by
  have hva0 := Lib.hid hva
  have hvb0 := Lib.hid hvb
  have HS := Lib.hid HS0
  have HI := Lib.hid HI0
  have HP := Lib.hid hpair
  clear HS0 HI0 hpair hva hvb
  have d1 : ¬ (1048576 : Int) < n := by omega
  have d2 : ¬ (1048576 : Int) < m := by omega
  have HTa := Lib.hid (fun W hv => toF_any a n cap f W hbig hv)
  have HTb := Lib.hid (fun W hv => toF_any c m cap2 h W hbig2 hv)
  have HEa := Lib.hid (fun g h W hg hh => eqF_any g h n f W hbig hg hh)
  have HEb := Lib.hid (fun g q W hg hh => eqF_any g q m h W hbig2 hg hh)
  clear hbig hbig2
  go_enter Try.func5, Try.ntmps5
  go_wp2_with fail
  refine (HTa.out _ hva0.out).mono ?_
  rintro e w1 ⟨g1, rfl, hge1, hat1, hb1⟩
  have X1 := Lib.hid hat1
  have B1 := Lib.hid hb1
  have hva1 := Lib.hid (hva0.out.below hb1)
  have hvb1 := Lib.hid (hvb0.out.below hb1)
  clear hat1 hb1 hge1
  go_wp2_with fail
  refine (HTb.out _ hvb1.out).mono ?_
  rintro e w2 ⟨g2, rfl, hge2, hat2, hb2⟩
  have X2 := Lib.hid (At32.below X1.out X1.out.1 hb2)
  have Y2 := Lib.hid hat2
  have B2 := Lib.hid (B1.out.trans (hb2.mono B1.out.size))
  have hva2 := Lib.hid (hva1.out.below hb2)
  have hvb2 := Lib.hid (hvb1.out.below hb2)
  clear hat2 hb2 hge2
  go_wp2_with fail
  refine (HS.out _ _ _ X2.out Y2.out).mono ?_
  rintro e w3 ⟨b, rfl, hsum, hb3⟩
  have S1 := Lib.hid hsum
  have B3 := Lib.hid (B2.out.trans (hb3.mono B2.out.size))
  have hva3 := Lib.hid (hva2.out.below hb3)
  have hvb3 := Lib.hid (hvb2.out.below hb3)
  clear hsum hb3
  go_wp2_with fail
  refine (HTa.out _ hva3.out).mono ?_
  rintro e w1' ⟨g1', rfl, hge1, hat1, hb1⟩
  have X1' := Lib.hid hat1
  have B1' := Lib.hid (B3.out.trans (hb1.mono B3.out.size))
  have hva1' := Lib.hid (hva3.out.below hb1)
  have hvb1' := Lib.hid (hvb3.out.below hb1)
  clear hat1 hb1 hge1
  go_wp2_with fail
  refine (HTb.out _ hvb1'.out).mono ?_
  rintro e w2' ⟨g2', rfl, hge2, hat2, hb2⟩
  have X3 := Lib.hid (At32.below X1'.out X1'.out.1 hb2)
  have Y3 := Lib.hid hat2
  have B2' := Lib.hid (B1'.out.trans (hb2.mono B1'.out.size))
  have hva2' := Lib.hid (hva1'.out.below hb2)
  have hvb2' := Lib.hid (hvb1'.out.below hb2)
  clear hat2 hb2 hge2
  go_wp2_with fail
  refine (HI.out _ _ _ X3.out Y3.out).mono ?_
  rintro e w4 ⟨d, rfl, hsum2, hb4⟩
  have X4 := Lib.hid (At32.below X3.out X3.out.1 hb4)
  have Y4 := Lib.hid (At32.below Y3.out Y3.out.1 hb4)
  have B4 := Lib.hid (B2'.out.trans (hb4.mono B2'.out.size))
  have hva4 := Lib.hid (hva2'.out.below hb4)
  have hvb4 := Lib.hid (hvb2'.out.below hb4)
  have hp := HP.out _ _ hsum2 S1.out
  clear hsum2 hb4 X1 X2 Y2 B1 B2 B3 hva0 hvb0 hva1 hvb1 hva2 hvb2 hva3 hvb3 X1' X3 Y3 B1' B2' hva1' hvb1' hva2' hvb2' HS HI HP S1
  rcases hp with ⟨rfl, hn⟩ | ⟨n1, n2⟩
  · have c1 := cv_some hn
    have HQ := Lib.hid (same_wide hn)
    clear hn
    go_wp2_with fail
    refine (sameFloat_any _ _ _ HQ.out).mono ?_
    rintro e w' ⟨rfl, rfl⟩
    go_wp2_with fail
    refine (HTa.out _ (V32.below hva4.out (brefl w4))).mono ?_
    rintro e w5 ⟨g5, rfl, hge5, hat5, hb5⟩
    have A5 := Lib.hid hat5
    have X5 := Lib.hid (At32.below X4.out X4.out.1 ((brefl w4).trans hb5))
    have Y5 := Lib.hid (At32.below Y4.out Y4.out.1 ((brefl w4).trans hb5))
    have B5 := Lib.hid (B4.out.trans (((brefl w4).mono B4.out.size).trans (hb5.mono B4.out.size)))
    have hvb5 := Lib.hid (V32.below (V32.below hvb4.out (brefl w4)) hb5)
    clear hat5 hb5 hge5
    go_wp2_with fail
    refine (HEa.out _ _ _ X5.out A5.out).mono ?_
    rintro e w6 ⟨rfl, hb6⟩
    have Y6 := Lib.hid (At32.below Y5.out Y5.out.1 hb6)
    have B6 := Lib.hid (B5.out.trans (hb6.mono B5.out.size))
    have hvb6 := Lib.hid (V32.below hvb5.out hb6)
    clear hb6
    go_wp2_with fail
    refine (HTb.out _ hvb6.out).mono ?_
    rintro e w7 ⟨g7, rfl, hge7, hat7, hb7⟩
    have A7 := Lib.hid hat7
    have Y7 := Lib.hid (At32.below Y6.out Y6.out.1 hb7)
    have B7 := Lib.hid (B6.out.trans (hb7.mono B6.out.size))
    clear hat7 hb7 hge7
    go_wp2_with fail
    refine (HEb.out _ _ _ Y7.out A7.out).mono ?_
    rintro e w8 ⟨rfl, hb8⟩
    have B8 := Lib.hid (B7.out.trans (hb8.mono B7.out.size))
    clear hb8
    go_wp2_with fail
    go_ret
    exact ⟨rfl, B8.out⟩
  · have c1 := cv_nan n1
    have c2 := cv_nan n2
    clear n1 n2
    go_wp2_with fail
    refine (sameFloat_any _ _ _ (.inr ⟨nanOf_conv _ _ _, nanOf_conv _ _ _⟩)).mono ?_
    rintro e w' ⟨rfl, rfl⟩
    go_wp2_with fail
    refine (HTa.out _ (V32.below hva4.out (bdrew2 w4))).mono ?_
    rintro e w5 ⟨g5, rfl, hge5, hat5, hb5⟩
    have A5 := Lib.hid hat5
    have X5 := Lib.hid (At32.below X4.out X4.out.1 ((bdrew2 w4).trans hb5))
    have Y5 := Lib.hid (At32.below Y4.out Y4.out.1 ((bdrew2 w4).trans hb5))
    have B5 := Lib.hid (B4.out.trans (((bdrew2 w4).mono B4.out.size).trans (hb5.mono B4.out.size)))
    have hvb5 := Lib.hid (V32.below (V32.below hvb4.out (bdrew2 w4)) hb5)
    clear hat5 hb5 hge5
    go_wp2_with fail
    refine (HEa.out _ _ _ X5.out A5.out).mono ?_
    rintro e w6 ⟨rfl, hb6⟩
    have Y6 := Lib.hid (At32.below Y5.out Y5.out.1 hb6)
    have B6 := Lib.hid (B5.out.trans (hb6.mono B5.out.size))
    have hvb6 := Lib.hid (V32.below hvb5.out hb6)
    clear hb6
    go_wp2_with fail
    refine (HTb.out _ hvb6.out).mono ?_
    rintro e w7 ⟨g7, rfl, hge7, hat7, hb7⟩
    have A7 := Lib.hid hat7
    have Y7 := Lib.hid (At32.below Y6.out Y6.out.1 hb7)
    have B7 := Lib.hid (B6.out.trans (hb7.mono B6.out.size))
    clear hat7 hb7 hge7
    go_wp2_with fail
    refine (HEb.out _ _ _ Y7.out A7.out).mono ?_
    rintro e w8 ⟨rfl, hb8⟩
    have B8 := Lib.hid (B7.out.trans (hb8.mono B7.out.size))
    clear hb8
    go_wp2_with fail
    go_ret
    exact ⟨rfl, B8.out⟩

theorem fnExactDotNumbers.walk (a : Option Addr) (n cap : Nat) (zs : List Nat) (c : Option Addr) (m cap2 : Nat) (ys : List Nat) (w : World) (ha : IsRowF .f32 w a n cap zs) (hc : IsRowF .f32 w c m cap2 ys) :
    Calls Try.prog 5 #[.slice a n cap, .slice c m cap2] w fun e w' => e = .returned (.bool true) ∧ Below w.heap.size w w' := by
  have hva := V32_of ha
  have hvb := V32_of hc
  clear ha hc
  generalize (fun i => zs.getD i 0) = f at *
  generalize (fun i => ys.getD i 0) = h at *
  by_cases hbig : n ≤ 1048576
  · by_cases hbig2 : m ≤ 1048576
    · by_cases hnm : n = m
      · subst hnm
        by_cases hfew : n ≤ 256
        · exact dot_law a c n n cap cap2 f h w hbig hbig2 hva hvb true (DotSt f h n) (fun x y hx hy => hx.pair hy) (fun g q W hg hq => specDot_any g q n f h W hfew hg hq)
            (fun g q W hg hq => implDot_any g q n f h W hbig hg hq true (DotSt f h n) (fun g' W' pw hw hp => (implSum_any g' n pw W' hfew hw).mono fun e w' ⟨b, h1, h2, h3⟩ => ⟨b, h1, by
              unfold SumSt at h2
              rw [dot_sum n hp] at h2
              exact h2, h3⟩))
        · exact dot_law a c n n cap cap2 f h w hbig hbig2 hva hvb false (fun x => x = 0) (fun x y hx hy => .inl ⟨hx.trans hy.symm, by rw [hx]; decide⟩)
            (fun g q W hg hq => (specDot_no _ _ n n n n W (.inl hfew)).mono fun e w' h => ⟨0, h.1, rfl, by rw [← h.2]; exact Below.refl _ _⟩)
            (fun g q W hg hq => implDot_any g q n f h W hbig hg hq false (fun x => x = 0) (fun g' W' pw hw hp => (implSum_no _ n n W' hfew).mono fun e w' h => ⟨0, h.1, rfl, 0, h.2.symm⟩))
      · exact dot_law a c n m cap cap2 f h w hbig hbig2 hva hvb false (fun x => x = 0) (fun x y hx hy => .inl ⟨hx.trans hy.symm, by rw [hx]; decide⟩)
          (fun g q W hg hq => (specDot_no _ _ n m n m W (.inr hnm)).mono fun e w' h => ⟨0, h.1, rfl, by rw [← h.2]; exact Below.refl _ _⟩)
          (fun g q W hg hq => (implDot_no _ _ n m n m W hnm).mono fun e w' h => ⟨0, h.1, rfl, by rw [← h.2]; exact Below.refl _ _⟩)
    · have d1 : ¬ (1048576 : Int) < n := by omega
      have d2 : (1048576 : Int) < m := by omega
      go_enter Try.func5, Try.ntmps5
      go_wp2
      go_ret
      exact ⟨rfl, Below.refl _ _⟩
  · have d1 : (1048576 : Int) < n := by omega
    go_enter Try.func5, Try.ntmps5
    go_wp2
    go_ret
    exact ⟨rfl, Below.refl _ _⟩
end Go.Proofs.Ytlcnelcbhehiaaa
