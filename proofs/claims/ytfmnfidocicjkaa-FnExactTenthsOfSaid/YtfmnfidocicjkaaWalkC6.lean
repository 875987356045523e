/- The law on tenths of decibels. -/
import Derived.Test.YtfmnfidocicjkaaWalkC5
set_option linter.unusedVariables false
namespace Go.Proofs.Ytfmnfidocicjkaa
open Go.RowKit

theorem cut_down_le (s : Bool) (n d : Nat) : Ieee.Toward.down.cut s n d ≤ n / 2 ^ d + 1 := by
  unfold Ieee.Toward.cut
  dsimp only
  have h1 : ∀ b : Bool, b.toNat ≤ 1 := fun b => Bool.toNat_le b
  by_cases hd : d ≤ n.log2 + 2
  · rw [Nat.min_eq_left hd, Nat.one_shiftLeft]
    have := h1 (s && n % 2 ^ d != 0)
    omega
  · rw [Nat.min_eq_right (by omega), Nat.one_shiftLeft]
    have hl := Fl.lt_log2 n
    have h4 : 2 ^ (n.log2 + 1) ≤ 2 ^ (n.log2 + 2) := Nat.pow_le_pow_right (by omega) (by omega)
    rw [Nat.div_eq_of_lt (by omega)]
    have := h1 (s && n % 2 ^ (n.log2 + 2) != 0)
    have h0 := Nat.zero_le (n / 2 ^ d)
    generalize n / 2 ^ d = q at *
    omega

/-- The whole part of a number of at most 2^62, by its units. -/
theorem whole_le {m E : Nat} {p : Int} (hp : -1074 ≤ p) (h : m * 2 ^ (p + 1074).toNat ≤ 2 ^ (1074 + E)) : m * 2 ^ p.toNat / 2 ^ (-p).toNat ≤ 2 ^ E := by
  obtain ⟨K, hK⟩ : ∃ K : Nat, K = 1074 := ⟨_, rfl⟩
  rw [← hK] at h
  by_cases hp0 : 0 ≤ p
  · have e1 : (-p).toNat = 0 := by omega
    have e2 : (p + 1074).toNat = p.toNat + K := by omega
    rw [e1, Nat.pow_zero, Nat.div_one]
    rw [e2, Nat.pow_add, ← Nat.mul_assoc, Nat.add_comm K, Nat.pow_add] at h
    exact Nat.le_of_mul_le_mul_right h (Nat.two_pow_pos K)
  · have e1 : p.toNat = 0 := by omega
    have e2 : K = (p + 1074).toNat + (-p).toNat := by omega
    rw [e1, Nat.pow_zero, Nat.mul_one]
    rw [e2] at h
    generalize (p + 1074).toNat = a at *
    generalize (-p).toNat = b at *
    have h2 : m * 2 ^ a ≤ 2 ^ E * 2 ^ b * 2 ^ a := by
      refine Nat.le_trans h ?_
      rw [← Nat.pow_add, ← Nat.pow_add]
      exact Nat.pow_le_pow_right (by omega) (by omega)
    have h3 := Nat.le_of_mul_le_mul_right h2 (Nat.two_pow_pos a)
    exact Nat.div_le_of_le_mul (by rw [Nat.mul_comm]; exact h3)

theorem toInt_some {z E : Nat} (h : B (1074 + E) z) (hE : E ≤ 62) : ∃ n, floatToIntVal .f64 z .i64 = some n := by
  obtain ⟨s, m, p, hr, hp, hb⟩ := h
  rw [least64] at hp hb
  have e : (p - -1074).toNat = (p + 1074).toNat := by congr 1
  rw [e] at hb
  have hw := Nat.le_trans (whole_le hp hb) (Nat.pow_le_pow_right (by omega) hE)
  have hint : (FloatKind.f64.decode z).toInt .zero = some (Fl.sv s (m * 2 ^ p.toNat / 2 ^ (-p).toNat)) := by
    show Ieee.Datum.toInt .zero (Ieee.double.read z) = _
    rw [hr]
    show some (Ieee.signed s (Ieee.Toward.zero.cut s (m <<< p.toNat) (-p).toNat) 0) = _
    rw [cut_zero_way, Nat.shiftLeft_eq, Fl.signed_sv, Nat.pow_zero, Nat.mul_one]
  refine ⟨Fl.sv s (m * 2 ^ p.toNat / 2 ^ (-p).toNat), ?_⟩
  unfold floatToIntVal
  rw [hint]
  generalize m * 2 ^ p.toNat / 2 ^ (-p).toNat = q at *
  have : IntKind.i64.min ≤ Fl.sv s q ∧ Fl.sv s q ≤ IntKind.i64.max := by
    have h1 : IntKind.i64.min = -9223372036854775808 := by decide
    have h2 : IntKind.i64.max = 9223372036854775807 := by decide
    rw [h1, h2]
    unfold Fl.sv
    cases s
    · simp only [Bool.false_eq_true, if_false]; omega
    · simp only [if_true]; omega
  show (if IntKind.i64.min ≤ Fl.sv s q ∧ Fl.sv s q ≤ IntKind.i64.max then some (Fl.sv s q) else none) = _
  rw [if_pos this]

def floorV (y : Nat) : Nat := Ieee.double.write ((Ieee.double.read y).integral .down)
theorem floor_bd {y E : Nat} (h : B (1074 + E) y) (hE : E ≤ 56) : B 1136 (floorV y) := by
  obtain ⟨s, m, p, hr, hp, hb⟩ := h
  rw [least64] at hp hb
  have e : (p - -1074).toNat = (p + 1074).toNat := by congr 1
  rw [e] at hb
  have hw := Nat.le_trans (whole_le hp hb) (Nat.pow_le_pow_right (by omega) hE)
  have hf : floorV y = Ieee.double.nearest s (Ieee.Toward.down.cut s (m <<< p.toNat) (-p).toNat) 0 := by
    unfold floorV; rw [hr]; rfl
  rw [hf]
  have hc := cut_down_le s (m <<< p.toNat) (-p).toNat
  rw [Nat.shiftLeft_eq] at hc
  rw [Nat.shiftLeft_eq]
  refine Fl.nearest_bd (by rw [top64]; omega) eb64 _ _ _ ?_
  rw [least64]
  unfold Fl.Le2
  have e1 : (0 - (((1136 : Nat) : Int) + -1074)).toNat = 0 := by omega
  have e2 : (((1136 : Nat) : Int) + -1074 - 0).toNat = 62 := by omega
  rw [e1, e2]
  omega

theorem floor_eq {y : Nat} {s : Bool} {m : Nat} {p : Int} (h : FloatKind.f64.decode y = .number s m p) : Extern.MathFloor.toIntegral "math.archFloor" .down #[Value.float .f64 y] = pure (Value.float .f64 (floorV y)) := by
  have e : Extern.MathFloor.toIntegral "math.archFloor" .down #[Value.float .f64 y] = (match FloatKind.f64.decode y with
    | .nan s t =>
      if FloatKind.f64.format.quiet t = t then pure (.float .f64 y) else do
      let kept ← choose (.extern "math.Floor,Ceil,Trunc,RoundToEven.signallingNaN kept" 2)
      pure (.float .f64 (if kept == 1 then y else FloatKind.f64.encode (.nan s (FloatKind.f64.format.quiet t))))
    | d => pure (.float .f64 (FloatKind.f64.encode (d.integral .down))) : Sem Value) := by kernel_rfl
  rw [e, h]
  show pure (Value.float .f64 (FloatKind.f64.encode ((Ieee.Datum.number s m p).integral .down))) = _
  unfold floorV
  rw [show Ieee.double.read y = _ from h]
  rfl
theorem dec_of_B {y E : Nat} (h : B E y) : ∃ s m p, FloatKind.f64.decode y = .number s m p := by
  obtain ⟨s, m, p, hr, _⟩ := h
  exact ⟨s, m, p, hr⟩
theorem Floor_any {y E : Nat} (w : World) (h : B E y) : Calls Try.prog 38 #[.float .f64 y] w fun e w' => e = .returned (.float .f64 (floorV y)) ∧ w = w' := by
  obtain ⟨s, m, p, hr⟩ := dec_of_B h
  clear h
  have hx : ∀ W, (callFunc 53 #[.float .f64 y]).run Try.prog W = .ok (.value (.float .f64 (floorV y))) W := fun W => by
    rw [run_callFunc_extern (e := Extern.MathFloor.toIntegral "math.archFloor" .down) Try.func53 (by kernel_rfl) (by kernel_rfl) (by kernel_rfl) (by kernel_rfl), floor_eq hr]
    rfl
  clear hr
  go_enter Try.func38, Try.ntmps38
  go_wp2
  go_ret
  exact ⟨rfl, rfl⟩

def toTenths : Nat := 4631308968768463603
theorem B_toTenths : B 1080 toTenths := B_normal (s := false) (m := 6112151458964211) (p := -47) 1027 (by decide) (by decide) (by decide)
def tenthsF (x : Nat) : Nat := floorV (fa (fm (logV (wide x)) toTenths) 4602678819172646912)
theorem tenths_ok {x : Nat} (h : Pos 1202 1 (wide x)) : floatBits .mul .f64 (logV (wide x)) toTenths = some (fm (logV (wide x)) toTenths) ∧
    floatBits .add .f64 (fm (logV (wide x)) toTenths) 4602678819172646912 = some (fa (fm (logV (wide x)) toTenths) 4602678819172646912) ∧ B 1130 (fa (fm (logV (wide x)) toTenths) 4602678819172646912) ∧ ∃ n, floatToIntVal .f64 (tenthsF x) .i64 = some n := by
  have b0 := logV_bd h default
  obtain ⟨a1, b1⟩ := fm_ok b0 B_toTenths (by omega) (by omega)
  obtain ⟨a2, b2⟩ := fa_ok b1 B_half (by omega)
  have b3 := b2.mono (show _ ≤ 1130 by omega)
  exact ⟨a1, a2, b3, toInt_some (E := 62) (floor_bd (E := 56) b3 (by omega)) (by omega)⟩

theorem conv_int {z : Nat} {n : Int} (h : floatToIntVal .f64 z .i64 = some n) (w : World) : (convert 22 2 (.float .f64 z)).run Try.prog w = .ok (.int .i64 n) w :=
  run_convert_float_int w _ _ _ _ _ _ (by rw [Try.underlying22]; rfl) Try.underlying2 h

theorem implTenths_no {x : Nat} (w : World) (wx : (Lit.float .f32 x).wf = true) (h : finB .f32 x = false ∨ ((FloatKind.f32.format.order x 0 == some .lt) || (FloatKind.f32.format.order x 0 == some .eq)) = true) :
    Calls Try.prog 18 #[.float .f32 x] w fun e w' => e = .returned (.tuple #[.int .i64 0, .bool false]) ∧ ∃ n, w' = w.drewN n := by
  have HI := Lib.hid (fun W => implIsFinite_any x W wx)
  cases hf : finB .f32 x
  · rw [hf] at HI
    clear h hf wx
    go_enter Try.func18, Try.ntmps18
    go_wp2_with fail
    refine (HI.out _).mono ?_
    rintro e w' ⟨rfl, n, rfl⟩
    go_wp2_with fail
    go_ret2
    exact ⟨rfl, _, rfl⟩
  · have k : (FloatKind.f32.format.order x 0 == some .lt || FloatKind.f32.format.order x 0 == some .eq) = true := by rcases h with h | h; (rw [hf] at h; cases h); exact h
    rw [hf] at HI
    clear h hf wx
    go_enter Try.func18, Try.ntmps18
    go_wp2_with fail
    refine (HI.out _).mono ?_
    rintro e w' ⟨rfl, n, rfl⟩
    go_wp2_with fail
    go_ret2
    exact ⟨rfl, _, rfl⟩
theorem specTenths_no {x : Nat} (w : World) (h : finB .f32 x = false ∨ ((FloatKind.f32.format.order x 0 == some .lt) || (FloatKind.f32.format.order x 0 == some .eq)) = true) :
    Calls Try.prog 17 #[.float .f32 x] w fun e w' => e = .returned (.tuple #[.int .i64 0, .bool false]) ∧ ∃ n, w' = w.drewN n := by
  have HI := Lib.hid (fun W => l01Finite_any x W)
  cases hf : finB .f32 x
  · rw [hf] at HI
    clear h hf
    go_enter Try.func17, Try.ntmps17
    go_wp2_with fail
    refine (HI.out _).mono ?_
    rintro e w' ⟨rfl, n, rfl⟩
    go_wp2_with fail
    go_ret2
    exact ⟨rfl, _, rfl⟩
  · have k : (FloatKind.f32.format.order x 0 == some .lt || FloatKind.f32.format.order x 0 == some .eq) = true := by rcases h with h | h; (rw [hf] at h; cases h); exact h
    rw [hf] at HI
    clear h hf
    go_enter Try.func17, Try.ntmps17
    go_wp2_with fail
    refine (HI.out _).mono ?_
    rintro e w' ⟨rfl, n, rfl⟩
    go_wp2_with fail
    go_ret2
    exact ⟨rfl, _, rfl⟩
theorem implTenths_yes {x : Nat} {r : Int} (w : World) (wx : (Lit.float .f32 x).wf = true) (hn : nanB .f32 x = false) (hg : Ieee.single.order x 0 = some .gt) (hf : finB .f32 x = true) (hp : Pos 1202 1 (wide x)) (hr : floatToIntVal .f64 (tenthsF x) .i64 = some r) :
    Calls Try.prog 18 #[.float .f32 x] w fun e w' => e = .returned (.tuple #[.int .i64 r, .bool true]) ∧ ∃ n, w' = w.drewN n := by
  have HI := Lib.hid (fun W => implIsFinite_any x W wx)
  rw [hf] at HI
  have k1 : (FloatKind.f32.format.order x 0 == some .eq) = false := eq_false_of hg (by decide)
  have k2 : (FloatKind.f32.format.order x 0 == some .lt) = false := eq_false_of hg (by decide)
  have c := cv_some hn
  have HL := Lib.hid (fun W => wideLog_any (wide x) W hp)
  obtain ⟨a1, a2, b, _⟩ := tenths_ok hp
  have v1 := fun W => run_float_arith (P := Try.prog) W .mul 22 .f64 _ 4631308968768463603 _ a1
  have v2 := fun W => run_float_arith (P := Try.prog) W .add 22 .f64 _ 4602678819172646912 _ a2
  have HF := Lib.hid (fun W => Floor_any W b)
  have ci := conv_int hr
  rw [show floorV (fa (fm (logV (wide x)) toTenths) 4602678819172646912) = tenthsF x from rfl] at HF
  clear wx hn hg hf hp hr a1 a2 b
  generalize tenthsF x = tf at *
  generalize fa (fm (logV (wide x)) toTenths) 4602678819172646912 = y2 at *
  generalize fm (logV (wide x)) toTenths = y1 at *
  generalize logV (wide x) = y0 at *
  go_enter Try.func18, Try.ntmps18
  go_wp2_with fail
  refine (HI.out _).mono ?_
  rintro e w' ⟨rfl, n, rfl⟩
  go_wp2_with fail
  refine (HL.out _).mono ?_
  rintro e w' ⟨rfl, rfl⟩
  go_wp2_with fail
  refine (HF.out _).mono ?_
  rintro e w' ⟨rfl, rfl⟩
  go_wp2_with fail
  go_ret2
  exact ⟨rfl, _, rfl⟩
theorem l01Tenths_any {x : Nat} {r : Int} (w : World) (hn : nanB .f32 x = false) (hg : Ieee.single.order x 0 = some .gt) (hf : finB .f32 x = true) (hp : Pos 1202 1 (wide x)) (hm : wide x % 2 ^ 63 = wide x) (hr : floatToIntVal .f64 (tenthsF x) .i64 = some r) :
    Calls Try.prog 36 #[.float .f32 x] w fun e w' => e = .returned (.int .i64 r) ∧ w = w' := by
  have c := cv_some hn
  obtain ⟨t1, t2, t3⟩ := pos_tests hn hg hf hm
  have HL := Lib.hid (fun W => specLog_any (wide x) W hp (wide_some hn).2 t1 t2 t3)
  obtain ⟨a1, a2, b, _⟩ := tenths_ok hp
  have v1 := fun W => run_float_arith (P := Try.prog) W .mul 22 .f64 _ 4631308968768463603 _ a1
  have v2 := fun W => run_float_arith (P := Try.prog) W .add 22 .f64 _ 4602678819172646912 _ a2
  have HF := Lib.hid (fun W => Floor_any W b)
  have ci := conv_int hr
  rw [show floorV (fa (fm (logV (wide x)) toTenths) 4602678819172646912) = tenthsF x from rfl] at HF
  clear hn hg hf hp hm hr a1 a2 b t1 t2 t3
  generalize tenthsF x = tf at *
  generalize fa (fm (logV (wide x)) toTenths) 4602678819172646912 = y2 at *
  generalize fm (logV (wide x)) toTenths = y1 at *
  generalize logV (wide x) = y0 at *
  go_enter Try.func36, Try.ntmps36
  go_wp2_with fail
  refine (HL.out _).mono ?_
  rintro e w' ⟨rfl, rfl⟩
  go_wp2_with fail
  refine (HF.out _).mono ?_
  rintro e w' ⟨rfl, rfl⟩
  go_wp2_with fail
  go_ret
  exact ⟨rfl, rfl⟩
theorem specTenths_yes {x : Nat} {r : Int} (w : World) (hn : nanB .f32 x = false) (hg : Ieee.single.order x 0 = some .gt) (hf : finB .f32 x = true) (hp : Pos 1202 1 (wide x)) (hm : wide x % 2 ^ 63 = wide x) (hr : floatToIntVal .f64 (tenthsF x) .i64 = some r) :
    Calls Try.prog 17 #[.float .f32 x] w fun e w' => e = .returned (.tuple #[.int .i64 r, .bool true]) ∧ ∃ n, w' = w.drewN n := by
  have HI := Lib.hid (fun W => l01Finite_any x W)
  rw [hf] at HI
  have k1 : (FloatKind.f32.format.order x 0 == some .eq) = false := eq_false_of hg (by decide)
  have k2 : (FloatKind.f32.format.order x 0 == some .lt) = false := eq_false_of hg (by decide)
  have HT := Lib.hid (fun W => l01Tenths_any W hn hg hf hp hm hr)
  clear hn hg hf hp hm hr
  go_enter Try.func17, Try.ntmps17
  go_wp2_with fail
  refine (HI.out _).mono ?_
  rintro e w' ⟨rfl, n, rfl⟩
  go_wp2_with fail
  refine (HT.out _).mono ?_
  rintro e w' ⟨rfl, rfl⟩
  go_wp2_with fail
  go_ret2
  exact ⟨rfl, _, rfl⟩

theorem fnExactTenthsOf.walk (x : Nat) (w : World) (wx : (Lit.float .f32 x).wf = true) : Calls Try.prog 6 #[.float .f32 x] w fun e w' => e = .returned (.bool true) ∧ Below w.heap.size w w' := by
  have hsplit : ∃ (r : Int) (b : Bool), (∀ W, Calls Try.prog 17 #[.float .f32 x] W fun e w' => e = .returned (.tuple #[.int .i64 r, .bool b]) ∧ ∃ n, w' = W.drewN n) ∧ (∀ W, Calls Try.prog 18 #[.float .f32 x] W fun e w' => e = .returned (.tuple #[.int .i64 r, .bool b]) ∧ ∃ n, w' = W.drewN n) := by
    rcases order0_cases (lt_of_wf32 wx) with hn | ⟨hn, ho⟩ | ⟨hn, ho⟩ | ⟨hn, ho, hf, hp, hm⟩ | rfl
    · exact ⟨0, false, fun W => specTenths_no W (.inl (fin_not_nan hn)), fun W => implTenths_no W wx (.inl (fin_not_nan hn))⟩
    · have h : ((FloatKind.f32.format.order x 0 == some .lt) || (FloatKind.f32.format.order x 0 == some .eq)) = true := by rw [show FloatKind.f32.format = Ieee.single from rfl, ho]; rfl
      exact ⟨0, false, fun W => specTenths_no W (.inr h), fun W => implTenths_no W wx (.inr h)⟩
    · have h : ((FloatKind.f32.format.order x 0 == some .lt) || (FloatKind.f32.format.order x 0 == some .eq)) = true := by rw [show FloatKind.f32.format = Ieee.single from rfl, ho]; rfl
      exact ⟨0, false, fun W => specTenths_no W (.inr h), fun W => implTenths_no W wx (.inr h)⟩
    · obtain ⟨r, hr⟩ := (tenths_ok hp).2.2.2
      exact ⟨r, true, fun W => specTenths_yes W hn ho hf hp hm hr, fun W => implTenths_yes W wx hn ho hf hp hr⟩
    · exact ⟨0, false, fun W => specTenths_no W (.inl (by decide)), fun W => implTenths_no W wx (.inl (by decide))⟩
  obtain ⟨r, b, H1, H2⟩ := hsplit
  have K1 := Lib.hid H1
  have K2 := Lib.hid H2
  clear H1 H2 wx
  go_enter Try.func6, Try.ntmps6
  go_wp2_with fail
  refine (K1.out _).mono ?_
  rintro e w' ⟨rfl, n, rfl⟩
  go_wp2_with fail
  refine (K2.out _).mono ?_
  rintro e w' ⟨rfl, m, rfl⟩
  cases b
  · go_wp2_with fail
    go_ret
    exact ⟨rfl, below_drewN (Below.refl _ _) _⟩
  · go_wp2_with fail
    go_ret
    exact ⟨rfl, below_drewN (Below.refl _ _) _⟩

end Go.Proofs.Ytfmnfidocicjkaa
