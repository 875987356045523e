/- The run of operations on floats, not-a-numbers among them, over any program. -/
import Derived.Test.YtikgnpajjbjkcaaFl
import Derived.Test.YtikgnpajjbjkcaaRet
import Derived.WalkKit
import Derived.WalkLawsBesides
import Derived.Deep.Draws
import Derived.Lib.Hide
set_option linter.unusedVariables false
namespace Go.Proofs.Ytikgnpajjbjkcaa
open Go.RowKit


/-- Is a float of this kind a not-a-number? -/
def nanB (k : FloatKind) (x : Nat) : Bool := (k.decode x).isNaN
/-- Is it finite? -/
def finB (k : FloatKind) (x : Nat) : Bool := match k.decode x with | .number .. => true | _ => false

theorem order_nan_left {k : FloatKind} {x : Nat} (y : Nat) (h : nanB k x = true) : k.format.order x y = none := by
  unfold nanB FloatKind.decode at h
  unfold Ieee.Format.order
  cases hx : k.format.read x with
  | number => rw [hx] at h; cases h
  | infinity => rw [hx] at h; cases h
  | nan => rfl

theorem order_nan_right {k : FloatKind} {y : Nat} (x : Nat) (h : nanB k y = true) : k.format.order x y = none := by
  unfold nanB FloatKind.decode at h
  unfold Ieee.Format.order
  cases hy : k.format.read y with
  | number => rw [hy] at h; cases h
  | infinity => rw [hy] at h; cases h
  | nan => cases k.format.read x <;> rfl

theorem order_self {k : FloatKind} {x : Nat} (h : nanB k x = false) : k.format.order x x = some .eq := by
  unfold nanB FloatKind.decode at h
  unfold Ieee.Format.order
  cases hx : k.format.read x with
  | number s m p => simp [Ieee.Datum.order]
  | infinity s => simp [Ieee.Datum.order]
  | nan => rw [hx] at h; cases h

theorem ne_self (k : FloatKind) (x : Nat) : (k.format.order x x != some .eq) = nanB k x := by
  cases h : nanB k x
  · rw [order_self h]; rfl
  · rw [order_nan_left x h]; rfl

@[go_sem] theorem unary_neg_float (k : FloatKind) (b : Nat) : Op.unary .neg (.float k b) = pure (.float k (Op.negFloat k b)) := rfl

/-- The not-a-number that a draw gives. -/
def nanOf (q : Question) (w : World) : Nat := q.cut (w.tape w.drawn q)

theorem nan_read32 (t : Nat) : nanB .f32 ((t % 2) * 2 ^ 31 + 0x7f800000 + 1 + (t / 2) % (2 ^ 23 - 1)) = true := by
  generalize hu : (t / 2) % (2 ^ 23 - 1) = u
  have hu' : u < 2 ^ 23 - 1 := by rw [← hu]; exact Nat.mod_lt _ (by decide)
  have h2 : t % 2 = 0 ∨ t % 2 = 1 := by omega
  have key : ∀ x : Nat, 2139095040 < x % 2147483648 → nanB .f32 x = true := by
    intro x hx
    unfold nanB FloatKind.decode FloatKind.format
    unfold Ieee.Format.read
    have e1 : Ieee.single.signWeight = 2147483648 := by decide
    have e2 : Ieee.single.infRung = 2139095040 := by decide
    have e3 : Ieee.single.binade = 8388608 := by decide
    simp only [e1, e2, e3]
    rw [if_neg (by omega), if_neg (by omega), if_neg (by omega)]
    rfl
  apply key
  rcases h2 with h | h <;> rw [h] <;> omega

theorem nan_read64 (t : Nat) : nanB .f64 ((t % 2) * 2 ^ 63 + 0x7ff0000000000000 + 1 + (t / 2) % (2 ^ 52 - 1)) = true := by
  generalize hu : (t / 2) % (2 ^ 52 - 1) = u
  have hu' : u < 2 ^ 52 - 1 := by rw [← hu]; exact Nat.mod_lt _ (by decide)
  have h2 : t % 2 = 0 ∨ t % 2 = 1 := by omega
  have key : ∀ x : Nat, 9218868437227405312 < x % 9223372036854775808 → nanB .f64 x = true := by
    intro x hx
    unfold nanB FloatKind.decode FloatKind.format
    unfold Ieee.Format.read
    have e1 : Ieee.double.signWeight = 9223372036854775808 := by decide
    have e2 : Ieee.double.infRung = 9218868437227405312 := by decide
    have e3 : Ieee.double.binade = 4503599627370496 := by decide
    simp only [e1, e2, e3]
    rw [if_neg (by omega), if_neg (by omega), if_neg (by omega)]
    rfl
  apply key
  rcases h2 with h | h <;> rw [h] <;> omega

theorem nanOf_conv (k : FloatKind) (b : Nat) (w : World) : nanB k (nanOf (.nanConv k b) w) = true := by
  cases k
  · exact nan_read32 _
  · exact nan_read64 _
theorem nanOf_bits (k : FloatKind) (x y : Nat) (w : World) : nanB k (nanOf (.nanBits k x y) w) = true := by
  cases k
  · exact nan_read32 _
  · exact nan_read64 _

section
variable {P : Program}

/-- A conversion of a not-a-number to the other kind: one draw. -/
theorem run_conv_nan (src dst : TypeId) (s k : FloatKind) (b : Nat) (hs : (P.underlying src).isSome = true) (hd : P.underlying dst = some (.float k)) (hne : s ≠ k) (h : nanB s b = true) (w : World) :
    (convert src dst (.float s b)).run P w = .ok (.float k (nanOf (.nanConv k b) w)) w.drew := by
  obtain ⟨u, hs'⟩ := Option.isSome_iff_exists.1 hs
  unfold nanB at h
  cases hx : s.decode b with
  | number => rw [hx] at h; cases h
  | infinity => rw [hx] at h; cases h
  | nan sg t =>
    have hf : Question.forced (.nanConv k b) = false := rfl
    cases u <;> simp [convert, run_underlying hs', run_underlying hd, Conv.floatToFloat, hne, hx, hf, nanOf]

/-- An arithmetic operation that has no answer: one draw. -/
theorem run_arith_nan (op : BinOp) (t : TypeId) (k : FloatKind) (x y : Nat) (hop : op = .add ∨ op = .sub ∨ op = .mul ∨ op = .quo) (h : floatBits op k x y = none) (w : World) :
    (binOp op t (.float k x) (.float k y)).run P w = .ok (.float k (nanOf (.nanBits k x y) w)) w.drew := by
  have hf : Question.forced (.nanBits k x y) = false := rfl
  rcases hop with rfl | rfl | rfl | rfl <;> (unfold floatBits at h; simp only at h; simp [binOp, Op.floatArith, h, hf, nanOf])
end

/-- float64(x) of a float32 that is no not-a-number. -/
def wide (x : Nat) : Nat := (floatToFloatBits .f32 x .f64).getD 0
/-- float32(x) of a float64 that is no not-a-number and not too great. -/
def narrow (x : Nat) : Nat := (floatToFloatBits .f64 x .f32).getD 0

theorem fmt32 : FloatKind.f32.format = Ieee.single := rfl
theorem fmt64 : FloatKind.f64.format = Ieee.double := rfl
theorem least32 : Ieee.single.leastPlace = -149 := by decide
theorem least64 : Ieee.double.leastPlace = -1074 := by decide
theorem top32 : Fl.top Ieee.single = 276 := by decide
theorem top64 : Fl.top Ieee.double = 2097 := by decide
theorem eb32 : 2 ≤ Ieee.single.exponentBits := by decide
theorem eb64 : 2 ≤ Ieee.double.exponentBits := by decide

/-- How many places of two lie between the least float32 and the least float64. -/
def k925 : Nat := 925

theorem wide_num {x : Nat} {s : Bool} {m : Nat} {p : Int} (h : FloatKind.f32.decode x = .number s m p) :
    floatToFloatBits .f32 x .f64 = some (wide x) ∧ -149 ≤ p ∧ wide x / 2 ^ 63 = s.toNat ∧
      ∃ m' p', FloatKind.f64.decode (wide x) = .number s m' p' ∧ -1074 ≤ p' ∧ m' * 2 ^ (p' + 1074).toNat = m * 2 ^ (p + 149).toNat * 2 ^ k925 := by
  have h' : Ieee.single.read x = .number s m p := h
  obtain ⟨_, h1, h2, h3, _⟩ := Fl.read_fin eb32 h'
  rw [least32] at h1 h3
  obtain ⟨E, hE⟩ : ∃ E : Nat, E = 1202 := ⟨_, rfl⟩
  have hb : m * 2 ^ (p - Ieee.double.leastPlace).toNat ≤ 2 ^ E := by
    refine Nat.le_trans (Nat.mul_le_mul_right _ (Nat.le_of_lt h2)) ?_
    rw [← Nat.pow_add]
    refine Nat.pow_le_pow_right (by omega) ?_
    rw [least64]
    have e : Ieee.single.exponentBits = 8 := rfl
    have e2 : Ieee.single.fractionBits = 23 := rfl
    rw [e] at h3
    rw [e2]
    omega
  have hl : m < 2 ^ (Ieee.double.fractionBits + 1) := Nat.lt_of_lt_of_le h2 (Nat.pow_le_pow_right (by omega) (by decide))
  obtain ⟨m', p', hr, hp', hv⟩ := Fl.nearest_exact (f := Ieee.double) (E := E) (by rw [top64]; omega) eb64 s m p hl (by rw [least64]; omega) hb
  have hn : (FloatKind.f64.decode (FloatKind.f64.encode (.number s m p))).isInfinity = false := by
    show (Ieee.double.read (Ieee.double.nearest s m p)).isInfinity = false
    rw [hr]; rfl
  have hw : floatToFloatBits .f32 x .f64 = some (Ieee.double.nearest s m p) := by
    unfold floatToFloatBits
    rw [if_neg (by decide), h]
    simp only
    rw [if_neg (by rw [hn]; decide)]
    rfl
  have hww : wide x = Ieee.double.nearest s m p := by unfold wide; rw [hw]; rfl
  refine ⟨by rw [hww]; exact hw, h1, by rw [hww]; exact Fl.nearest_sign Ieee.double s m p, m', p', by rw [hww]; exact hr, by rw [least64] at hp'; exact hp', ?_⟩
  rw [least64] at hv
  have e1 : (p' - -1074).toNat = (p' + 1074).toNat := by omega
  have e2 : (p - -1074).toNat = (p + 149).toNat + k925 := by unfold k925; omega
  rw [e1, e2, Nat.pow_add, ← Nat.mul_assoc] at hv
  exact hv

theorem wide_inf {x : Nat} {s : Bool} (h : FloatKind.f32.decode x = .infinity s) :
    floatToFloatBits .f32 x .f64 = some (wide x) ∧ wide x = Ieee.double.word s Ieee.double.infRung ∧ FloatKind.f64.decode (wide x) = .infinity s := by
  have hw : floatToFloatBits .f32 x .f64 = some (Ieee.double.word s Ieee.double.infRung) := by
    unfold floatToFloatBits
    rw [if_neg (by decide), h]
    rfl
  have hww : wide x = Ieee.double.word s Ieee.double.infRung := by unfold wide; rw [hw]; rfl
  refine ⟨by rw [hww]; exact hw, hww, ?_⟩
  rw [hww]
  cases s <;> decide

/-- float64(x) is told, and is no not-a-number. -/
theorem wide_some {x : Nat} (h : nanB .f32 x = false) : floatToFloatBits .f32 x .f64 = some (wide x) ∧ nanB .f64 (wide x) = false := by
  unfold nanB at *
  cases hx : FloatKind.f32.decode x with
  | number s m p =>
    obtain ⟨h1, _, _, m', p', h2, _⟩ := wide_num hx
    exact ⟨h1, by rw [h2]; rfl⟩
  | infinity s =>
    obtain ⟨h1, _, h2⟩ := wide_inf hx
    exact ⟨h1, by rw [h2]; rfl⟩
  | nan => rw [hx] at h; cases h

/-- The order of widened numbers is that of the numbers. -/
theorem wide_order {x y : Nat} (hx : nanB .f32 x = false) (hy : nanB .f32 y = false) : Ieee.double.order (wide x) (wide y) = Ieee.single.order x y := by
  unfold nanB at *
  unfold Ieee.Format.order
  have key : ∀ s m p, FloatKind.f32.decode x = .number s m p → ∀ t n q, FloatKind.f32.decode y = .number t n q → (Ieee.double.read (wide x)).order (Ieee.double.read (wide y)) = (Ieee.single.read x).order (Ieee.single.read y) := by
    intro s m p h t n q k
    obtain ⟨_, hp, _, m', p', h2, hp', hv⟩ := wide_num h
    obtain ⟨_, hq, _, n', q', k2, hq', kv⟩ := wide_num k
    rw [show Ieee.double.read (wide x) = _ from h2, show Ieee.double.read (wide y) = _ from k2, show Ieee.single.read x = _ from h, show Ieee.single.read y = _ from k]
    rw [Fl.order_num (L := -1074) hp' hq', Fl.order_num (L := -149) hp hq]
    have e1 : ∀ z : Int, (z - -1074).toNat = (z + 1074).toNat := fun z => by congr 1
    have e2 : ∀ z : Int, (z - -149).toNat = (z + 149).toNat := fun z => by congr 1
    rw [e1, e1, e2, e2, hv, kv, ← Fl.sv_scale s _ k925, ← Fl.sv_scale t _ k925, Fl.compare_scale]
  cases h : FloatKind.f32.decode x with
  | nan => rw [h] at hx; cases hx
  | infinity s =>
    have h2 := (wide_inf h).2.2
    cases k : FloatKind.f32.decode y with
    | nan => rw [k] at hy; cases hy
    | infinity t =>
      have k2 := (wide_inf k).2.2
      rw [show Ieee.double.read (wide x) = _ from h2, show Ieee.double.read (wide y) = _ from k2, show Ieee.single.read x = _ from h, show Ieee.single.read y = _ from k]
    | number t n q =>
      obtain ⟨_, _, _, n', q', k2, _⟩ := wide_num k
      rw [show Ieee.double.read (wide x) = _ from h2, show Ieee.double.read (wide y) = _ from k2, show Ieee.single.read x = _ from h, show Ieee.single.read y = _ from k]
      cases s <;> rfl
  | number s m p =>
    cases k : FloatKind.f32.decode y with
    | nan => rw [k] at hy; cases hy
    | infinity t =>
      have k2 := (wide_inf k).2.2
      obtain ⟨_, _, _, m', p', h2, _⟩ := wide_num h
      rw [show Ieee.double.read (wide x) = _ from h2, show Ieee.double.read (wide y) = _ from k2, show Ieee.single.read x = _ from h, show Ieee.single.read y = _ from k]
      rfl
    | number t n q => exact key _ _ _ h _ _ _ k

/-- A bounded float64 is narrowed without a draw. -/
theorem narrow_bd {y : Nat} {E : Nat} (h : Fl.Bd Ieee.double E y) (hE : E ≤ 1201) : floatToFloatBits .f64 y .f32 = some (narrow y) ∧ nanB .f32 (narrow y) = false := by
  obtain ⟨s, m, p, h1, h2, h3⟩ := h
  rw [least64] at h2 h3
  have hb := Fl.nearest_bd (f := Ieee.single) (E := 276) (by rw [top32]; omega) eb32 s m p (Fl.le2_of (L := -1074) h2 (by rw [least32]; omega) (by
    refine Nat.le_trans h3 (Nat.pow_le_pow_right (by omega) ?_)
    rw [least32]
    omega))
  obtain ⟨s', m', p', hr, _⟩ := hb
  have hn : (FloatKind.f32.decode (FloatKind.f32.encode (.number s m p))).isInfinity = false := by
    show (Ieee.single.read (Ieee.single.nearest s m p)).isInfinity = false
    rw [hr]; rfl
  have hw : floatToFloatBits .f64 y .f32 = some (Ieee.single.nearest s m p) := by
    unfold floatToFloatBits
    rw [if_neg (by decide), show FloatKind.f64.decode y = _ from h1]
    simp only
    rw [if_neg (by rw [hn]; decide)]
    rfl
  have hww : narrow y = Ieee.single.nearest s m p := by unfold narrow; rw [hw]; rfl
  refine ⟨by rw [hww]; exact hw, ?_⟩
  rw [hww]
  unfold nanB
  rw [show FloatKind.f32.decode _ = _ from hr]
  rfl

end Go.Proofs.Ytikgnpajjbjkcaa
