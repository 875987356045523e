/- The circle's functions as plain functions of bits, their operations told, their bounds. -/
import Derived.Test.YtfmnfidocicjkaaFop
set_option linter.unusedVariables false
namespace Go.Proofs.Ytfmnfidocicjkaa

/-- An integer from 1 on as a float64. -/
theorem int_G {n : Int} (h1 : 1 ≤ n) (h2 : n < 2 ^ 53) : G 1074 (floatOfInt .f64 n) ∧ B 1127 (floatOfInt .f64 n) := by
  have e : floatOfInt .f64 n = Ieee.double.nearest false n.natAbs 0 := by
    show Ieee.double.nearest _ _ _ = _
    rw [decide_eq_false (by omega)]
  have hle : Fl.Le2 n.natAbs 0 ((1127 : Nat) + Ieee.double.leastPlace) := by
    rw [least64]
    unfold Fl.Le2
    have e1 : (0 - (((1127 : Nat) : Int) + -1074)).toNat = 0 := by omega
    have e2 : (((1127 : Nat) : Int) + -1074 - 0).toNat = 53 := by omega
    rw [e1, e2]
    omega
  rw [e]
  refine ⟨Fl.nearest_gb (f := Ieee.double) (E := 1127) (by rw [top64]; omega) eb64 _ _ _ hle ?_, Fl.nearest_bd (by rw [top64]; omega) eb64 _ _ _ hle⟩
  rw [least64]
  unfold Fl.Ge2
  have e1 : (0 - (((1074 : Nat) : Int) + -1074)).toNat = 0 := by omega
  have e2 : (((1074 : Nat) : Int) + -1074 - 0).toNat = 0 := by omega
  rw [e1, e2]
  omega

/-! ### The angle -/
def atStep (t : Nat) : Nat := fd t (fa one (fr (fa one (fm t t))))
theorem atStep_ok {t : Nat} (h : B 1075 t) :
    floatBits .mul .f64 t t = some (fm t t) ∧ floatBits .add .f64 one (fm t t) = some (fa one (fm t t)) ∧ Ieee.double.sqrt (fa one (fm t t)) = some (fr (fa one (fm t t))) ∧
      floatBits .add .f64 one (fr (fa one (fm t t))) = some (fa one (fr (fa one (fm t t)))) ∧ floatBits .quo .f64 t (fa one (fr (fa one (fm t t)))) = some (atStep t) ∧ B 1075 (atStep t) := by
  obtain ⟨a1, b1⟩ := fm_ok h h (by omega) (by omega)
  have n1 := fm_sq_NN h (by omega) (by omega)
  obtain ⟨a2, b2⟩ := fa_ok B_one b1 (by omega)
  have n2 := (fa_NN B_one b1 NN_one n1 G_one (by omega)).1
  obtain ⟨a3, b3⟩ := fr_ok (H := 1076) b2 n2 (by omega) (by omega)
  have n3 := fr_NN (H := 1076) b2 n2 (by omega) (by omega)
  obtain ⟨a4, b4⟩ := fa_ok B_one b3 (by omega)
  have g4 := (fa_NN B_one b3 NN_one n3 G_one (by omega)).2
  obtain ⟨a5, b5⟩ := fd_ok h g4 (by omega) (by omega)
  exact ⟨a1, a2, a3, a4, a5, b5⟩

/-- The polynomial of the angle behind j rounds: k is 15 - 2 j. -/
def atPoly (u : Nat) : Nat → Nat
  | 0 => 0
  | j + 1 => fs (fd one (floatOfInt .f64 (15 - 2 * (j : Int)))) (fm u (atPoly u j))
theorem atPoly_bd {u : Nat} (hu : B 1076 u) : ∀ j, j ≤ 8 → B (1074 + 3 * j) (atPoly u j) := by
  intro j
  induction j with
  | zero => intro _; exact B_zero
  | succ j ih =>
    intro hj
    have h1 := ih (by omega)
    obtain ⟨g, _⟩ := int_G (n := 15 - 2 * (j : Int)) (by omega) (by omega)
    obtain ⟨_, b1⟩ := fd_ok B_one g (by omega) (by omega)
    obtain ⟨_, b2⟩ := fm_ok hu h1 (by omega) (by omega)
    obtain ⟨_, b3⟩ := fs_ok b1 b2 (by omega)
    exact b3.mono (by omega)
theorem atPoly_ok {u : Nat} (hu : B 1076 u) (j : Nat) (hj : j < 8) :
    floatBits .quo .f64 one (floatOfInt .f64 (15 - 2 * (j : Int))) = some (fd one (floatOfInt .f64 (15 - 2 * (j : Int)))) ∧ floatBits .mul .f64 u (atPoly u j) = some (fm u (atPoly u j)) ∧
      floatBits .sub .f64 (fd one (floatOfInt .f64 (15 - 2 * (j : Int)))) (fm u (atPoly u j)) = some (atPoly u (j + 1)) := by
  have h1 := atPoly_bd hu j (by omega)
  obtain ⟨g, _⟩ := int_G (n := 15 - 2 * (j : Int)) (by omega) (by omega)
  obtain ⟨a1, b1⟩ := fd_ok B_one g (by omega) (by omega)
  obtain ⟨a2, b2⟩ := fm_ok hu h1 (by omega) (by omega)
  obtain ⟨a3, b3⟩ := fs_ok b1 b2 (by omega)
  exact ⟨a1, a2, a3⟩

def eight : Nat := 4620693217682128896
theorem B_eight : B 1077 eight := B_pow (s := false) (p := -49) 1025 (by decide) (by decide)
def turn : Nat := 4618760256179416344
def flatV (t : Nat) : Nat :=
  fd (fm eight (fm (atStep (atStep (atStep t))) (atPoly (fm (atStep (atStep (atStep t))) (atStep (atStep (atStep t)))) 8))) turn
theorem flat_ok {t : Nat} (h : B 1075 t) :
    floatBits .mul .f64 t t = some (fm t t) ∧ B 1076 (fm t t) ∧ floatBits .mul .f64 t (atPoly (fm t t) 8) = some (fm t (atPoly (fm t t) 8)) ∧
      floatBits .mul .f64 eight (fm t (atPoly (fm t t) 8)) = some (fm eight (fm t (atPoly (fm t t) 8))) ∧
      floatBits .quo .f64 (fm eight (fm t (atPoly (fm t t) 8))) turn = some (fd (fm eight (fm t (atPoly (fm t t) 8))) turn) ∧ B 1101 (fd (fm eight (fm t (atPoly (fm t t) 8))) turn) := by
  obtain ⟨a1, b1⟩ := fm_ok h h (by omega) (by omega)
  have b2 := atPoly_bd (u := fm t t) b1 8 (by omega)
  obtain ⟨a3, b3⟩ := fm_ok h b2 (by omega) (by omega)
  obtain ⟨a4, b4⟩ := fm_ok B_eight b3 (by omega) (by omega)
  obtain ⟨a5, b5⟩ := fd_ok b4 G_turn (by omega) (by omega)
  exact ⟨a1, b1, a3, a4, a5, b5.mono (by omega)⟩

end Go.Proofs.Ytfmnfidocicjkaa
