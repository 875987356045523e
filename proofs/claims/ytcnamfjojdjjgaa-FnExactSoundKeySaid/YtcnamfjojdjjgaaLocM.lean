/- Alignments of parts: what both programs compute. -/
import Derived.Test.YtcnamfjojdjjgaaEditC
set_option linter.unusedVariables false
namespace Go.Proofs.Ytcnamfjojdjjgaa
open Go.RowKit
/-- The gain of a pair. -/
def gainP (x y : Nat → Nat) (sm df : Int) (i j : Nat) : Int := if x i = y j then sm else -df
/-- A row behind a row. -/
def locStep (prev t : Nat → Int) (gap : Int) : Nat → Int
  | 0 => 0
  | j + 1 => max (max (max 0 (prev j + t j)) (prev (j + 1) - gap)) (locStep prev t gap j - gap)
def locE (x y : Nat → Nat) (sm df gap : Int) : Nat → Nat → Int
  | 0 => fun _ => 0
  | i + 1 => locStep (locE x y sm df gap i) (gainP x y sm df i) gap
theorem locE_0j {x y : Nat → Nat} {sm df gap : Int} (j : Nat) : locE x y sm df gap 0 j = 0 := rfl
theorem locE_i0 {x y : Nat → Nat} {sm df gap : Int} (i : Nat) : locE x y sm df gap i 0 = 0 := by cases i <;> rfl
theorem locE_ss {x y : Nat → Nat} {sm df gap : Int} (i j : Nat) : locE x y sm df gap (i + 1) (j + 1) = max (max (max 0 (locE x y sm df gap i j + gainP x y sm df i j)) (locE x y sm df gap i (j + 1) - gap)) (locE x y sm df gap (i + 1) j - gap) := rfl
theorem gainP_bd {x y : Nat → Nat} {sm df : Int} (h1 : 0 ≤ sm ∧ sm ≤ 1000) (h2 : 0 ≤ df ∧ df ≤ 1000) (i j : Nat) : -1000 ≤ gainP x y sm df i j ∧ gainP x y sm df i j ≤ 1000 := by
  unfold gainP
  split <;> omega
theorem locE_bd {x y : Nat → Nat} {sm df gap : Int} (h1 : 0 ≤ sm ∧ sm ≤ 1000) (h2 : 0 ≤ df ∧ df ≤ 1000) (h3 : 0 ≤ gap ∧ gap ≤ 1000) : ∀ i j : Nat, 0 ≤ locE x y sm df gap i j ∧ locE x y sm df gap i j ≤ 1000 * (i : Int) := by
  intro i
  induction i with
  | zero => intro j; rw [locE_0j]; omega
  | succ i ih =>
    intro j
    induction j with
    | zero => rw [locE_i0]; omega
    | succ j jh =>
      rw [locE_ss]
      have a1 := ih j
      have a2 := ih (j + 1)
      have a3 := gainP_bd (x := x) (y := y) h1 h2 i j
      generalize locE x y sm df gap i j = u1 at *
      generalize locE x y sm df gap i (j + 1) = u2 at *
      generalize locE x y sm df gap (i + 1) j = u3 at *
      generalize gainP x y sm df i j = u4 at *
      omega
/-- The greatest of the first k + 1. -/
def mxF (f : Nat → Int) : Nat → Int
  | 0 => f 0
  | k + 1 => max (mxF f k) (f (k + 1))
theorem mxF_le (f : Nat → Int) : ∀ k i, i ≤ k → f i ≤ mxF f k := by
  intro k
  induction k with
  | zero =>
    intro i hi
    obtain rfl : i = 0 := by omega
    exact Int.le_refl _
  | succ k ih =>
    intro i hi
    show f i ≤ max (mxF f k) (f (k + 1))
    rcases Nat.lt_or_ge i (k + 1) with h | h
    · have := ih i (by omega); omega
    · obtain rfl : i = k + 1 := by omega
      omega
theorem mxF_is (f : Nat → Int) : ∀ k, ∃ i, i ≤ k ∧ mxF f k = f i := by
  intro k
  induction k with
  | zero => exact ⟨0, Nat.le_refl _, rfl⟩
  | succ k ih =>
    obtain ⟨i, hi, he⟩ := ih
    show ∃ i, i ≤ k + 1 ∧ max (mxF f k) (f (k + 1)) = f i
    by_cases h : mxF f k ≤ f (k + 1)
    · exact ⟨k + 1, Nat.le_refl _, by omega⟩
    · exact ⟨i, by omega, by omega⟩
/-- The greatest number of a grid. -/
def IsTop (F : Nat → Nat → Int) (m n : Nat) (v : Int) : Prop := (∀ i j, i ≤ m → j ≤ n → F i j ≤ v) ∧ ∃ i j, i ≤ m ∧ j ≤ n ∧ v = F i j
theorem IsTop.unique {F : Nat → Nat → Int} {m n : Nat} {u v : Int} (h : IsTop F m n u) (k : IsTop F m n v) : u = v := by
  obtain ⟨h1, i, j, hi, hj, rfl⟩ := h
  obtain ⟨k1, i', j', hi', hj', rfl⟩ := k
  exact Int.le_antisymm (k1 i j hi hj) (h1 i' j' hi' hj')
/-- A grid's numbers, row behind row. -/
def gridI (F : Nat → Nat → Int) (S r : Nat) : Int := F (r / S) (r % S)
theorem gridI_at {F : Nat → Nat → Int} {S x y : Nat} (hy : y < S) : gridI F S (x * S + y) = F x y := by
  unfold gridI
  rw [Nat.add_comm, Nat.add_mul_div_right _ _ (by omega), Nat.div_eq_of_lt hy, Nat.zero_add, Nat.add_mul_mod_self_right, Nat.mod_eq_of_lt hy]
theorem top_grid (F : Nat → Nat → Int) (m n : Nat) : IsTop F m n (mxF (gridI F (n + 1)) ((m + 1) * (n + 1) - 1)) := by
  constructor
  · intro i j hi hj
    have := grid_room (m := m) (n := n) hi hj
    have h := mxF_le (gridI F (n + 1)) ((m + 1) * (n + 1) - 1) (i * (n + 1) + j) (by omega)
    rwa [gridI_at (by omega)] at h
  · obtain ⟨r, hr, he⟩ := mxF_is (gridI F (n + 1)) ((m + 1) * (n + 1) - 1)
    have hp : 0 < (m + 1) * (n + 1) := Nat.mul_pos (by omega) (by omega)
    refine ⟨r / (n + 1), r % (n + 1), ?_, ?_, he⟩
    · have : r / (n + 1) < m + 1 := Nat.div_lt_of_lt_mul (by rw [Nat.mul_comm]; omega)
      omega
    · have := Nat.mod_lt r (show 0 < n + 1 by omega)
      omega
end Go.Proofs.Ytcnamfjojdjjgaa
