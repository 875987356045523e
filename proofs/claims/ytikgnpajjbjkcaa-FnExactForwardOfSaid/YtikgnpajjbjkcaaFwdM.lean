/- The rows of a forward look: their numbers, their bounds. -/
import Derived.Test.YtikgnpajjbjkcaaHidS
import Derived.Test.YtikgnpajjbjkcaaAppend
set_option linter.unusedVariables false
namespace Go.Proofs.Ytikgnpajjbjkcaa
open Go.RowKit

/-- One term of a next row's number. -/
def termR (g h : Nat → Nat) (N L : Nat) (row : Nat → Nat) (z j i : Nat) : Nat := mul32 (mul32 (row i) (h (i * L + z))) (g (i * N + j))
/-- The next row of a forward look. -/
def nextR (g h : Nat → Nat) (N L : Nat) (row : Nat → Nat) (z j : Nat) : Nat := sumF (termR g h N L row z j) N
/-- The rows of a forward look. -/
def fwdR (f g h : Nat → Nat) (N L : Nat) (v : Nat → Int) : Nat → Nat → Nat
  | 0 => f
  | k + 1 => nextR g h N L (fwdR f g h N L v k) (v k).toNat
theorem mul_E {E x y : Nat} (hx : S E x) (hy : S 149 y) (hE : E ≤ 276) : floatBits .mul .f32 x y = some (mul32 x y) ∧ S E (mul32 x y) := by
  have h := mul32_ok hx hy (by omega) (by omega)
  have e : E + 149 - 149 = E := by omega
  rw [e] at h
  exact h
section
variable {f g h row : Nat → Nat} {N L z j i E : Nat} {v : Nat → Int}
theorem idx_lt {i N L z : Nat} (hi : i < N) (hz : z < L) : i * L + z < N * L := by
  have : i * L + L ≤ N * L := by rw [← Nat.succ_mul]; exact Nat.mul_le_mul_right _ hi
  omega
theorem term_ok (hE : E ≤ 276) (hr : ∀ i, i < N → S E (row i)) (hg : ∀ i, i < N * N → S 149 (g i)) (hh : ∀ i, i < N * L → S 149 (h i)) (hz : z < L) (hj : j < N) (hi : i < N) :
    floatBits .mul .f32 (row i) (h (i * L + z)) = some (mul32 (row i) (h (i * L + z))) ∧ floatBits .mul .f32 (mul32 (row i) (h (i * L + z))) (g (i * N + j)) = some (termR g h N L row z j i) ∧ S E (termR g h N L row z j i) := by
  have h1 := mul_E (hr i hi) (hh _ (idx_lt hi hz)) hE
  have h2 := mul_E h1.2 (hg _ (idx_lt hi hj)) hE
  exact ⟨h1.1, h2.1, h2.2⟩
theorem S_mono {E E' x : Nat} (h : S E x) (he : E ≤ E') : S E' x := Fl.Bd.mono h he
theorem nextR_S (hE : E + 5 ≤ 276) (hN : N ≤ 5) (hr : ∀ i, i < N → S E (row i)) (hg : ∀ i, i < N * N → S 149 (g i)) (hh : ∀ i, i < N * L → S 149 (h i)) (hz : z < L) (hj : j < N) : S (E + 5) (nextR g h N L row z j) :=
  S_mono (sumF_S (f := termR g h N L row z j) (fun i hi => (term_ok (by omega) hr hg hh hz hj hi).2.2) (by omega) N (Nat.le_refl _)) (by omega)
theorem nextR_add (hE : E + 5 ≤ 276) (hN : N ≤ 5) (hr : ∀ i, i < N → S E (row i)) (hg : ∀ i, i < N * N → S 149 (g i)) (hh : ∀ i, i < N * L → S 149 (h i)) (hz : z < L) (hj : j < N) (hi : i < N) :
    floatBits .add .f32 (sumF (termR g h N L row z j) i) (termR g h N L row z j i) = some (sumF (termR g h N L row z j) (i + 1)) :=
  sumF_ok (n := N) (fun i hi => (term_ok (by omega) hr hg hh hz hj hi).2.2) (by omega) hi
theorem fwdR_S {p : Nat} (hN : N ≤ 5) (hp : p ≤ 12) (hf : ∀ i, i < N → S 149 (f i)) (hg : ∀ i, i < N * N → S 149 (g i)) (hh : ∀ i, i < N * L → S 149 (h i)) (hw : ∀ k, k < p → (v k).toNat < L) :
    ∀ k, k ≤ p → ∀ i, i < N → S (149 + 5 * k) (fwdR f g h N L v k i) := by
  intro k hk
  induction k with
  | zero => exact hf
  | succ k ih =>
    intro i hi
    have := nextR_S (E := 149 + 5 * k) (by omega) hN (ih (by omega)) hg hh (hw k (by omega)) hi
    rw [show 149 + 5 * k + 5 = 149 + 5 * (k + 1) by omega] at this
    exact this
end
/-- The chance of a word: the sum of its last row. -/
def chanF (f g h : Nat → Nat) (N L : Nat) (v : Nat → Int) (p : Nat) : Nat := sumF (fwdR f g h N L v p) N
theorem word_lt {v : Nat → Int} {p L : Nat} (hw : wordB v p ((L : Int) - 1) = true) : p ≤ 12 ∧ ∀ k, k < p → 0 ≤ v k ∧ (v k).toNat < L := by
  obtain ⟨h1, h2⟩ := wordB_iff.1 hw
  exact ⟨h2, fun k hk => by obtain ⟨a, b⟩ := h1 k hk; exact ⟨a, by omega⟩⟩
/-- Floats in a row of the call's own. -/
theorem listV_snoc (n : Nat) (V : Nat → Value) : listV n V ++ [V n] = listV (n + 1) V := by
  unfold listV
  rw [List.range_succ, List.map_append]
  rfl
end Go.Proofs.Ytikgnpajjbjkcaa
