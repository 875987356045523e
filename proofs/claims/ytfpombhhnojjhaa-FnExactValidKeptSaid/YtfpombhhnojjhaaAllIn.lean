/- Lists whose numbers all lie from 0 to a bound; words; valid plain machines. -/
import Derived.Test.YtfpombhhnojjhaaIn
import Derived.Test.YtfpombhhnojjhaaOwn
set_option linter.unusedVariables false
namespace Go.Proofs.Ytfpombhhnojjhaa
open Go.RowKit

/-- The first n numbers of f are from 0 to b. -/
def allIn (f : Nat → Int) (n : Nat) (b : Int) : Bool := (List.range n).all fun i => inB (f i) 0 b
theorem allIn_iff {f : Nat → Int} {n : Nat} {b : Int} : allIn f n b = true ↔ ∀ i, i < n → 0 ≤ f i ∧ f i ≤ b := by
  unfold allIn
  rw [List.all_eq_true]
  exact ⟨fun h i hi => inB_iff.1 (h i (List.mem_range.2 hi)), fun h i hi => inB_iff.2 (h i (List.mem_range.1 hi))⟩
theorem allIn_no {f : Nat → Int} {n k : Nat} {b : Int} (hk : k < n) (h : inB (f k) 0 b = false) : allIn f n b = false := by
  cases e : allIn f n b
  · rfl
  · have := allIn_iff.1 e k hk
    exact absurd this (inB_no h)
/-- A word. -/
def wordB (f : Nat → Int) (n : Nat) (b : Int) : Bool := allIn f n b && decide (n ≤ 12)
theorem wordB_iff {f : Nat → Int} {n : Nat} {b : Int} : wordB f n b = true ↔ (∀ i, i < n → 0 ≤ f i ∧ f i ≤ b) ∧ n ≤ 12 := by
  unfold wordB; simp [allIn_iff]
/-- A valid plain machine. -/
def validP (s l : Int) (n m : Nat) (f : Nat → Int) : Bool := inB s 1 64 && (inB l 1 4 && (decide ((n : Int) = s * l) && (decide ((m : Int) = s) && allIn f n (s - 1))))
theorem validP_iff {s l : Int} {n m : Nat} {f : Nat → Int} : validP s l n m f = true ↔ 1 ≤ s ∧ s ≤ 64 ∧ 1 ≤ l ∧ l ≤ 4 ∧ (n : Int) = s * l ∧ (m : Int) = s ∧ ∀ i, i < n → 0 ≤ f i ∧ f i ≤ s - 1 := by
  unfold validP
  simp only [Bool.and_eq_true, inB_iff, decide_eq_true_eq, allIn_iff, and_assoc]
theorem validP_1 {s l : Int} {n m : Nat} {f : Nat → Int} (h : inB s 1 64 = false) : validP s l n m f = false := by unfold validP; rw [h]; rfl
theorem validP_2 {s l : Int} {n m : Nat} {f : Nat → Int} (h : inB l 1 4 = false) : validP s l n m f = false := by unfold validP; rw [h]; simp
theorem validP_3 {s l : Int} {n m : Nat} {f : Nat → Int} (h : ¬ (n : Int) = s * l) : validP s l n m f = false := by unfold validP; simp [h]
theorem validP_4 {s l : Int} {n m : Nat} {f : Nat → Int} (h : ¬ (m : Int) = s) : validP s l n m f = false := by unfold validP; simp [h]
theorem validP_5 {s l : Int} {n m k : Nat} {f : Nat → Int} (hk : k < n) (h : inB (f k) 0 (s - 1) = false) : validP s l n m f = false := by unfold validP; rw [allIn_no hk h]; simp
theorem mul_le_256 {s l : Int} (h1 : 1 ≤ s) (h2 : s ≤ 64) (h3 : 1 ≤ l) (h4 : l ≤ 4) : 1 ≤ s * l ∧ s * l ≤ 256 := by
  have : l = 1 ∨ l = 2 ∨ l = 3 ∨ l = 4 := by omega
  rcases this with rfl | rfl | rfl | rfl <;> omega
end Go.Proofs.Ytfpombhhnojjhaa
