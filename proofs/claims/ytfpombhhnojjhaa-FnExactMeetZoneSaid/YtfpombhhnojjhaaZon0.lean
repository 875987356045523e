/- Zones: what a valid one is, and what the least bounds are, as functions of numbers. -/
import Derived.Test.YtfpombhhnojjhaaAllP
set_option linter.unusedVariables false
namespace Go.Proofs.Ytfpombhhnojjhaa
open Go.RowKit

/-- A bound. -/
def okB (x : Int) : Bool := inB x (-1000000) 1000000 || decide (x = 1000000000)
/-- The middle and the first row. -/
def zrow (M : Nat) (f : Nat → Int) (j : Nat) : Bool := decide (f (j * M + j) = 0) && decide (f j ≤ 0)
/-- A valid zone with one clock less than M. -/
def okZ (M n : Nat) (f : Nat → Int) : Bool := decide (n = M * M) && (allP okB f n && allP (zrow M f) id M)
def validZ (s : Int) (n : Nat) (f : Nat → Int) : Bool := inB s 1 4 && okZ (s + 1).toNat n f
/-- What the reference asks of a bound. -/
def zok (i k : Nat) (x : Int) : Bool := okB x && ((decide (i ≠ k) || decide (x = 0)) && (decide (i ≠ 0) || decide (x ≤ 0)))

theorem okB_iff {x : Int} : okB x = true ↔ (-1000000 ≤ x ∧ x ≤ 1000000) ∨ x = 1000000000 := by
  unfold okB
  rw [Bool.or_eq_true, inB_iff, decide_eq_true_eq]
theorem zrow_iff {M : Nat} {f : Nat → Int} {j : Nat} : zrow M f j = true ↔ f (j * M + j) = 0 ∧ f j ≤ 0 := by
  unfold zrow
  rw [Bool.and_eq_true, decide_eq_true_eq, decide_eq_true_eq]
theorem okZ_iff {M n : Nat} {f : Nat → Int} : okZ M n f = true ↔ n = M * M ∧ (∀ i, i < n → okB (f i) = true) ∧ ∀ j, j < M → f (j * M + j) = 0 ∧ f j ≤ 0 := by
  unfold okZ
  rw [Bool.and_eq_true, Bool.and_eq_true, decide_eq_true_eq, allP_iff, allP_iff]
  simp only [id, zrow_iff]
theorem zok_iff {i k : Nat} {x : Int} : zok i k x = true ↔ okB x = true ∧ (i = k → x = 0) ∧ (i = 0 → x ≤ 0) := by
  unfold zok
  simp only [Bool.and_eq_true, Bool.or_eq_true, decide_eq_true_eq, ne_eq]
  constructor
  · rintro ⟨a, b, c⟩
    exact ⟨a, fun h => b.resolve_left (fun k => k h), fun h => c.resolve_left (fun k => k h)⟩
  · rintro ⟨a, b, c⟩
    refine ⟨a, ?_, ?_⟩
    · by_cases h : i = k
      · exact .inr (b h)
      · exact .inl h
    · by_cases h : i = 0
      · exact .inr (c h)
      · exact .inl h
theorem at_lt {M i k : Nat} (hi : i < M) (hk : k < M) : i * M + k < M * M := by
  have : (i + 1) * M ≤ M * M := Nat.mul_le_mul_right _ hi
  have e : (i + 1) * M = i * M + M := Nat.succ_mul _ _
  omega
theorem okZ_no {M : Nat} {f : Nat → Int} {i k : Nat} (hi : i < M) (hk : k < M) (h : zok i k (f (i * M + k)) = false) : okZ M (M * M) f = false := by
  cases e : okZ M (M * M) f
  · rfl
  obtain ⟨-, a, b⟩ := okZ_iff.1 e
  have : zok i k (f (i * M + k)) = true := zok_iff.2 ⟨a _ (at_lt hi hk), fun e => by subst e; exact (b i hi).1, fun e => by subst e; simpa using (b k hk).2⟩
  rw [h] at this
  exact absurd this (by simp)
theorem okZ_yes {M : Nat} {f : Nat → Int} (h0 : 0 < M) (h : ∀ i, i < M → ∀ k, k < M → zok i k (f (i * M + k)) = true) : okZ M (M * M) f = true := by
  refine okZ_iff.2 ⟨rfl, fun j hj => ?_, fun j hj => ⟨(zok_iff.1 (h j hj j hj)).2.1 rfl, ?_⟩⟩
  · have e : j / M * M + j % M = j := by rw [Nat.mul_comm]; exact Nat.div_add_mod j M
    have := (zok_iff.1 (h (j / M) (Nat.div_lt_of_lt_mul hj) (j % M) (Nat.mod_lt _ h0))).1
    rwa [e] at this
  · have := (zok_iff.1 (h 0 h0 j hj)).2.2 rfl
    simpa using this
theorem okZ_sq {M n : Nat} {f : Nat → Int} (h : ¬ n = M * M) : okZ M n f = false := by unfold okZ; simp [h]
theorem okZ_all {M n k : Nat} {f : Nat → Int} (h : allP okB f n = false) : okZ M n f = false := by unfold okZ; rw [h]; simp
theorem okZ_row {M n k : Nat} {f : Nat → Int} (hk : k < M) (h : ¬ (f (k * M + k) = 0 ∧ f k ≤ 0)) : okZ M n f = false := by
  cases e : okZ M n f
  · rfl
  exact absurd ((okZ_iff.1 e).2.2 k hk) h
theorem okZ_yes' {M n : Nat} {f : Nat → Int} (hn : n = M * M) (ha : allP okB f n = true) (h : ∀ k, k < M → f (k * M + k) = 0 ∧ f k ≤ 0) : okZ M n f = true :=
  okZ_iff.2 ⟨hn, allP_iff.1 ha, h⟩

/-- The sum of two bounds. -/
def addB (x y : Int) : Int := if x = 1000000000 ∨ y = 1000000000 then 1000000000 else IntKind.i64.wrap (x + y)
/-- The lesser one. -/
def minB (x y : Int) : Int := if y < x then y else x
/-- One step to least bounds. -/
def stepZ (M j i k : Nat) (f : Nat → Int) (p : Nat) : Int := if p = i * M + k then minB (f (i * M + k)) (addB (f (i * M + j)) (f (j * M + k))) else f p
/-- k steps in a row. -/
def rowZ (M j i : Nat) (f : Nat → Int) : Nat → Nat → Int
  | 0 => f
  | k + 1 => stepZ M j i k (rowZ M j i f k)
def midZ (M j : Nat) (f : Nat → Int) : Nat → Nat → Int
  | 0 => f
  | i + 1 => rowZ M j i (midZ M j f i) M
def tightF (M : Nat) (f : Nat → Int) : Nat → Nat → Int
  | 0 => f
  | j + 1 => midZ M j (tightF M f j) M
theorem stepZ_le {M j i k : Nat} {f : Nat → Int} (hi : i < M) (hk : k < M) (h : ∀ p, p < M * M → f p ≤ 1000000000) (p : Nat) (hp : p < M * M) : stepZ M j i k f p ≤ 1000000000 := by
  unfold stepZ minB
  have := h (i * M + k) (at_lt hi hk)
  split
  · split <;> omega
  · exact h p hp
theorem rowZ_le {M j i : Nat} {f : Nat → Int} (hi : i < M) (h : ∀ p, p < M * M → f p ≤ 1000000000) : ∀ k, k ≤ M → ∀ p, p < M * M → rowZ M j i f k p ≤ 1000000000
  | 0, _ => h
  | k + 1, hk => stepZ_le hi hk (rowZ_le hi h k (by omega))
theorem midZ_le {M j : Nat} {f : Nat → Int} (h : ∀ p, p < M * M → f p ≤ 1000000000) : ∀ i, i ≤ M → ∀ p, p < M * M → midZ M j f i p ≤ 1000000000
  | 0, _ => h
  | i + 1, hi => rowZ_le hi (midZ_le h i (by omega)) M (Nat.le_refl _)
theorem tightF_le {M : Nat} {f : Nat → Int} (h : ∀ p, p < M * M → f p ≤ 1000000000) : ∀ j p, p < M * M → tightF M f j p ≤ 1000000000
  | 0 => h
  | j + 1 => midZ_le (tightF_le h j) M (Nat.le_refl _)
/-- Whether the tight zone is one. -/
def tightOk (s : Int) (n : Nat) (f : Nat → Int) : Bool := validZ s n f && validZ s n (tightF (s + 1).toNat f (s + 1).toNat)
/-- Its bounds. -/
def tightG (s : Int) (f : Nat → Int) : Nat → Int := tightF (s + 1).toNat f (s + 1).toNat
theorem rowZ_step {M j i k : Nat} {f : Nat → Int} {v : Int} (h : v = minB (rowZ M j i f k (i * M + k)) (addB (rowZ M j i f k (i * M + j)) (rowZ M j i f k (j * M + k)))) :
    (fun p => if p = i * M + k then Value.int .i64 v else .int .i64 (rowZ M j i f k p)) = fun p => .int .i64 (rowZ M j i f (k + 1) p) := by
  funext p
  subst h
  show _ = Value.int .i64 (stepZ M j i k (rowZ M j i f k) p)
  unfold stepZ
  split <;> rfl
theorem okZ_le {M n : Nat} {f : Nat → Int} (h : okZ M n f = true) : ∀ p, p < M * M → f p ≤ 1000000000 := fun p hp => by
  obtain ⟨e, a, -⟩ := okZ_iff.1 h
  have := okB_iff.1 (a p (by omega))
  omega
end Go.Proofs.Ytfpombhhnojjhaa
