/- Counting words: forward counts and backward ones agree. -/
import Derived.Test.YtgkmdbbdfjgggaaAllIn
set_option linter.unusedVariables false
namespace Go.Proofs.Ytgkmdbbdfjgggaa

/-- The sum of the first n. -/
def sumTo (F : Nat → Int) : Nat → Int
  | 0 => 0
  | n + 1 => sumTo F n + F n
theorem sumTo_congr {F G : Nat → Int} {n : Nat} (h : ∀ i, i < n → F i = G i) : sumTo F n = sumTo G n := by
  induction n with
  | zero => rfl
  | succ n ih => unfold sumTo; rw [ih fun i hi => h i (by omega), h n (by omega)]
theorem sumTo_zero (n : Nat) : sumTo (fun _ => 0) n = 0 := by
  induction n with
  | zero => rfl
  | succ n ih => unfold sumTo; rw [ih]; rfl
theorem sumTo_nonneg {F : Nat → Int} {n : Nat} (h : ∀ i, i < n → 0 ≤ F i) : 0 ≤ sumTo F n := by
  induction n with
  | zero => exact Int.le_refl _
  | succ n ih => unfold sumTo; have := ih fun i hi => h i (by omega); have := h n (by omega); omega
theorem sumTo_le {F : Nat → Int} {n : Nat} {c : Int} (h : ∀ i, i < n → F i ≤ c) : sumTo F n ≤ n * c := by
  induction n with
  | zero => unfold sumTo; simp
  | succ n ih =>
    unfold sumTo
    have h1 := ih fun i hi => h i (by omega)
    have h2 := h n (by omega)
    rw [Int.natCast_succ, Int.add_mul, Int.one_mul]
    omega
/-- A term is no greater than the sum, if none is negative. -/
theorem le_sumTo {F : Nat → Int} {n k : Nat} (h : ∀ i, i < n → 0 ≤ F i) (hk : k < n) : F k ≤ sumTo F n := by
  induction n with
  | zero => omega
  | succ n ih =>
    unfold sumTo
    have h2 := h n (by omega)
    rcases Nat.lt_or_ge k n with h3 | h3
    · have := ih (fun i hi => h i (by omega)) h3; omega
    · have : k = n := by omega
      subst this
      have := sumTo_nonneg (F := F) (n := k) fun i hi => h i (by omega)
      omega
/-- One entry grows by x: the weighted sum grows by x times its weight. -/
theorem sumTo_put {V W : Nat → Int} {n t : Nat} {x : Int} (ht : t < n) : sumTo (fun i => (if i = t then V i + x else V i) * W i) n = sumTo (fun i => V i * W i) n + x * W t := by
  induction n with
  | zero => omega
  | succ n ih =>
    unfold sumTo
    rcases Nat.lt_or_ge t n with h | h
    · rw [ih h, if_neg (by omega)]; omega
    · have e : t = n := by omega
      subst e
      rw [if_pos rfl, Int.add_mul, sumTo_congr (G := fun i => V i * W i) fun i hi => by rw [if_neg (by omega)]]
      omega

/-- How many words of q letters are read from state i. -/
def wordsF (l : Nat) (f : Nat → Int) (g : Nat → Bool) : Nat → Nat → Int
  | 0, i => if g i then 1 else 0
  | q + 1, i => sumTo (fun a => wordsF l f g q (f (i * l + a)).toNat) l
theorem wordsF_range (l : Nat) (f : Nat → Int) (g : Nat → Bool) (q i : Nat) : 0 ≤ wordsF l f g q i ∧ wordsF l f g q i ≤ (l ^ q : Nat) := by
  induction q generalizing i with
  | zero => unfold wordsF; split <;> simp
  | succ q ih =>
    unfold wordsF
    refine ⟨sumTo_nonneg fun a _ => (ih _).1, ?_⟩
    have h := sumTo_le (F := fun a => wordsF l f g q (f (i * l + a)).toNat) (n := l) (c := ((l ^ q : Nat) : Int)) fun a _ => (ih _).2
    have e : ((l ^ (q + 1) : Nat) : Int) = l * ((l ^ q : Nat) : Int) := by rw [Nat.pow_succ, Nat.mul_comm]; exact Int.natCast_mul _ _
    rw [e]
    exact h
end Go.Proofs.Ytgkmdbbdfjgggaa
