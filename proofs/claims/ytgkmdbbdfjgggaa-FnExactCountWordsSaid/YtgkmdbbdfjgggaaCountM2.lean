/- Counting words forward: what is pushed along letters, and that both ways count the same. -/
import Derived.Test.YtgkmdbbdfjgggaaCountMath
set_option linter.unusedVariables false
namespace Go.Proofs.Ytgkmdbbdfjgggaa

/-- The counts behind a letter, after t entries of Next. -/
def pushF (f : Nat → Int) (l : Nat) (V : Nat → Int) : Nat → Nat → Int
  | 0, _ => 0
  | t + 1, j => if j = (f t).toNat then pushF f l V t j + V (t / l) else pushF f l V t j
/-- The counts behind n letters. -/
def fwdF (s l : Nat) (f : Nat → Int) : Nat → Nat → Int
  | 0, j => if j = 0 then 1 else 0
  | n + 1, j => pushF f l (fwdF s l f n) (s * l) j

theorem sumTo_add (F : Nat → Int) (n k : Nat) : sumTo F (n + k) = sumTo F n + sumTo (fun a => F (n + a)) k := by
  induction k with
  | zero => simp [sumTo]
  | succ k ih =>
    show sumTo F (n + k) + F (n + k) = sumTo F n + (sumTo (fun a => F (n + a)) k + F (n + k))
    rw [ih]; omega
theorem sumTo_mul (c : Int) (F : Nat → Int) (n : Nat) : sumTo (fun a => c * F a) n = c * sumTo F n := by
  induction n with
  | zero => simp [sumTo]
  | succ n ih =>
    show sumTo (fun a => c * F a) n + c * F n = c * (sumTo F n + F n)
    rw [ih, Int.mul_add]
theorem sumTo_mono {F : Nat → Int} {k n : Nat} (h : ∀ i, i < n → 0 ≤ F i) (hk : k ≤ n) : sumTo F k ≤ sumTo F n := by
  obtain ⟨d, rfl⟩ := Nat.exists_eq_add_of_le hk
  rw [sumTo_add]
  have := sumTo_nonneg (F := fun a => F (k + a)) (n := d) fun i hi => h _ (by omega)
  omega
theorem push_sum {f : Nat → Int} {s l : Nat} {V : Nat → Int} (W : Nat → Int) {t : Nat} (hf : ∀ i, i < t → (f i).toNat < s) :
    sumTo (fun i => pushF f l V t i * W i) s = sumTo (fun i => V (i / l) * W (f i).toNat) t := by
  induction t with
  | zero => rw [sumTo_congr (G := fun _ => 0) fun i _ => by simp [pushF], sumTo_zero]; rfl
  | succ t ih =>
    rw [sumTo_congr (G := fun i => (if i = (f t).toNat then pushF f l V t i + V (t / l) else pushF f l V t i) * W i) fun i _ => by simp only [pushF]]
    rw [sumTo_put (hf t (by omega)), ih fun i hi => hf i (by omega)]
    rfl
theorem rows_sum (V G : Nat → Int) (s l : Nat) : sumTo (fun t => V (t / l) * G t) (s * l) = sumTo (fun i => V i * sumTo (fun a => G (i * l + a)) l) s := by
  induction s with
  | zero => rw [Nat.zero_mul]; rfl
  | succ s ih =>
    rw [Nat.succ_mul, sumTo_add, ih]
    have e : sumTo (fun a => V ((s * l + a) / l) * G (s * l + a)) l = sumTo (fun a => V s * G (s * l + a)) l := sumTo_congr fun a ha => by
      rw [Nat.add_comm, Nat.add_mul_div_right _ _ (by omega), Nat.div_eq_of_lt ha, Nat.zero_add]
    rw [e, sumTo_mul]
    rfl
theorem fwd_words {f : Nat → Int} {s l : Nat} (g : Nat → Bool) (hs : 0 < s) (hf : ∀ i, i < s * l → (f i).toNat < s) : ∀ n q, sumTo (fun i => fwdF s l f n i * wordsF l f g q i) s = wordsF l f g (n + q) 0 := by
  intro n
  induction n with
  | zero =>
    intro q
    rw [sumTo_congr (G := fun i => (if i = 0 then (fun _ => (0 : Int)) i + 1 else (fun _ => (0 : Int)) i) * wordsF l f g q i) fun i _ => by simp [fwdF]]
    rw [sumTo_put hs, sumTo_congr (G := fun _ => 0) fun i _ => by simp, sumTo_zero, Nat.zero_add]
    omega
  | succ n ih =>
    intro q
    rw [sumTo_congr (G := fun i => pushF f l (fwdF s l f n) (s * l) i * wordsF l f g q i) fun i _ => by simp only [fwdF]]
    rw [push_sum _ hf, rows_sum (fwdF s l f n) (fun t => wordsF l f g q (f t).toNat)]
    have e := ih (q + 1)
    rw [show n + 1 + q = n + (q + 1) by omega, ← e]
    exact sumTo_congr fun i _ => rfl
theorem fwd_nonneg {f : Nat → Int} {s l : Nat} : ∀ n j, 0 ≤ fwdF s l f n j := by
  intro n
  induction n with
  | zero => intro j; unfold fwdF; split <;> omega
  | succ n ih =>
    intro j
    unfold fwdF
    generalize s * l = t
    induction t with
    | zero => unfold pushF; omega
    | succ t iht =>
      unfold pushF
      have := ih (t / l)
      split <;> omega
theorem push_nonneg {f : Nat → Int} {l : Nat} {V : Nat → Int} (h : ∀ j, 0 ≤ V j) (t j : Nat) : 0 ≤ pushF f l V t j := by
  induction t with
  | zero => unfold pushF; omega
  | succ t ih =>
    unfold pushF
    have := h (t / l)
    split <;> omega
theorem fwd_total {f : Nat → Int} {s l : Nat} (hs : 0 < s) (hf : ∀ i, i < s * l → (f i).toNat < s) : ∀ n, sumTo (fwdF s l f n) s = ((l ^ n : Nat) : Int) := by
  intro n
  induction n with
  | zero =>
    rw [sumTo_congr (G := fun i => (if i = 0 then (fun _ => (0 : Int)) i + 1 else (fun _ => (0 : Int)) i) * (fun _ => (1 : Int)) i) fun i _ => by simp [fwdF]]
    rw [sumTo_put hs, sumTo_congr (G := fun _ => 0) fun i _ => by simp, sumTo_zero]
    simp
  | succ n ih =>
    rw [sumTo_congr (G := fun i => pushF f l (fwdF s l f n) (s * l) i * (fun _ => (1 : Int)) i) fun i _ => by simp [fwdF]]
    rw [push_sum _ hf, rows_sum (fwdF s l f n) (fun _ => 1)]
    have e : ∀ i, sumTo (fun _ => (1 : Int)) i = (i : Int) := by
      intro i; induction i with
      | zero => rfl
      | succ i ih => unfold sumTo; rw [ih]; omega
    rw [e, sumTo_congr (G := fun i => (l : Int) * fwdF s l f n i) fun i _ => Int.mul_comm _ _, sumTo_mul, ih, Nat.pow_succ, Nat.mul_comm, Int.natCast_mul]
theorem fwd_le {f : Nat → Int} {s l : Nat} (hs : 0 < s) (hf : ∀ i, i < s * l → (f i).toNat < s) (n : Nat) {j : Nat} (hj : j < s) : fwdF s l f n j ≤ ((l ^ n : Nat) : Int) := by
  rw [← fwd_total hs hf n]
  exact le_sumTo (fun i _ => fwd_nonneg n i) hj
theorem push_le {f : Nat → Int} {s l : Nat} (hs : 0 < s) (hf : ∀ i, i < s * l → (f i).toNat < s) (n : Nat) {t j : Nat} (ht : t ≤ s * l) (hj : j < s) : pushF f l (fwdF s l f n) t j ≤ ((l ^ (n + 1) : Nat) : Int) := by
  have h1 : pushF f l (fwdF s l f n) t j ≤ sumTo (pushF f l (fwdF s l f n) t) s := le_sumTo (fun i _ => push_nonneg (fwd_nonneg n) t i) hj
  have h2 := push_sum (f := f) (s := s) (l := l) (V := fwdF s l f n) (fun _ => 1) (t := t) fun i hi => hf i (by omega)
  have h3 := push_sum (f := f) (s := s) (l := l) (V := fwdF s l f n) (fun _ => 1) (t := s * l) hf
  have h4 := fwd_total hs hf (n + 1)
  have e1 : ∀ t, sumTo (fun i => pushF f l (fwdF s l f n) t i * 1) s = sumTo (pushF f l (fwdF s l f n) t) s := fun t => sumTo_congr fun i _ => by omega
  rw [e1] at h2 h3
  have h5 : sumTo (fun i => fwdF s l f n (i / l) * 1) t ≤ sumTo (fun i => fwdF s l f n (i / l) * 1) (s * l) := sumTo_mono (fun i _ => by have := fwd_nonneg (f := f) (s := s) (l := l) n (i / l); omega) ht
  have h6 : sumTo (fwdF s l f (n + 1)) s = sumTo (pushF f l (fwdF s l f n) (s * l)) s := sumTo_congr fun i _ => by simp only [fwdF]
  rw [← h4, h6, h3]
  rw [h2] at h1
  omega
/-- The counts at the ends, so far. -/
def endsF (g : Nat → Bool) (V : Nat → Int) (k : Nat) : Int := sumTo (fun i => if g i then V i else 0) k
theorem ends_words {f : Nat → Int} {s l : Nat} (g : Nat → Bool) (hs : 0 < s) (hf : ∀ i, i < s * l → (f i).toNat < s) (n : Nat) : endsF g (fwdF s l f n) s = wordsF l f g n 0 := by
  have h := fwd_words g hs hf n 0
  rw [Nat.add_zero] at h
  rw [← h]
  unfold endsF
  exact sumTo_congr fun i _ => by unfold wordsF; split <;> omega
theorem ends_range {f : Nat → Int} {s l : Nat} (g : Nat → Bool) (hs : 0 < s) (hf : ∀ i, i < s * l → (f i).toNat < s) (n : Nat) {k : Nat} (hk : k ≤ s) : 0 ≤ endsF g (fwdF s l f n) k ∧ endsF g (fwdF s l f n) k ≤ ((l ^ n : Nat) : Int) := by
  have nn : ∀ i, 0 ≤ (if g i then fwdF s l f n i else 0) := fun i => by have := fwd_nonneg (f := f) (s := s) (l := l) n i; split <;> omega
  refine ⟨sumTo_nonneg fun i _ => nn i, ?_⟩
  have h1 : endsF g (fwdF s l f n) k ≤ endsF g (fwdF s l f n) s := sumTo_mono (fun i _ => nn i) hk
  rw [ends_words g hs hf n] at h1
  have := (wordsF_range l f g n 0).2
  omega
theorem pow_le_4 {l n : Nat} (h : l ≤ 4) (hn : n ≤ 13) : ((l ^ n : Nat) : Int) ≤ 67108864 := by
  have h1 : l ^ n ≤ 4 ^ n := Nat.pow_le_pow_left h n
  have h2 : 4 ^ n ≤ 4 ^ 13 := Nat.pow_le_pow_right (by omega) hn
  have h3 : (4 : Nat) ^ 13 = 67108864 := by decide
  omega
end Go.Proofs.Ytgkmdbbdfjgggaa
