/- Least edits: what both programs compute. -/
import Derived.Lib.Hide
set_option linter.unusedVariables false
namespace Go.Proofs.Ytcnamfjojdjjgaa

/-- Of two offers the former one, but the latter one if it costs less. -/
def betterO (a b : Nat × Int) : Nat × Int := if b.2 < a.2 then b else a
/-- The first one of those that cost least. -/
def leastO (o : Nat × Int) (os : List (Nat × Int)) : Nat × Int := os.foldl betterO o

/-- Bytes that stay or change. -/
def pairO (x y : Nat → Nat) (c : Int) (F : Nat → Nat → Int) (i j : Nat) : Nat × Int := if x i = y j then (61, F i j + 0) else (33, F i j + c)
/-- Bytes that change places. -/
def swapB (x y : Nat → Nat) (i j : Nat) : Bool := decide (1 ≤ i) && (decide (1 ≤ j) && (decide (x (i - 1) = y j) && decide (x i = y (j - 1))))
/-- The last edit for i bytes and j bytes, told by the costs of shorter ones. -/
def lastE (x y : Nat → Nat) (p o c s : Int) (F : Nat → Nat → Int) : Nat → Nat → Nat × Int
  | 0, 0 => (0, 0)
  | 0, j + 1 => (43, F 0 j + p)
  | i + 1, 0 => (45, F i 0 + o)
  | i + 1, j + 1 => leastO (pairO x y c F i j) ([(45, F i (j + 1) + o), (43, F (i + 1) j + p)] ++ if swapB x y i j then [(120, F (i - 1) (j - 1) + s)] else [])

/-- The costs, told as far as i + j is less than k. -/
def costN (x y : Nat → Nat) (p o c s : Int) : Nat → Nat → Nat → Int
  | 0, _, _ => 0
  | k + 1, i, j => (lastE x y p o c s (costN x y p o c s k) i j).2
def costE (x y : Nat → Nat) (p o c s : Int) (i j : Nat) : Int := costN x y p o c s (i + j + 1) i j
/-- The last edit. -/
def editE (x y : Nat → Nat) (p o c s : Int) (i j : Nat) : Nat × Int := lastE x y p o c s (costE x y p o c s) i j

theorem lastE_congr {x y : Nat → Nat} {p o c s : Int} {F G : Nat → Nat → Int} {i j : Nat} (h : ∀ a b, a ≤ i → b ≤ j → a + b < i + j → F a b = G a b) : lastE x y p o c s F i j = lastE x y p o c s G i j := by
  cases i with
  | zero =>
    cases j with
    | zero => rfl
    | succ j => simp only [lastE]; rw [h 0 j (by omega) (by omega) (by omega)]
  | succ i =>
    cases j with
    | zero => simp only [lastE]; rw [h i 0 (by omega) (by omega) (by omega)]
    | succ j =>
      simp only [lastE, pairO]
      rw [h i j (by omega) (by omega) (by omega), h i (j + 1) (by omega) (by omega) (by omega), h (i + 1) j (by omega) (by omega) (by omega), h (i - 1) (j - 1) (by omega) (by omega) (by omega)]
theorem costN_enough {x y : Nat → Nat} {p o c s : Int} : ∀ (k i j : Nat), i + j < k → costN x y p o c s k i j = costE x y p o c s i j := by
  have key : ∀ (n k l i j : Nat), i + j ≤ n → i + j < k → i + j < l → costN x y p o c s k i j = costN x y p o c s l i j := by
    intro n
    induction n with
    | zero =>
      intro k l i j h hk hl
      obtain rfl : i = 0 := by omega
      obtain rfl : j = 0 := by omega
      cases k with
      | zero => omega
      | succ k => cases l with
        | zero => omega
        | succ l => rfl
    | succ n ih =>
      intro k l i j h hk hl
      cases k with
      | zero => omega
      | succ k => cases l with
        | zero => omega
        | succ l =>
          simp only [costN]
          rw [lastE_congr (G := costN x y p o c s l) fun a b _ _ hab => ih k l a b (by omega) (by omega) (by omega)]
  intro k i j h
  exact key (i + j) k (i + j + 1) i j (Nat.le_refl _) h (by omega)
theorem editE_cost {x y : Nat → Nat} {p o c s : Int} (i j : Nat) : (editE x y p o c s i j).2 = costE x y p o c s i j := by
  unfold editE
  show _ = costN x y p o c s (i + j + 1) i j
  simp only [costN]
  rw [lastE_congr (G := costN x y p o c s (i + j)) fun a b _ _ hab => (costN_enough (i + j) a b hab).symm]

theorem costE_00 {x y : Nat → Nat} {p o c s : Int} : costE x y p o c s 0 0 = 0 := rfl
theorem costE_0j {x y : Nat → Nat} {p o c s : Int} (j : Nat) : costE x y p o c s 0 (j + 1) = costE x y p o c s 0 j + p := by rw [← editE_cost]; rfl
theorem costE_i0 {x y : Nat → Nat} {p o c s : Int} (i : Nat) : costE x y p o c s (i + 1) 0 = costE x y p o c s i 0 + o := by rw [← editE_cost]; rfl

theorem betterO_le (a b : Nat × Int) : (betterO a b).2 ≤ a.2 ∧ (betterO a b).2 ≤ b.2 ∧ ((betterO a b) = a ∨ (betterO a b) = b) := by
  unfold betterO
  split
  · exact ⟨by omega, by omega, .inr rfl⟩
  · exact ⟨by omega, by omega, .inl rfl⟩
theorem betterO_cost (a b : Nat × Int) : (betterO a b).2 = min a.2 b.2 := by
  unfold betterO
  split <;> omega

/-- The cost of two beginnings that are not empty. -/
theorem costE_ss {x y : Nat → Nat} {p o c s : Int} (i j : Nat) : costE x y p o c s (i + 1) (j + 1) =
    (let a := costE x y p o c s i j + (if x i = y j then 0 else c)
     let b := min (min a (costE x y p o c s i (j + 1) + o)) (costE x y p o c s (i + 1) j + p)
     if swapB x y i j then min b (costE x y p o c s (i - 1) (j - 1) + s) else b) := by
  rw [← editE_cost]
  unfold editE
  simp only [lastE, leastO, pairO]
  by_cases h : x i = y j
  · simp only [h, if_true]
    split <;> simp only [List.cons_append, List.nil_append, List.append_nil, List.foldl_cons, List.foldl_nil, betterO_cost]
  · simp only [h, if_false]
    split <;> simp only [List.cons_append, List.nil_append, List.append_nil, List.foldl_cons, List.foldl_nil, betterO_cost]

/-- No cost is negative, or too great. -/
theorem costE_bd {x y : Nat → Nat} {p o c s : Int} (hp : 0 ≤ p ∧ p ≤ 1000) (ho : 0 ≤ o ∧ o ≤ 1000) (hc : 0 ≤ c) (hs : 0 ≤ s) : ∀ i j : Nat, 0 ≤ costE x y p o c s i j ∧ costE x y p o c s i j ≤ 1000 * ((i : Int) + j) := by
  have key : ∀ (n i j : Nat), i + j ≤ n → 0 ≤ costE x y p o c s i j ∧ costE x y p o c s i j ≤ 1000 * ((i : Int) + j) := by
    intro n
    induction n with
    | zero =>
      intro i j h
      obtain rfl : i = 0 := by omega
      obtain rfl : j = 0 := by omega
      rw [costE_00]
      omega
    | succ n ih =>
      intro i j h
      cases i with
      | zero =>
        cases j with
        | zero => rw [costE_00]; omega
        | succ j =>
          have := ih 0 j (by omega)
          rw [costE_0j]
          omega
      | succ i =>
        cases j with
        | zero =>
          have := ih i 0 (by omega)
          rw [costE_i0]
          omega
        | succ j =>
          have h1 := ih i j (by omega)
          have h2 := ih i (j + 1) (by omega)
          have h3 := ih (i + 1) j (by omega)
          have h4 := ih (i - 1) (j - 1) (by omega)
          rw [costE_ss]
          simp only
          have hk : 0 ≤ (if x i = y j then 0 else c) := by split <;> omega
          generalize (if x i = y j then 0 else c) = k at *
          split <;> omega
  intro i j
  exact key (i + j) i j (Nat.le_refl _)
end Go.Proofs.Ytcnamfjojdjjgaa
