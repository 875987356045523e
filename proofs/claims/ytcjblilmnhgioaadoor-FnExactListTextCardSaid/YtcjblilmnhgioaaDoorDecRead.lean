/- Reading decimal texts: what both programs compute. -/
import Derived.Test.YtcjblilmnhgioaaDoorDec
set_option linter.unusedVariables false
namespace Go.Proofs.YtcjblilmnhgioaaDoor

def isDig (c : UInt8) : Bool := decide (48 ≤ c.toNat) && decide (c.toNat ≤ 57)
/-- One more letter, as the reference takes it: letters that are no digits are passed over. -/
def stepS (n : Int) (c : UInt8) : Int := if isDig c then 10 * n + ((c.toNat : Int) - 48) else n
def numS (l : List UInt8) : Int := l.foldl stepS 0
/-- The number of a text with its sign. -/
def valS (l : List UInt8) : Int := if l.head? = some 45 then -(numS l) else numS l

theorem numS_snoc (l : List UInt8) (c : UInt8) : numS (l ++ [c]) = stepS (numS l) c := by unfold numS; rw [List.foldl_append]; rfl
theorem numS_bd : ∀ (k : Nat) (l : List UInt8), l.length ≤ k → 0 ≤ numS l ∧ numS l < 10 ^ k := by
  intro k
  induction k with
  | zero =>
    intro l hl
    have : l = [] := List.eq_nil_of_length_eq_zero (by omega)
    subst this
    decide
  | succ k ih =>
    intro l hl
    rcases List.eq_nil_or_concat l with rfl | ⟨l', c, rfl⟩
    · refine ⟨by decide, ?_⟩
      show (0 : Int) < 10 ^ (k + 1)
      exact Int.pow_pos (by decide)
    · have h := ih l' (by simp at hl; omega)
      rw [List.concat_eq_append, numS_snoc]
      unfold stepS
      have e : (10 : Int) ^ (k + 1) = 10 ^ k * 10 := Int.pow_succ ..
      split
      · rename_i hd
        unfold isDig at hd
        simp at hd
        omega
      · omega

theorem dec_dig (u : Nat) : (∀ c ∈ Lib.decDigits u, isDig c = true) ∧ numS (Lib.decDigits u) = u := by
  induction u using Nat.strongRecOn with
  | _ u ih =>
    have key : ∀ r, r < 10 → isDig (UInt8.ofNat (48 + r)) = true ∧ (((UInt8.ofNat (48 + r)).toNat : Nat) : Int) = 48 + r := by
      intro r hr
      have h1 : (UInt8.ofNat (48 + r)).toNat = 48 + r := by rw [UInt8.toNat_ofNat']; omega
      refine ⟨?_, by rw [h1]; omega⟩
      unfold isDig
      rw [h1]
      simp
      omega
    rw [Lib.decDigits]
    split
    · rename_i h
      obtain ⟨h1, h2⟩ := key u h
      refine ⟨by simpa using h1, ?_⟩
      unfold numS stepS
      simp only [List.foldl_cons, List.foldl_nil, h1, if_true, h2]
      omega
    · rename_i h
      obtain ⟨h1, h2⟩ := key (u % 10) (by omega)
      obtain ⟨a, b⟩ := ih (u / 10) (by omega)
      refine ⟨fun c hc => ?_, ?_⟩
      · rcases List.mem_append.1 hc with h | h
        · exact a c h
        · rw [List.mem_singleton.1 h]; exact h1
      · rw [numS_snoc, b]
        unfold stepS
        rw [if_pos h1, h2]
        omega

theorem nDigits_le : ∀ (k u : Nat), 1 ≤ k → u < 10 ^ k → Lib.nDigits u ≤ k := by
  intro k
  induction k with
  | zero => intro u h; omega
  | succ k ih =>
    intro u _ hu
    by_cases h : u < 10
    · rw [Lib.nDigits_small h]; omega
    · rw [Lib.nDigits_big h]
      rcases Nat.eq_zero_or_pos k with rfl | hk
      · omega
      · have := ih (u / 10) hk (by rw [Nat.pow_succ] at hu; omega)
        omega

/-- The digits behind the sign. -/
def behind (l : List UInt8) : List UInt8 := if l.head? = some 45 then l.drop 1 else l

/-- A text that tells a number tells what both compute. -/
theorem itoa_reads {n : Int} (h0 : -1000000000000000 ≤ n) (h1 : n ≤ 1000000000000000) :
    valS (Lib.itoa n) = n ∧ 1 ≤ (Lib.itoa n).length ∧ (Lib.itoa n).length ≤ 17 ∧ (behind (Lib.itoa n)).length ≤ 16 ∧ (∀ c ∈ behind (Lib.itoa n), isDig c = true) ∧
      numS (behind (Lib.itoa n)) = (if (Lib.itoa n).head? = some 45 then -n else n) := by
  have hlen : ∀ u : Nat, u ≤ 1000000000000000 → (Lib.decDigits u).length ≤ 16 ∧ 1 ≤ (Lib.decDigits u).length := by
    intro u hu
    rw [Lib.decDigits_length]
    exact ⟨nDigits_le 16 u (by omega) (by omega), Lib.nDigits_pos u⟩
  by_cases hn : n < 0
  · have e : Lib.itoa n = 45 :: Lib.decDigits n.natAbs := by unfold Lib.itoa; rw [if_pos hn]
    obtain ⟨d1, d2⟩ := dec_dig n.natAbs
    obtain ⟨l1, l2⟩ := hlen n.natAbs (by omega)
    rw [e]
    have hh : ((45 : UInt8) :: Lib.decDigits n.natAbs).head? = some 45 := rfl
    have hb : behind (45 :: Lib.decDigits n.natAbs) = Lib.decDigits n.natAbs := rfl
    have hs : numS (45 :: Lib.decDigits n.natAbs) = numS (Lib.decDigits n.natAbs) := rfl
    unfold valS
    rw [hh, hb, hs, d2, if_pos rfl, if_pos rfl]
    refine ⟨by omega, by simp, by simp; omega, l1, d1, by omega⟩
  · have e : Lib.itoa n = Lib.decDigits n.toNat := by unfold Lib.itoa; rw [if_neg hn]
    obtain ⟨d1, d2⟩ := dec_dig n.toNat
    obtain ⟨l1, l2⟩ := hlen n.toNat (by omega)
    rw [e]
    have hh : ¬ (Lib.decDigits n.toNat).head? = some 45 := by
      intro h
      have hm : (45 : UInt8) ∈ Lib.decDigits n.toNat := List.mem_of_mem_head? h
      have := d1 45 hm
      cases this
    unfold valS behind
    rw [if_neg hh, if_neg hh, if_neg hh, d2]
    refine ⟨by omega, l2, by omega, l1, d1, by omega⟩

def inRange (n : Int) : Bool := decide (-1000000000000000 ≤ n) && decide (n ≤ 1000000000000000)
/-- What both answer. -/
def okV (l : List UInt8) : Bool := inRange (valS l) && decide (Lib.itoa (valS l) = l)
def ansV (l : List UInt8) : Int := if okV l then valS l else 0

theorem okV_of {l : List UInt8} {n : Int} (h : inRange n = true) (e : Lib.itoa n = l) : okV l = true ∧ valS l = n := by
  unfold inRange at h
  simp at h
  have hv := (itoa_reads h.1 h.2).1
  rw [e] at hv
  refine ⟨?_, hv⟩
  unfold okV inRange
  rw [hv]
  simp [h.1, h.2, e]
theorem okV_parts {l : List UInt8} (h : okV l = true) : 1 ≤ l.length ∧ l.length ≤ 17 ∧ (behind l).length ≤ 16 ∧ (∀ c ∈ behind l, isDig c = true) ∧ numS (behind l) = (if l.head? = some 45 then -(valS l) else valS l) ∧ inRange (valS l) = true ∧ Lib.itoa (valS l) = l := by
  unfold okV at h
  simp at h
  obtain ⟨h1, h2⟩ := h
  have h1' := h1
  unfold inRange at h1
  simp at h1
  have := (itoa_reads h1.1 h1.2).2
  rw [h2] at this
  exact ⟨this.1, this.2.1, this.2.2.1, this.2.2.2.1, this.2.2.2.2, h1', h2⟩
end Go.Proofs.YtcjblilmnhgioaaDoor
