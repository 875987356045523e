/- Trees and their lists of numbers. -/
import Derived.Test.YtgbiablibfbilaaIn
set_option linter.unusedVariables false
namespace Go.Proofs.Ytgbiablibfbilaa
open Go.RowKit

inductive Tr where
  | leaf (x : Int) : Tr
  | br (a b : Tr) : Tr
/-- The list of a tree. -/
def Tr.enc : Tr → List Int
  | .leaf x => [x]
  | .br a b => -1 :: (a.enc ++ b.enc)
/-- All leaves are letters. -/
def Tr.ok (l : Int) : Tr → Bool
  | .leaf x => inB x 0 (l - 1)
  | .br a b => a.ok l && b.ok l
def Tr.leaves : Tr → List Int
  | .leaf x => [x]
  | .br a b => a.leaves ++ b.leaves
def Tr.deep : Tr → Nat
  | .leaf _ => 0
  | .br a b => 1 + max a.deep b.deep
def Tr.mirror : Tr → Tr
  | .leaf x => .leaf x
  | .br a b => .br b.mirror a.mirror
theorem Tr.enc_pos (t : Tr) : 0 < t.enc.length := by cases t <;> simp [Tr.enc]
theorem Tr.enc_ne (t : Tr) : t.enc ≠ [] := by cases t <;> simp [Tr.enc]
theorem Tr.leaf_ok {l x : Int} (h : (Tr.leaf x).ok l = true) : 0 ≤ x ∧ x ≤ l - 1 := inB_iff.1 h
theorem Tr.br_ok {l : Int} {a b : Tr} (h : (Tr.br a b).ok l = true) : a.ok l = true ∧ b.ok l = true := by simpa [Tr.ok] using h
/-- A list begins with one tree at most. -/
theorem Tr.enc_inj {l : Int} : ∀ {a a' : Tr} {r r' : List Int}, a.ok l = true → a'.ok l = true → a.enc ++ r = a'.enc ++ r' → a = a' ∧ r = r'
  | .leaf x, .leaf y, r, r', _, _, h => by simp [Tr.enc] at h; exact ⟨by rw [h.1], h.2⟩
  | .leaf x, .br a b, r, r', h1, _, h => by simp [Tr.enc] at h; have := Tr.leaf_ok h1; omega
  | .br a b, .leaf x, r, r', _, h1, h => by simp [Tr.enc] at h; have := Tr.leaf_ok h1; omega
  | .br a b, .br c d, r, r', h1, h2, h => by
    obtain ⟨a1, b1⟩ := Tr.br_ok h1
    obtain ⟨c1, d1⟩ := Tr.br_ok h2
    simp only [Tr.enc, List.cons_append, List.cons.injEq, true_and, List.append_assoc] at h
    obtain ⟨rfl, h3⟩ := Tr.enc_inj a1 c1 h
    obtain ⟨rfl, h4⟩ := Tr.enc_inj b1 d1 h3
    exact ⟨rfl, h4⟩
/-- One number more in front of a list of trees. -/
def stkStep (l x : Int) (st : List Tr) : Option (List Tr) :=
  if inB x 0 (l - 1) = true then some (.leaf x :: st)
  else if x = -1 then (match st with
    | a :: b :: r => some (.br a b :: r)
    | _ => none)
  else none
/-- The trees of a list, read from its end on. -/
def stk (l : Int) : List Int → Option (List Tr)
  | [] => some []
  | x :: xs => (stk l xs).bind (stkStep l x)
theorem stkStep_neg {l : Int} (a b : Tr) (st : List Tr) : stkStep l (-1) (a :: b :: st) = some (.br a b :: st) := by
  unfold stkStep
  rw [if_neg (by simp [inB]), if_pos rfl]
theorem stk_enc {l : Int} : ∀ (t : Tr) (xs : List Int), t.ok l = true → stk l (t.enc ++ xs) = (stk l xs).map (t :: ·)
  | .leaf x, xs, h => by
    have h' : inB x 0 (l - 1) = true := h
    simp only [Tr.enc, List.cons_append, List.nil_append, stk]
    cases stk l xs with
    | none => rfl
    | some st => simp [stkStep, h']
  | .br a b, xs, h => by
    obtain ⟨h1, h2⟩ := Tr.br_ok h
    simp only [Tr.enc, List.cons_append, List.append_assoc, stk]
    rw [stk_enc a _ h1, stk_enc b _ h2]
    cases stk l xs with
    | none => rfl
    | some st => simp [stkStep_neg]
theorem stk_sound {l : Int} : ∀ {xs : List Int} {st : List Tr}, stk l xs = some st → xs = (st.map Tr.enc).flatten ∧ ∀ t ∈ st, t.ok l = true
  | [], st, h => by simp [stk] at h; subst h; simp
  | x :: xs, st, h => by
    simp only [stk] at h
    cases hs : stk l xs with
    | none => rw [hs] at h; cases h
    | some s0 =>
      rw [hs] at h
      obtain ⟨e, ho⟩ := stk_sound hs
      simp only [Option.bind_some, stkStep] at h
      split at h
      · rename_i hx
        cases h
        exact ⟨by simp [Tr.enc, e], fun t ht => by
          rcases List.mem_cons.1 ht with rfl | h1
          · exact hx
          · exact ho t h1⟩
      · split at h
        · rename_i hx
          subst hx
          match s0, h, ho, e with
          | a :: b :: r, h, ho, e =>
            cases h
            exact ⟨by simp [Tr.enc, e], fun t ht => by
              rcases List.mem_cons.1 ht with rfl | h1
              · simp [Tr.ok, ho a (by simp), ho b (by simp)]
              · exact ho t (by simp [h1])⟩
          | [], h, ho, e => cases h
          | [a], h, ho, e => cases h
        · cases h
/-- The tree of a list of at most 23 numbers. -/
def trOf (l : Int) (L : List Int) : Option Tr := if L.length ≤ 23 then (match stk l L with
  | some [t] => some t
  | _ => none) else none
theorem trOf_some {l : Int} {L : List Int} {t : Tr} : trOf l L = some t ↔ L.length ≤ 23 ∧ t.ok l = true ∧ L = t.enc := by
  unfold trOf
  constructor
  · intro h
    split at h
    · rename_i hl
      split at h
      · rename_i t' hs
        cases h
        obtain ⟨e, ho⟩ := stk_sound hs
        exact ⟨hl, ho t (by simp), by simpa using e⟩
      · cases h
    · cases h
  · rintro ⟨hl, ho, rfl⟩
    rw [if_pos hl]
    have := stk_enc t [] ho
    rw [List.append_nil] at this
    rw [this]
    simp [stk]
theorem trOf_none {l : Int} {L : List Int} (h : trOf l L = none) (hl : L.length ≤ 23) (t : Tr) (ho : t.ok l = true) : L ≠ t.enc := fun e => by
  have := trOf_some.2 ⟨hl, ho, e⟩
  rw [h] at this
  cases this
/-- The first n numbers of a row. -/
def rowL (f : Nat → Int) (n : Nat) : List Int := (List.range n).map f
theorem rowL_len (f : Nat → Int) (n : Nat) : (rowL f n).length = n := by simp [rowL]
theorem rowL_drop (f : Nat → Int) {n k : Nat} (h : k < n) : (rowL f n).drop k = f k :: (rowL f n).drop (k + 1) := by
  rw [List.drop_eq_getElem_cons (by rw [rowL_len]; exact h)]
  simp [rowL]
theorem rowL_getD (f : Nat → Int) {n k : Nat} (h : k < n) : (rowL f n).getD k 0 = f k := by simp [rowL, List.getD, h]
end Go.Proofs.Ytgbiablibfbilaa
