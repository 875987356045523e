/- Partners of calls and returns: the numbers, and both tests. -/
import Derived.Test.YtfpombhhnojjhaaAreA
import Derived.Test.YtfpombhhnojjhaaWordC
import Derived.Test.YtfpombhhnojjhaaIRes
import Derived.Test.YtfpombhhnojjhaaStep
import Derived.Test.YtfpombhhnojjhaaClone
set_option linter.unusedVariables false
set_option linter.unusedSimpArgs false
namespace Go.Proofs.Ytfpombhhnojjhaa
open Go.RowKit
/-- One letter more: the partners so far and the calls that are open. -/
def pstep (c : Int) (t : Nat) (s : List Int × List Nat) : List Int × List Nat :=
  if c = 1 then (s.1 ++ [-1], s.2 ++ [t])
  else if c = 2 then (match s.2.getLast? with
    | some x => (((s.1 ++ [-1]).set t (x : Int)).set x (t : Int), s.2.dropLast)
    | none => (s.1 ++ [-1], s.2))
  else (s.1 ++ [-1], s.2)
def pst (f g : Nat → Int) : Nat → List Int × List Nat
  | 0 => ([], [])
  | t + 1 => pstep (g (f t).toNat) t (pst f g t)
theorem pstep_len (c : Int) (t : Nat) (s : List Int × List Nat) (h : s.1.length = t) : (pstep c t s).1.length = t + 1 := by
  unfold pstep
  split
  · simp [h]
  · split
    · split <;> simp [h]
    · simp [h]
theorem pstep_lt (c : Int) (t : Nat) (s : List Int × List Nat) (h : ∀ x ∈ s.2, x < t) : ∀ x ∈ (pstep c t s).2, x < t + 1 := by
  unfold pstep
  split
  · intro x hx
    rcases List.mem_append.1 hx with hx | hx
    · have := h x hx
      omega
    · simp at hx
      omega
  · split
    · split
      · intro x hx
        have := h x (List.dropLast_subset _ hx)
        omega
      · intro x hx
        have := h x hx
        omega
    · intro x hx
      have := h x hx
      omega
theorem pst_ok (f g : Nat → Int) : ∀ t, (pst f g t).1.length = t ∧ (∀ x ∈ (pst f g t).2, x < t) ∧ (pst f g t).2.length ≤ t
  | 0 => ⟨rfl, (fun x hx => by simp [pst] at hx), Nat.le_refl _⟩
  | t + 1 => by
    obtain ⟨h1, h2, h3⟩ := pst_ok f g t
    refine ⟨pstep_len _ _ _ h1, pstep_lt _ _ _ h2, ?_⟩
    show (pstep _ t (pst f g t)).2.length ≤ t + 1
    unfold pstep
    split
    · simp; omega
    · split
      · split
        · simp; omega
        · show (pst f g t).2.length ≤ t + 1
          omega
      · show (pst f g t).2.length ≤ t + 1
        omega
/-- Kinds, and a word of their letters. -/
def kindB (z : Int) : Bool := inB z 0 2
def partOk (n : Nat) (f : Nat → Int) (m : Nat) (g : Nat → Int) : Bool := allP kindB g m && (inB m 1 4 && wordB f n ((m : Int) - 1))
def partN (n : Nat) (f : Nat → Int) (m : Nat) (g : Nat → Int) : Nat := ifN (partOk n f m g) n
def partF (n : Nat) (f g : Nat → Int) (i : Nat) : Int := (pst f g n).1.getD i 0
theorem partOk_facts {n : Nat} {f : Nat → Int} {m : Nat} {g : Nat → Int} (h : partOk n f m g = true) : 1 ≤ m ∧ m ≤ 4 ∧ n ≤ 12 ∧ ∀ i, i < n → 0 ≤ f i ∧ (f i).toNat < m := by
  unfold partOk at h
  rw [Bool.and_eq_true, Bool.and_eq_true] at h
  obtain ⟨-, h2, h3⟩ := h
  have h4 := inB_iff.1 h2
  have h5 := wordB_iff.1 h3
  refine ⟨by omega, by omega, h5.2, fun i hi => ?_⟩
  have := h5.1 i hi
  omega
/-- Open calls as values. -/
def valsN (L : List Nat) : List Value := L.map fun (x : Nat) => Value.int .i64 (x : Int)
theorem valsN_add (L : List Nat) (x : Nat) : valsN L ++ listV (1 * 1) (fun _ => .int .i64 (x : Int)) = valsN (L ++ [x]) := by unfold valsN listV; simp
theorem valsI_set (L : List Int) (i : Nat) (x : Int) : (valsI L).set i (.int .i64 x) = valsI (L.set i x) := by unfold valsI; simp
theorem own_form {w : World} {base : Nat} {e : TypeId} {v : Value} {n : Nat} {xs : List Value} (h : w.ownsRow base e 1 v (n + 1) xs) : ∃ g c, v = .slice (some ⟨g, 0, none⟩) (n + 1) c ∧ base ≤ g ∧ g < w.heap.size := by
  rcases h.2 with ⟨-, h0⟩ | ⟨g, cap, cur, hv, hb, hh, -⟩
  · exact absurd h0 (by omega)
  · exact ⟨g, cap, hv, hb, (Array.getElem?_eq_some_iff.1 hh).1⟩
end Go.Proofs.Ytfpombhhnojjhaa
