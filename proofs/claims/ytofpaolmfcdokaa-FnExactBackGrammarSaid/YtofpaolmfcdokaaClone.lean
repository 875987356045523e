/- The library's copies of rows: slices.Clone. -/
import Derived.Test.YtofpaolmfcdokaaAppend
import Derived.Test.YtofpaolmfcdokaaOwn
import Derived.Lib.LazyBuf
set_option linter.unusedVariables false
namespace Go.Proofs.Ytofpaolmfcdokaa
open Go.RowKit

/-- A row that the call owns, whatever its value looks like. -/
theorem OwnC.of_rowV {w : World} {base : Nat} {e : TypeId} {v : Value} {n size : Nat} {xs : List Value} (h : w.ownsRow base e size v n xs) :
    ∃ (A : Option Addr) (c g : Nat), v = .slice A n c ∧ base ≤ g ∧ OwnC w g A (n * size) (fun i => xs.getD i undef) := by
  have hl : xs.length = n * size := h.1
  rcases h.2 with ⟨hv, h0⟩ | ⟨g, cap, cur, hv, hb, hh, h1, h2, h3, h4⟩
  · subst h0 hv
    exact ⟨none, 0, base, rfl, Nat.le_refl _, by rw [Nat.zero_mul]; exact OwnC.zero⟩
  · subst hv
    refine ⟨_, cap, g, rfl, hb, fun k hk => ⟨_, rfl, rfl, ?_, ?_⟩⟩
    · rw [add0]; exact h.frozenAt k
    · rw [add0, h.cellAt k hk, List.getElem?_eq_getElem (by omega)]
      simp [List.getD, List.getElem?_eq_getElem (show k < xs.length by omega)]

/-- A call's result is a row of its own. -/
def RowRes (w w' : World) (e : Ending) (n sz : Nat) (V : Nat → Value) : Prop :=
  ∃ (A : Option Addr) (d g : Nat), e = .returned (.slice A n d) ∧ w.heap.size ≤ g ∧ OwnC w' g A (n * sz) V ∧ Below w.heap.size w w'

end Go.Proofs.Ytofpaolmfcdokaa
