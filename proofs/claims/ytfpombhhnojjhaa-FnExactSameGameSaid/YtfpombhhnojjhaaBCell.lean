/- Cells behind a call. -/
import Derived.Test.YtfpombhhnojjhaaCells
set_option linter.unusedVariables false
namespace Go.Proofs.Ytfpombhhnojjhaa
open Go.RowKit
theorem bcell {W w1 : World} (hb : Below W.heap.size W w1) : (∀ b o, b < W.heap.size → w1.cell? ⟨b, o, none⟩ = W.cell? ⟨b, o, none⟩) ∧ (∀ b o, b < W.heap.size → w1.frozen? ⟨b, o, none⟩ = W.frozen? ⟨b, o, none⟩) :=
  ⟨fun b o h => hb.cell (p := ⟨b, o, none⟩) h, fun b o h => hb.frozen (p := ⟨b, o, none⟩) h⟩
theorem bcellK {W w1 : World} (hb : Below W.heap.size W w1) (K : Nat) (hK : K < W.heap.size) : (∀ b o, b ≤ K → w1.cell? ⟨b, o, none⟩ = W.cell? ⟨b, o, none⟩) ∧ (∀ b o, b ≤ K → w1.frozen? ⟨b, o, none⟩ = W.frozen? ⟨b, o, none⟩) :=
  ⟨fun b o h => hb.cell (p := ⟨b, o, none⟩) (Nat.lt_of_le_of_lt h hK), fun b o h => hb.frozen (p := ⟨b, o, none⟩) (Nat.lt_of_le_of_lt h hK)⟩
end Go.Proofs.Ytfpombhhnojjhaa
