/- Whether a string is a text: both sides. -/
import Derived.Test.YtcnamfjojdjjgaaTexts
set_option linter.unusedVariables false
namespace Go.Proofs.Ytcnamfjojdjjgaa
open Go.RowKit
def vIsText0 (s : ByteArray) : Bool := textB s
theorem specIsText_law (s : ByteArray) (w : World) (h : s.size ≤ 1048576) : Calls Try.prog 13 #[.string s] w fun e w' => e = .returned (.bool (vIsText0 s)) ∧ Below w.heap.size w w' :=
  (specIsText_any s w).mono fun e w' h => ⟨h.1, h.2 ▸ Below.refl _ _⟩
theorem implIsText_law (s : ByteArray) (w : World) (h : s.size ≤ 1048576) : Calls Try.prog 14 #[.string s] w fun e w' => e = .returned (.bool (vIsText0 s)) ∧ Below w.heap.size w w' :=
  (implIsText_any s w).mono fun e w' h => ⟨h.1, h.2 ▸ Below.refl _ _⟩
end Go.Proofs.Ytcnamfjojdjjgaa
