/- A slice of integers that came in: its cells. -/
import Derived.Test.YteekpdpccobkkaaRowk
import Derived.Test.YteekpdpccobkkaaCells
set_option linter.unusedVariables false
namespace Go.Proofs.Yteekpdpccobkkaa
open Go.RowKit

theorem isRow_len {w : World} {A : Option Addr} {n c : Nat} {zs : List Int} (h : IsRow .i64 w A n c zs) : n ≤ 9223372036854775807 := by
  rcases h with ⟨_, h, _⟩ | ⟨x, _, h1, h2, _⟩
  · omega
  · unfold maxLen at h2; omega
theorem V64c.ofRow {w : World} {A : Option Addr} {n c : Nat} {zs : List Int} (h : IsRow .i64 w A n c zs) : Cells w A n (fun i => .int .i64 ((fun i => zs.getD i 0) i)) := by
  rcases h with ⟨_, h, _⟩ | ⟨x, hx, h1, h2, h3, h4, _⟩
  · subst h; exact Cells.zero
  · exact fun k hk => ⟨x, hx, h4 k (by omega)⟩

end Go.Proofs.Yteekpdpccobkkaa
