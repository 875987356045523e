/- Plain machines inside a machine with a name: their cells. -/
import Derived.Test.YtfpombhhnojjhaaCells
import Derived.Test.YtfpombhhnojjhaaBoxP
set_option linter.unusedVariables false
namespace Go.Proofs.Ytfpombhhnojjhaa
open Go.RowKit
/-- Cells 1 to 4 of block p. -/
structure Off1 (w : World) (p : Nat) (v0 v1 v2 v3 : Value) : Prop where
  c0 : w.cell? ⟨p, 1, none⟩ = some v0
  c1 : w.cell? ⟨p, 2, none⟩ = some v1
  c2 : w.cell? ⟨p, 3, none⟩ = some v2
  c3 : w.cell? ⟨p, 4, none⟩ = some v3
section
variable {w w' : World} {p lo hi : Nat} {v0 v1 v2 v3 : Value}
theorem Off1.lt (h : Off1 w p v0 v1 v2 v3) : p < w.heap.size := World.block_lt_of_cell? _ _ h.c0
theorem Off1.below (h : Off1 w p v0 v1 v2 v3) (b : Below w.heap.size w w') : Off1 w' p v0 v1 v2 v3 :=
  ⟨(b.cell (p := ⟨p, 1, none⟩) h.lt).trans h.c0, (b.cell (p := ⟨p, 2, none⟩) h.lt).trans h.c1, (b.cell (p := ⟨p, 3, none⟩) h.lt).trans h.c2, (b.cell (p := ⟨p, 4, none⟩) h.lt).trans h.c3⟩
theorem Off1.alloc (h : Off1 w p v0 v1 v2 v3) (o : Obj) : Off1 (w.alloc o) p v0 v1 v2 v3 := h.below ((Below.refl _ _).alloc (Nat.le_refl _) o)
theorem Off1.a0 (h : Off1 w p v0 v1 v2 v3) (o : Obj) : (w.alloc o).cell? ⟨p, 1, none⟩ = some v0 := (h.alloc o).c0
theorem Off1.a1 (h : Off1 w p v0 v1 v2 v3) (o : Obj) : (w.alloc o).cell? ⟨p, 2, none⟩ = some v1 := (h.alloc o).c1
theorem Off1.a2 (h : Off1 w p v0 v1 v2 v3) (o : Obj) : (w.alloc o).cell? ⟨p, 3, none⟩ = some v2 := (h.alloc o).c2
theorem Off1.a3 (h : Off1 w p v0 v1 v2 v3) (o : Obj) : (w.alloc o).cell? ⟨p, 4, none⟩ = some v3 := (h.alloc o).c3
theorem Off1.drewN (h : Off1 w p v0 v1 v2 v3) (m : Nat) : Off1 (w.drewN m) p v0 v1 v2 v3 := ⟨h.c0, h.c1, h.c2, h.c3⟩
end
theorem Box5.pl {w : World} {p : Nat} {v0 v1 v2 v3 v4 : Value} (h : Box5 w p v0 v1 v2 v3 v4) : Off1 w p v1 v2 v3 v4 := ⟨h.c1, h.c2, h.c3, h.c4⟩
end Go.Proofs.Ytfpombhhnojjhaa
