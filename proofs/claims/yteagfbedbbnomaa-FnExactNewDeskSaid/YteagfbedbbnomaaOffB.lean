/- Structs inside structs: their cells. -/
import Derived.Test.YteagfbedbbnomaaCells
import Derived.Test.YteagfbedbbnomaaBoxP
set_option linter.unusedVariables false
namespace Go.Proofs.Yteagfbedbbnomaa
open Go.RowKit
/-- Cells 5 to 8 of block p. -/
structure Off5 (w : World) (p : Nat) (v0 v1 v2 v3 : Value) : Prop where
  c0 : w.cell? ⟨p, 5, none⟩ = some v0
  c1 : w.cell? ⟨p, 6, none⟩ = some v1
  c2 : w.cell? ⟨p, 7, none⟩ = some v2
  c3 : w.cell? ⟨p, 8, none⟩ = some v3
section
variable {w w' : World} {p lo hi : Nat} {v0 v1 v2 v3 : Value}
theorem Off5.lt (h : Off5 w p v0 v1 v2 v3) : p < w.heap.size := World.block_lt_of_cell? _ _ h.c0
theorem Off5.below (h : Off5 w p v0 v1 v2 v3) (b : Below w.heap.size w w') : Off5 w' p v0 v1 v2 v3 :=
  ⟨(b.cell (p := ⟨p, 5, none⟩) h.lt).trans h.c0, (b.cell (p := ⟨p, 6, none⟩) h.lt).trans h.c1, (b.cell (p := ⟨p, 7, none⟩) h.lt).trans h.c2, (b.cell (p := ⟨p, 8, none⟩) h.lt).trans h.c3⟩
theorem Off5.alloc (h : Off5 w p v0 v1 v2 v3) (o : Obj) : Off5 (w.alloc o) p v0 v1 v2 v3 := h.below ((Below.refl _ _).alloc (Nat.le_refl _) o)
theorem Off5.a0 (h : Off5 w p v0 v1 v2 v3) (o : Obj) : (w.alloc o).cell? ⟨p, 5, none⟩ = some v0 := (h.alloc o).c0
theorem Off5.a1 (h : Off5 w p v0 v1 v2 v3) (o : Obj) : (w.alloc o).cell? ⟨p, 6, none⟩ = some v1 := (h.alloc o).c1
theorem Off5.a2 (h : Off5 w p v0 v1 v2 v3) (o : Obj) : (w.alloc o).cell? ⟨p, 7, none⟩ = some v2 := (h.alloc o).c2
theorem Off5.a3 (h : Off5 w p v0 v1 v2 v3) (o : Obj) : (w.alloc o).cell? ⟨p, 8, none⟩ = some v3 := (h.alloc o).c3
theorem Off5.drewN (h : Off5 w p v0 v1 v2 v3) (m : Nat) : Off5 (w.drewN m) p v0 v1 v2 v3 := ⟨h.c0, h.c1, h.c2, h.c3⟩
end
/-- Cells 9 to 11 of block p. -/
structure Off9 (w : World) (p : Nat) (v0 v1 v2 : Value) : Prop where
  c0 : w.cell? ⟨p, 9, none⟩ = some v0
  c1 : w.cell? ⟨p, 10, none⟩ = some v1
  c2 : w.cell? ⟨p, 11, none⟩ = some v2
section
variable {w w' : World} {p lo hi : Nat} {v0 v1 v2 : Value}
theorem Off9.lt (h : Off9 w p v0 v1 v2) : p < w.heap.size := World.block_lt_of_cell? _ _ h.c0
theorem Off9.below (h : Off9 w p v0 v1 v2) (b : Below w.heap.size w w') : Off9 w' p v0 v1 v2 :=
  ⟨(b.cell (p := ⟨p, 9, none⟩) h.lt).trans h.c0, (b.cell (p := ⟨p, 10, none⟩) h.lt).trans h.c1, (b.cell (p := ⟨p, 11, none⟩) h.lt).trans h.c2⟩
theorem Off9.alloc (h : Off9 w p v0 v1 v2) (o : Obj) : Off9 (w.alloc o) p v0 v1 v2 := h.below ((Below.refl _ _).alloc (Nat.le_refl _) o)
theorem Off9.a0 (h : Off9 w p v0 v1 v2) (o : Obj) : (w.alloc o).cell? ⟨p, 9, none⟩ = some v0 := (h.alloc o).c0
theorem Off9.a1 (h : Off9 w p v0 v1 v2) (o : Obj) : (w.alloc o).cell? ⟨p, 10, none⟩ = some v1 := (h.alloc o).c1
theorem Off9.a2 (h : Off9 w p v0 v1 v2) (o : Obj) : (w.alloc o).cell? ⟨p, 11, none⟩ = some v2 := (h.alloc o).c2
theorem Off9.drewN (h : Off9 w p v0 v1 v2) (m : Nat) : Off9 (w.drewN m) p v0 v1 v2 := ⟨h.c0, h.c1, h.c2⟩
end
end Go.Proofs.Yteagfbedbbnomaa
