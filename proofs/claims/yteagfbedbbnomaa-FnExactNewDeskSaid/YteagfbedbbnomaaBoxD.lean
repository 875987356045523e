/- A struct of thirteen cells in a block of its own, and its parts. -/
import Derived.Test.YteagfbedbbnomaaCells
import Derived.Test.YteagfbedbbnomaaBoxP
import Derived.Test.YteagfbedbbnomaaBoxN
import Derived.Test.YteagfbedbbnomaaOffB
set_option linter.unusedVariables false
namespace Go.Proofs.Yteagfbedbbnomaa
open Go.RowKit

/-- Block p shows thirteen cells. -/
structure Box13 (w : World) (p : Nat) (v0 v1 v2 v3 v4 v5 v6 v7 v8 v9 v10 v11 v12 : Value) : Prop where
  c0 : w.cell? ⟨p, 0, none⟩ = some v0
  c1 : w.cell? ⟨p, 1, none⟩ = some v1
  c2 : w.cell? ⟨p, 2, none⟩ = some v2
  c3 : w.cell? ⟨p, 3, none⟩ = some v3
  c4 : w.cell? ⟨p, 4, none⟩ = some v4
  c5 : w.cell? ⟨p, 5, none⟩ = some v5
  c6 : w.cell? ⟨p, 6, none⟩ = some v6
  c7 : w.cell? ⟨p, 7, none⟩ = some v7
  c8 : w.cell? ⟨p, 8, none⟩ = some v8
  c9 : w.cell? ⟨p, 9, none⟩ = some v9
  c10 : w.cell? ⟨p, 10, none⟩ = some v10
  c11 : w.cell? ⟨p, 11, none⟩ = some v11
  c12 : w.cell? ⟨p, 12, none⟩ = some v12
section
variable {w w' : World} {p lo hi : Nat} {v0 v1 v2 v3 v4 v5 v6 v7 v8 v9 v10 v11 v12 : Value}
theorem Box13.lt (h : Box13 w p v0 v1 v2 v3 v4 v5 v6 v7 v8 v9 v10 v11 v12) : p < w.heap.size := World.block_lt_of_cell? _ _ h.c0
theorem Box13.below (h : Box13 w p v0 v1 v2 v3 v4 v5 v6 v7 v8 v9 v10 v11 v12) (b : Below w.heap.size w w') : Box13 w' p v0 v1 v2 v3 v4 v5 v6 v7 v8 v9 v10 v11 v12 :=
  ⟨(b.cell (p := ⟨p, 0, none⟩) h.lt).trans h.c0, (b.cell (p := ⟨p, 1, none⟩) h.lt).trans h.c1, (b.cell (p := ⟨p, 2, none⟩) h.lt).trans h.c2, (b.cell (p := ⟨p, 3, none⟩) h.lt).trans h.c3, (b.cell (p := ⟨p, 4, none⟩) h.lt).trans h.c4, (b.cell (p := ⟨p, 5, none⟩) h.lt).trans h.c5, (b.cell (p := ⟨p, 6, none⟩) h.lt).trans h.c6, (b.cell (p := ⟨p, 7, none⟩) h.lt).trans h.c7, (b.cell (p := ⟨p, 8, none⟩) h.lt).trans h.c8, (b.cell (p := ⟨p, 9, none⟩) h.lt).trans h.c9, (b.cell (p := ⟨p, 10, none⟩) h.lt).trans h.c10, (b.cell (p := ⟨p, 11, none⟩) h.lt).trans h.c11, (b.cell (p := ⟨p, 12, none⟩) h.lt).trans h.c12⟩
theorem Box13.within (h : Box13 w p v0 v1 v2 v3 v4 v5 v6 v7 v8 v9 v10 v11 v12) (b : Within lo hi w w') (hd : p < lo ∨ hi ≤ p) : Box13 w' p v0 v1 v2 v3 v4 v5 v6 v7 v8 v9 v10 v11 v12 :=
  ⟨(b.cell (p := ⟨p, 0, none⟩) h.lt hd).trans h.c0, (b.cell (p := ⟨p, 1, none⟩) h.lt hd).trans h.c1, (b.cell (p := ⟨p, 2, none⟩) h.lt hd).trans h.c2, (b.cell (p := ⟨p, 3, none⟩) h.lt hd).trans h.c3, (b.cell (p := ⟨p, 4, none⟩) h.lt hd).trans h.c4, (b.cell (p := ⟨p, 5, none⟩) h.lt hd).trans h.c5, (b.cell (p := ⟨p, 6, none⟩) h.lt hd).trans h.c6, (b.cell (p := ⟨p, 7, none⟩) h.lt hd).trans h.c7, (b.cell (p := ⟨p, 8, none⟩) h.lt hd).trans h.c8, (b.cell (p := ⟨p, 9, none⟩) h.lt hd).trans h.c9, (b.cell (p := ⟨p, 10, none⟩) h.lt hd).trans h.c10, (b.cell (p := ⟨p, 11, none⟩) h.lt hd).trans h.c11, (b.cell (p := ⟨p, 12, none⟩) h.lt hd).trans h.c12⟩
theorem Box13.new (w : World) (t : TypeId) (v0 v1 v2 v3 v4 v5 v6 v7 v8 v9 v10 v11 v12 : Value) : Box13 (w.alloc (.cells #[v0, v1, v2, v3, v4, v5, v6, v7, v8, v9, v10, v11, v12] t)) w.heap.size v0 v1 v2 v3 v4 v5 v6 v7 v8 v9 v10 v11 v12 := ⟨by simp [go_sem], by simp [go_sem], by simp [go_sem], by simp [go_sem], by simp [go_sem], by simp [go_sem], by simp [go_sem], by simp [go_sem], by simp [go_sem], by simp [go_sem], by simp [go_sem], by simp [go_sem], by simp [go_sem]⟩
theorem Box13.alloc (h : Box13 w p v0 v1 v2 v3 v4 v5 v6 v7 v8 v9 v10 v11 v12) (o : Obj) : Box13 (w.alloc o) p v0 v1 v2 v3 v4 v5 v6 v7 v8 v9 v10 v11 v12 := h.below ((Below.refl _ _).alloc (Nat.le_refl _) o)
theorem Box13.a0 (h : Box13 w p v0 v1 v2 v3 v4 v5 v6 v7 v8 v9 v10 v11 v12) (o : Obj) : (w.alloc o).cell? ⟨p, 0, none⟩ = some v0 := (h.alloc o).c0
theorem Box13.a1 (h : Box13 w p v0 v1 v2 v3 v4 v5 v6 v7 v8 v9 v10 v11 v12) (o : Obj) : (w.alloc o).cell? ⟨p, 1, none⟩ = some v1 := (h.alloc o).c1
theorem Box13.a2 (h : Box13 w p v0 v1 v2 v3 v4 v5 v6 v7 v8 v9 v10 v11 v12) (o : Obj) : (w.alloc o).cell? ⟨p, 2, none⟩ = some v2 := (h.alloc o).c2
theorem Box13.a3 (h : Box13 w p v0 v1 v2 v3 v4 v5 v6 v7 v8 v9 v10 v11 v12) (o : Obj) : (w.alloc o).cell? ⟨p, 3, none⟩ = some v3 := (h.alloc o).c3
theorem Box13.a4 (h : Box13 w p v0 v1 v2 v3 v4 v5 v6 v7 v8 v9 v10 v11 v12) (o : Obj) : (w.alloc o).cell? ⟨p, 4, none⟩ = some v4 := (h.alloc o).c4
theorem Box13.a5 (h : Box13 w p v0 v1 v2 v3 v4 v5 v6 v7 v8 v9 v10 v11 v12) (o : Obj) : (w.alloc o).cell? ⟨p, 5, none⟩ = some v5 := (h.alloc o).c5
theorem Box13.a6 (h : Box13 w p v0 v1 v2 v3 v4 v5 v6 v7 v8 v9 v10 v11 v12) (o : Obj) : (w.alloc o).cell? ⟨p, 6, none⟩ = some v6 := (h.alloc o).c6
theorem Box13.a7 (h : Box13 w p v0 v1 v2 v3 v4 v5 v6 v7 v8 v9 v10 v11 v12) (o : Obj) : (w.alloc o).cell? ⟨p, 7, none⟩ = some v7 := (h.alloc o).c7
theorem Box13.a8 (h : Box13 w p v0 v1 v2 v3 v4 v5 v6 v7 v8 v9 v10 v11 v12) (o : Obj) : (w.alloc o).cell? ⟨p, 8, none⟩ = some v8 := (h.alloc o).c8
theorem Box13.a9 (h : Box13 w p v0 v1 v2 v3 v4 v5 v6 v7 v8 v9 v10 v11 v12) (o : Obj) : (w.alloc o).cell? ⟨p, 9, none⟩ = some v9 := (h.alloc o).c9
theorem Box13.a10 (h : Box13 w p v0 v1 v2 v3 v4 v5 v6 v7 v8 v9 v10 v11 v12) (o : Obj) : (w.alloc o).cell? ⟨p, 10, none⟩ = some v10 := (h.alloc o).c10
theorem Box13.a11 (h : Box13 w p v0 v1 v2 v3 v4 v5 v6 v7 v8 v9 v10 v11 v12) (o : Obj) : (w.alloc o).cell? ⟨p, 11, none⟩ = some v11 := (h.alloc o).c11
theorem Box13.a12 (h : Box13 w p v0 v1 v2 v3 v4 v5 v6 v7 v8 v9 v10 v11 v12) (o : Obj) : (w.alloc o).cell? ⟨p, 12, none⟩ = some v12 := (h.alloc o).c12
theorem Box13.drewN (h : Box13 w p v0 v1 v2 v3 v4 v5 v6 v7 v8 v9 v10 v11 v12) (m : Nat) : Box13 (w.drewN m) p v0 v1 v2 v3 v4 v5 v6 v7 v8 v9 v10 v11 v12 := ⟨h.c0, h.c1, h.c2, h.c3, h.c4, h.c5, h.c6, h.c7, h.c8, h.c9, h.c10, h.c11, h.c12⟩
theorem Box13.drew (h : Box13 w p v0 v1 v2 v3 v4 v5 v6 v7 v8 v9 v10 v11 v12) : Box13 w.drew p v0 v1 v2 v3 v4 v5 v6 v7 v8 v9 v10 v11 v12 := ⟨h.c0, h.c1, h.c2, h.c3, h.c4, h.c5, h.c6, h.c7, h.c8, h.c9, h.c10, h.c11, h.c12⟩
theorem Box13.mach (h : Box13 w p v0 v1 v2 v3 v4 v5 v6 v7 v8 v9 v10 v11 v12) : Box5 w p v0 v1 v2 v3 v4 := ⟨h.c0, h.c1, h.c2, h.c3, h.c4⟩
theorem Box13.pln (h : Box13 w p v0 v1 v2 v3 v4 v5 v6 v7 v8 v9 v10 v11 v12) : Off5 w p v5 v6 v7 v8 := ⟨h.c5, h.c6, h.c7, h.c8⟩
theorem Box13.grm (h : Box13 w p v0 v1 v2 v3 v4 v5 v6 v7 v8 v9 v10 v11 v12) : Off9 w p v9 v10 v11 := ⟨h.c9, h.c10, h.c11⟩
end
end Go.Proofs.Yteagfbedbbnomaa
