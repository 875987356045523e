/- Structs of two and of three cells in a block of their own. -/
import Derived.Test.YtfpombhhnojjhaaBoxP
set_option linter.unusedVariables false
namespace Go.Proofs.Ytfpombhhnojjhaa
open Go.RowKit
/-- Block p shows 2 cells. -/
structure Box2 (w : World) (p : Nat) (v0 v1 : Value) : Prop where
  c0 : w.cell? ⟨p, 0, none⟩ = some v0
  c1 : w.cell? ⟨p, 1, none⟩ = some v1
/-- Block p shows 3 cells. -/
structure Box3 (w : World) (p : Nat) (v0 v1 v2 : Value) : Prop where
  c0 : w.cell? ⟨p, 0, none⟩ = some v0
  c1 : w.cell? ⟨p, 1, none⟩ = some v1
  c2 : w.cell? ⟨p, 2, none⟩ = some v2
section
variable {w w' : World} {p lo hi : Nat} {v0 v1 v2 : Value}
theorem Box2.lt (h : Box2 w p v0 v1) : p < w.heap.size := World.block_lt_of_cell? _ _ h.c0
theorem Box2.below (h : Box2 w p v0 v1) (b : Below w.heap.size w w') : Box2 w' p v0 v1 :=
  ⟨(b.cell (p := ⟨p, 0, none⟩) h.lt).trans h.c0, (b.cell (p := ⟨p, 1, none⟩) h.lt).trans h.c1⟩
theorem Box2.within (h : Box2 w p v0 v1) (b : Within lo hi w w') (hd : p < lo ∨ hi ≤ p) : Box2 w' p v0 v1 :=
  ⟨(b.cell (p := ⟨p, 0, none⟩) h.lt hd).trans h.c0, (b.cell (p := ⟨p, 1, none⟩) h.lt hd).trans h.c1⟩
theorem Box2.new (w : World) (t : TypeId) (v0 v1 : Value) : Box2 (w.alloc (.cells #[v0, v1] t)) w.heap.size v0 v1 := ⟨by simp [go_sem], by simp [go_sem]⟩
theorem Box2.alloc (h : Box2 w p v0 v1) (o : Obj) : Box2 (w.alloc o) p v0 v1 := h.below ((Below.refl _ _).alloc (Nat.le_refl _) o)
theorem Box2.a0 (h : Box2 w p v0 v1) (o : Obj) : (w.alloc o).cell? ⟨p, 0, none⟩ = some v0 := (h.alloc o).c0
theorem Box2.a1 (h : Box2 w p v0 v1) (o : Obj) : (w.alloc o).cell? ⟨p, 1, none⟩ = some v1 := (h.alloc o).c1
theorem Box2.drewN (h : Box2 w p v0 v1) (m : Nat) : Box2 (w.drewN m) p v0 v1 := ⟨h.c0, h.c1⟩
theorem Box3.lt (h : Box3 w p v0 v1 v2) : p < w.heap.size := World.block_lt_of_cell? _ _ h.c0
theorem Box3.below (h : Box3 w p v0 v1 v2) (b : Below w.heap.size w w') : Box3 w' p v0 v1 v2 :=
  ⟨(b.cell (p := ⟨p, 0, none⟩) h.lt).trans h.c0, (b.cell (p := ⟨p, 1, none⟩) h.lt).trans h.c1, (b.cell (p := ⟨p, 2, none⟩) h.lt).trans h.c2⟩
theorem Box3.within (h : Box3 w p v0 v1 v2) (b : Within lo hi w w') (hd : p < lo ∨ hi ≤ p) : Box3 w' p v0 v1 v2 :=
  ⟨(b.cell (p := ⟨p, 0, none⟩) h.lt hd).trans h.c0, (b.cell (p := ⟨p, 1, none⟩) h.lt hd).trans h.c1, (b.cell (p := ⟨p, 2, none⟩) h.lt hd).trans h.c2⟩
theorem Box3.new (w : World) (t : TypeId) (v0 v1 v2 : Value) : Box3 (w.alloc (.cells #[v0, v1, v2] t)) w.heap.size v0 v1 v2 := ⟨by simp [go_sem], by simp [go_sem], by simp [go_sem]⟩
theorem Box3.alloc (h : Box3 w p v0 v1 v2) (o : Obj) : Box3 (w.alloc o) p v0 v1 v2 := h.below ((Below.refl _ _).alloc (Nat.le_refl _) o)
theorem Box3.a0 (h : Box3 w p v0 v1 v2) (o : Obj) : (w.alloc o).cell? ⟨p, 0, none⟩ = some v0 := (h.alloc o).c0
theorem Box3.a1 (h : Box3 w p v0 v1 v2) (o : Obj) : (w.alloc o).cell? ⟨p, 1, none⟩ = some v1 := (h.alloc o).c1
theorem Box3.a2 (h : Box3 w p v0 v1 v2) (o : Obj) : (w.alloc o).cell? ⟨p, 2, none⟩ = some v2 := (h.alloc o).c2
theorem Box3.drewN (h : Box3 w p v0 v1 v2) (m : Nat) : Box3 (w.drewN m) p v0 v1 v2 := ⟨h.c0, h.c1, h.c2⟩
end
end Go.Proofs.Ytfpombhhnojjhaa
