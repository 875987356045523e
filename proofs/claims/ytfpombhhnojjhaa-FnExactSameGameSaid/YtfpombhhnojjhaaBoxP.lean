/- A struct of four cells in a block of its own. -/
import Derived.Test.YtfpombhhnojjhaaCells
set_option linter.unusedVariables false
namespace Go.Proofs.Ytfpombhhnojjhaa
open Go.RowKit

theorem below_alloc {a w : World} (h : Below a.heap.size a w) (o : Obj) : Below a.heap.size a (w.alloc o) := h.alloc h.size o
/-- Block p shows four cells. -/
structure Box4 (w : World) (p : Nat) (v0 v1 v2 v3 : Value) : Prop where
  c0 : w.cell? ⟨p, 0, none⟩ = some v0
  c1 : w.cell? ⟨p, 1, none⟩ = some v1
  c2 : w.cell? ⟨p, 2, none⟩ = some v2
  c3 : w.cell? ⟨p, 3, none⟩ = some v3
/-- Block p shows five cells. -/
structure Box5 (w : World) (p : Nat) (v0 v1 v2 v3 v4 : Value) : Prop where
  c0 : w.cell? ⟨p, 0, none⟩ = some v0
  c1 : w.cell? ⟨p, 1, none⟩ = some v1
  c2 : w.cell? ⟨p, 2, none⟩ = some v2
  c3 : w.cell? ⟨p, 3, none⟩ = some v3
  c4 : w.cell? ⟨p, 4, none⟩ = some v4

section
variable {w w' : World} {p lo hi : Nat} {v0 v1 v2 v3 v4 : Value}
theorem Box4.lt (h : Box4 w p v0 v1 v2 v3) : p < w.heap.size := World.block_lt_of_cell? _ _ h.c0
theorem Box5.lt (h : Box5 w p v0 v1 v2 v3 v4) : p < w.heap.size := World.block_lt_of_cell? _ _ h.c0
theorem Box4.below (h : Box4 w p v0 v1 v2 v3) (b : Below w.heap.size w w') : Box4 w' p v0 v1 v2 v3 :=
  ⟨(b.cell (p := ⟨p, 0, none⟩) h.lt).trans h.c0, (b.cell (p := ⟨p, 1, none⟩) h.lt).trans h.c1, (b.cell (p := ⟨p, 2, none⟩) h.lt).trans h.c2, (b.cell (p := ⟨p, 3, none⟩) h.lt).trans h.c3⟩
theorem Box5.below (h : Box5 w p v0 v1 v2 v3 v4) (b : Below w.heap.size w w') : Box5 w' p v0 v1 v2 v3 v4 :=
  ⟨(b.cell (p := ⟨p, 0, none⟩) h.lt).trans h.c0, (b.cell (p := ⟨p, 1, none⟩) h.lt).trans h.c1, (b.cell (p := ⟨p, 2, none⟩) h.lt).trans h.c2, (b.cell (p := ⟨p, 3, none⟩) h.lt).trans h.c3, (b.cell (p := ⟨p, 4, none⟩) h.lt).trans h.c4⟩
theorem Box4.within (h : Box4 w p v0 v1 v2 v3) (b : Within lo hi w w') (hd : p < lo ∨ hi ≤ p) : Box4 w' p v0 v1 v2 v3 :=
  ⟨(b.cell (p := ⟨p, 0, none⟩) h.lt hd).trans h.c0, (b.cell (p := ⟨p, 1, none⟩) h.lt hd).trans h.c1, (b.cell (p := ⟨p, 2, none⟩) h.lt hd).trans h.c2, (b.cell (p := ⟨p, 3, none⟩) h.lt hd).trans h.c3⟩
theorem Box5.within (h : Box5 w p v0 v1 v2 v3 v4) (b : Within lo hi w w') (hd : p < lo ∨ hi ≤ p) : Box5 w' p v0 v1 v2 v3 v4 :=
  ⟨(b.cell (p := ⟨p, 0, none⟩) h.lt hd).trans h.c0, (b.cell (p := ⟨p, 1, none⟩) h.lt hd).trans h.c1, (b.cell (p := ⟨p, 2, none⟩) h.lt hd).trans h.c2, (b.cell (p := ⟨p, 3, none⟩) h.lt hd).trans h.c3, (b.cell (p := ⟨p, 4, none⟩) h.lt hd).trans h.c4⟩
theorem Box4.new (w : World) (t : TypeId) (v0 v1 v2 v3 : Value) : Box4 (w.alloc (.cells #[v0, v1, v2, v3] t)) w.heap.size v0 v1 v2 v3 := ⟨by simp [go_sem], by simp [go_sem], by simp [go_sem], by simp [go_sem]⟩
theorem Box5.new (w : World) (t : TypeId) (v0 v1 v2 v3 v4 : Value) : Box5 (w.alloc (.cells #[v0, v1, v2, v3, v4] t)) w.heap.size v0 v1 v2 v3 v4 := ⟨by simp [go_sem], by simp [go_sem], by simp [go_sem], by simp [go_sem], by simp [go_sem]⟩
theorem Box4.alloc (h : Box4 w p v0 v1 v2 v3) (o : Obj) : Box4 (w.alloc o) p v0 v1 v2 v3 := h.below ((Below.refl _ _).alloc (Nat.le_refl _) o)
theorem Box5.alloc (h : Box5 w p v0 v1 v2 v3 v4) (o : Obj) : Box5 (w.alloc o) p v0 v1 v2 v3 v4 := h.below ((Below.refl _ _).alloc (Nat.le_refl _) o)
theorem Box4.a0 (h : Box4 w p v0 v1 v2 v3) (o : Obj) : (w.alloc o).cell? ⟨p, 0, none⟩ = some v0 := (h.alloc o).c0
theorem Box4.a1 (h : Box4 w p v0 v1 v2 v3) (o : Obj) : (w.alloc o).cell? ⟨p, 1, none⟩ = some v1 := (h.alloc o).c1
theorem Box4.a2 (h : Box4 w p v0 v1 v2 v3) (o : Obj) : (w.alloc o).cell? ⟨p, 2, none⟩ = some v2 := (h.alloc o).c2
theorem Box4.a3 (h : Box4 w p v0 v1 v2 v3) (o : Obj) : (w.alloc o).cell? ⟨p, 3, none⟩ = some v3 := (h.alloc o).c3
theorem Box5.a0 (h : Box5 w p v0 v1 v2 v3 v4) (o : Obj) : (w.alloc o).cell? ⟨p, 0, none⟩ = some v0 := (h.alloc o).c0
theorem Box5.a1 (h : Box5 w p v0 v1 v2 v3 v4) (o : Obj) : (w.alloc o).cell? ⟨p, 1, none⟩ = some v1 := (h.alloc o).c1
theorem Box5.a2 (h : Box5 w p v0 v1 v2 v3 v4) (o : Obj) : (w.alloc o).cell? ⟨p, 2, none⟩ = some v2 := (h.alloc o).c2
theorem Box5.a3 (h : Box5 w p v0 v1 v2 v3 v4) (o : Obj) : (w.alloc o).cell? ⟨p, 3, none⟩ = some v3 := (h.alloc o).c3
theorem Box5.a4 (h : Box5 w p v0 v1 v2 v3 v4) (o : Obj) : (w.alloc o).cell? ⟨p, 4, none⟩ = some v4 := (h.alloc o).c4
theorem Box4.far (h : Box4 w p v0 v1 v2 v3) {q j : Nat} {u : Value} (hq : q ≠ p) : Box4 (w.setCell ⟨q, j, none⟩ u) p v0 v1 v2 v3 :=
  h.within (lo := q) (hi := q + 1) (Within.setCell w (p := ⟨q, j, none⟩) (Nat.le_refl _) (Nat.lt_succ_self _) u) (by omega)
theorem Box4.far4 (h : Box4 w p v0 v1 v2 v3) {q : Nat} {u0 u1 u2 u3 : Value} (hq : q ≠ p) : Box4 ((((w.setCell ⟨q, 0, none⟩ u0).setCell ⟨q, 1, none⟩ u1).setCell ⟨q, 2, none⟩ u2).setCell ⟨q, 3, none⟩ u3) p v0 v1 v2 v3 := (((h.far hq).far hq).far hq).far hq
theorem Box4.drew (h : Box4 w p v0 v1 v2 v3) : Box4 w.drew p v0 v1 v2 v3 := ⟨h.c0, h.c1, h.c2, h.c3⟩
theorem Box4.drewN (h : Box4 w p v0 v1 v2 v3) (m : Nat) : Box4 (w.drewN m) p v0 v1 v2 v3 := ⟨h.c0, h.c1, h.c2, h.c3⟩
theorem Box5.drewN (h : Box5 w p v0 v1 v2 v3 v4) (m : Nat) : Box5 (w.drewN m) p v0 v1 v2 v3 v4 := ⟨h.c0, h.c1, h.c2, h.c3, h.c4⟩
end
end Go.Proofs.Ytfpombhhnojjhaa
