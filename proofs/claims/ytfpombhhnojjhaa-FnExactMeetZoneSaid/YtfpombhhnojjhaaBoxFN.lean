/- Boxes that may be written; rows that grow beside them. -/
import Derived.Test.YtfpombhhnojjhaaStep
import Derived.Test.YtfpombhhnojjhaaBoxN
set_option linter.unusedVariables false
namespace Go.Proofs.Ytfpombhhnojjhaa
open Go.RowKit
def ifI (v : Bool) (x : Int) : Int := if v then x else 0
/-- Block p shows 2 cells, and may be written. -/
structure BoxF2 (w : World) (p : Nat) (v0 v1 : Value) : Prop where
  box : Box2 w p v0 v1
  fz : ∀ j, w.frozen? ⟨p, j, none⟩ = false
/-- Block p shows 3 cells, and may be written. -/
structure BoxF3 (w : World) (p : Nat) (v0 v1 v2 : Value) : Prop where
  box : Box3 w p v0 v1 v2
  fz : ∀ j, w.frozen? ⟨p, j, none⟩ = false
/-- Block p shows 4 cells, and may be written. -/
structure BoxF4 (w : World) (p : Nat) (v0 v1 v2 v3 : Value) : Prop where
  box : Box4 w p v0 v1 v2 v3
  fz : ∀ j, w.frozen? ⟨p, j, none⟩ = false
/-- Block p shows 5 cells, and may be written. -/
structure BoxF5 (w : World) (p : Nat) (v0 v1 v2 v3 v4 : Value) : Prop where
  box : Box5 w p v0 v1 v2 v3 v4
  fz : ∀ j, w.frozen? ⟨p, j, none⟩ = false
section
variable {w w' : World} {p q j : Nat} {v0 v1 v2 v3 v4 u : Value} {row : Option Nat}
theorem BoxF2.lt (h : BoxF2 w p v0 v1) : p < w.heap.size := h.box.lt
theorem BoxF2.keep (h : BoxF2 w p v0 v1) (e : w'.heap[p]? = w.heap[p]?) : BoxF2 w' p v0 v1 :=
  ⟨⟨(World.cell?_of_block (a := ⟨p, 0, none⟩) e).trans h.box.c0, (World.cell?_of_block (a := ⟨p, 1, none⟩) e).trans h.box.c1⟩, fun j => (World.frozen?_of_block (a := ⟨p, j, none⟩) e).trans (h.fz j)⟩
theorem BoxF2.below (h : BoxF2 w p v0 v1) (b : Below w.heap.size w w') : BoxF2 w' p v0 v1 := h.keep (b.block p h.lt)
theorem BoxF2.alloc (h : BoxF2 w p v0 v1) (o : Obj) : BoxF2 (w.alloc o) p v0 v1 := h.below ((Below.refl _ _).alloc (Nat.le_refl _) o)
theorem BoxF2.grown (h : BoxF2 w p v0 v1) (hg : w.grownBy w' row) (hne : some p ≠ row) : BoxF2 w' p v0 v1 := h.keep (hg.block p h.lt hne)
theorem BoxF2.far (h : BoxF2 w p v0 v1) (hq : q ≠ p) : BoxF2 (w.setCell ⟨q, j, none⟩ u) p v0 v1 := h.keep (Below.heap_setCell _ _ _ _ (fun e => hq e.symm))
theorem BoxF2.drew (h : BoxF2 w p v0 v1) : BoxF2 w.drew p v0 v1 := h.keep rfl
theorem BoxF2.drewN (h : BoxF2 w p v0 v1) (m : Nat) : BoxF2 (w.drewN m) p v0 v1 := ⟨h.box.drewN m, h.fz⟩
theorem BoxF2.new (w : World) (t : TypeId) (v0 v1 : Value) : BoxF2 (w.alloc (.cells #[v0, v1] t)) w.heap.size v0 v1 := ⟨Box2.new w t _ _, fun j => by simp [go_sem]⟩
theorem BoxF2.set0 (h : BoxF2 w p v0 v1) : BoxF2 (w.setCell ⟨p, 0, none⟩ u) p u v1 := ⟨⟨World.cell?_setCell_same _ _ _ h.box.c0, (World.cell?_setCell_other _ _ _ _ (by simp)).trans h.box.c1⟩, fun j => by rw [World.frozen?_setCell]; exact h.fz j⟩
theorem BoxF2.set1 (h : BoxF2 w p v0 v1) : BoxF2 (w.setCell ⟨p, 1, none⟩ u) p v0 u := ⟨⟨(World.cell?_setCell_other _ _ _ _ (by simp)).trans h.box.c0, World.cell?_setCell_same _ _ _ h.box.c1⟩, fun j => by rw [World.frozen?_setCell]; exact h.fz j⟩
theorem BoxF2.at_ (h : BoxF2 w p v0 v1) (hj : j < 2) : ∃ u, w.cell? ⟨p, j, none⟩ = some u := by
  rcases (show j = 0 ∨ j = 1 by omega) with rfl | rfl
  · exact ⟨_, h.box.c0⟩
  · exact ⟨_, h.box.c1⟩
theorem BoxF3.lt (h : BoxF3 w p v0 v1 v2) : p < w.heap.size := h.box.lt
theorem BoxF3.keep (h : BoxF3 w p v0 v1 v2) (e : w'.heap[p]? = w.heap[p]?) : BoxF3 w' p v0 v1 v2 :=
  ⟨⟨(World.cell?_of_block (a := ⟨p, 0, none⟩) e).trans h.box.c0, (World.cell?_of_block (a := ⟨p, 1, none⟩) e).trans h.box.c1, (World.cell?_of_block (a := ⟨p, 2, none⟩) e).trans h.box.c2⟩, fun j => (World.frozen?_of_block (a := ⟨p, j, none⟩) e).trans (h.fz j)⟩
theorem BoxF3.below (h : BoxF3 w p v0 v1 v2) (b : Below w.heap.size w w') : BoxF3 w' p v0 v1 v2 := h.keep (b.block p h.lt)
theorem BoxF3.alloc (h : BoxF3 w p v0 v1 v2) (o : Obj) : BoxF3 (w.alloc o) p v0 v1 v2 := h.below ((Below.refl _ _).alloc (Nat.le_refl _) o)
theorem BoxF3.grown (h : BoxF3 w p v0 v1 v2) (hg : w.grownBy w' row) (hne : some p ≠ row) : BoxF3 w' p v0 v1 v2 := h.keep (hg.block p h.lt hne)
theorem BoxF3.far (h : BoxF3 w p v0 v1 v2) (hq : q ≠ p) : BoxF3 (w.setCell ⟨q, j, none⟩ u) p v0 v1 v2 := h.keep (Below.heap_setCell _ _ _ _ (fun e => hq e.symm))
theorem BoxF3.drew (h : BoxF3 w p v0 v1 v2) : BoxF3 w.drew p v0 v1 v2 := h.keep rfl
theorem BoxF3.drewN (h : BoxF3 w p v0 v1 v2) (m : Nat) : BoxF3 (w.drewN m) p v0 v1 v2 := ⟨h.box.drewN m, h.fz⟩
theorem BoxF3.new (w : World) (t : TypeId) (v0 v1 v2 : Value) : BoxF3 (w.alloc (.cells #[v0, v1, v2] t)) w.heap.size v0 v1 v2 := ⟨Box3.new w t _ _ _, fun j => by simp [go_sem]⟩
theorem BoxF3.set0 (h : BoxF3 w p v0 v1 v2) : BoxF3 (w.setCell ⟨p, 0, none⟩ u) p u v1 v2 := ⟨⟨World.cell?_setCell_same _ _ _ h.box.c0, (World.cell?_setCell_other _ _ _ _ (by simp)).trans h.box.c1, (World.cell?_setCell_other _ _ _ _ (by simp)).trans h.box.c2⟩, fun j => by rw [World.frozen?_setCell]; exact h.fz j⟩
theorem BoxF3.set1 (h : BoxF3 w p v0 v1 v2) : BoxF3 (w.setCell ⟨p, 1, none⟩ u) p v0 u v2 := ⟨⟨(World.cell?_setCell_other _ _ _ _ (by simp)).trans h.box.c0, World.cell?_setCell_same _ _ _ h.box.c1, (World.cell?_setCell_other _ _ _ _ (by simp)).trans h.box.c2⟩, fun j => by rw [World.frozen?_setCell]; exact h.fz j⟩
theorem BoxF3.set2 (h : BoxF3 w p v0 v1 v2) : BoxF3 (w.setCell ⟨p, 2, none⟩ u) p v0 v1 u := ⟨⟨(World.cell?_setCell_other _ _ _ _ (by simp)).trans h.box.c0, (World.cell?_setCell_other _ _ _ _ (by simp)).trans h.box.c1, World.cell?_setCell_same _ _ _ h.box.c2⟩, fun j => by rw [World.frozen?_setCell]; exact h.fz j⟩
theorem BoxF3.at_ (h : BoxF3 w p v0 v1 v2) (hj : j < 3) : ∃ u, w.cell? ⟨p, j, none⟩ = some u := by
  rcases (show j = 0 ∨ j = 1 ∨ j = 2 by omega) with rfl | rfl | rfl
  · exact ⟨_, h.box.c0⟩
  · exact ⟨_, h.box.c1⟩
  · exact ⟨_, h.box.c2⟩
theorem BoxF4.lt (h : BoxF4 w p v0 v1 v2 v3) : p < w.heap.size := h.box.lt
theorem BoxF4.keep (h : BoxF4 w p v0 v1 v2 v3) (e : w'.heap[p]? = w.heap[p]?) : BoxF4 w' p v0 v1 v2 v3 :=
  ⟨⟨(World.cell?_of_block (a := ⟨p, 0, none⟩) e).trans h.box.c0, (World.cell?_of_block (a := ⟨p, 1, none⟩) e).trans h.box.c1, (World.cell?_of_block (a := ⟨p, 2, none⟩) e).trans h.box.c2, (World.cell?_of_block (a := ⟨p, 3, none⟩) e).trans h.box.c3⟩, fun j => (World.frozen?_of_block (a := ⟨p, j, none⟩) e).trans (h.fz j)⟩
theorem BoxF4.below (h : BoxF4 w p v0 v1 v2 v3) (b : Below w.heap.size w w') : BoxF4 w' p v0 v1 v2 v3 := h.keep (b.block p h.lt)
theorem BoxF4.alloc (h : BoxF4 w p v0 v1 v2 v3) (o : Obj) : BoxF4 (w.alloc o) p v0 v1 v2 v3 := h.below ((Below.refl _ _).alloc (Nat.le_refl _) o)
theorem BoxF4.grown (h : BoxF4 w p v0 v1 v2 v3) (hg : w.grownBy w' row) (hne : some p ≠ row) : BoxF4 w' p v0 v1 v2 v3 := h.keep (hg.block p h.lt hne)
theorem BoxF4.far (h : BoxF4 w p v0 v1 v2 v3) (hq : q ≠ p) : BoxF4 (w.setCell ⟨q, j, none⟩ u) p v0 v1 v2 v3 := h.keep (Below.heap_setCell _ _ _ _ (fun e => hq e.symm))
theorem BoxF4.drew (h : BoxF4 w p v0 v1 v2 v3) : BoxF4 w.drew p v0 v1 v2 v3 := h.keep rfl
theorem BoxF4.drewN (h : BoxF4 w p v0 v1 v2 v3) (m : Nat) : BoxF4 (w.drewN m) p v0 v1 v2 v3 := ⟨h.box.drewN m, h.fz⟩
theorem BoxF4.new (w : World) (t : TypeId) (v0 v1 v2 v3 : Value) : BoxF4 (w.alloc (.cells #[v0, v1, v2, v3] t)) w.heap.size v0 v1 v2 v3 := ⟨Box4.new w t _ _ _ _, fun j => by simp [go_sem]⟩
theorem BoxF4.set0 (h : BoxF4 w p v0 v1 v2 v3) : BoxF4 (w.setCell ⟨p, 0, none⟩ u) p u v1 v2 v3 := ⟨⟨World.cell?_setCell_same _ _ _ h.box.c0, (World.cell?_setCell_other _ _ _ _ (by simp)).trans h.box.c1, (World.cell?_setCell_other _ _ _ _ (by simp)).trans h.box.c2, (World.cell?_setCell_other _ _ _ _ (by simp)).trans h.box.c3⟩, fun j => by rw [World.frozen?_setCell]; exact h.fz j⟩
theorem BoxF4.set1 (h : BoxF4 w p v0 v1 v2 v3) : BoxF4 (w.setCell ⟨p, 1, none⟩ u) p v0 u v2 v3 := ⟨⟨(World.cell?_setCell_other _ _ _ _ (by simp)).trans h.box.c0, World.cell?_setCell_same _ _ _ h.box.c1, (World.cell?_setCell_other _ _ _ _ (by simp)).trans h.box.c2, (World.cell?_setCell_other _ _ _ _ (by simp)).trans h.box.c3⟩, fun j => by rw [World.frozen?_setCell]; exact h.fz j⟩
theorem BoxF4.set2 (h : BoxF4 w p v0 v1 v2 v3) : BoxF4 (w.setCell ⟨p, 2, none⟩ u) p v0 v1 u v3 := ⟨⟨(World.cell?_setCell_other _ _ _ _ (by simp)).trans h.box.c0, (World.cell?_setCell_other _ _ _ _ (by simp)).trans h.box.c1, World.cell?_setCell_same _ _ _ h.box.c2, (World.cell?_setCell_other _ _ _ _ (by simp)).trans h.box.c3⟩, fun j => by rw [World.frozen?_setCell]; exact h.fz j⟩
theorem BoxF4.set3 (h : BoxF4 w p v0 v1 v2 v3) : BoxF4 (w.setCell ⟨p, 3, none⟩ u) p v0 v1 v2 u := ⟨⟨(World.cell?_setCell_other _ _ _ _ (by simp)).trans h.box.c0, (World.cell?_setCell_other _ _ _ _ (by simp)).trans h.box.c1, (World.cell?_setCell_other _ _ _ _ (by simp)).trans h.box.c2, World.cell?_setCell_same _ _ _ h.box.c3⟩, fun j => by rw [World.frozen?_setCell]; exact h.fz j⟩
theorem BoxF4.at_ (h : BoxF4 w p v0 v1 v2 v3) (hj : j < 4) : ∃ u, w.cell? ⟨p, j, none⟩ = some u := by
  rcases (show j = 0 ∨ j = 1 ∨ j = 2 ∨ j = 3 by omega) with rfl | rfl | rfl | rfl
  · exact ⟨_, h.box.c0⟩
  · exact ⟨_, h.box.c1⟩
  · exact ⟨_, h.box.c2⟩
  · exact ⟨_, h.box.c3⟩
theorem BoxF5.lt (h : BoxF5 w p v0 v1 v2 v3 v4) : p < w.heap.size := h.box.lt
theorem BoxF5.keep (h : BoxF5 w p v0 v1 v2 v3 v4) (e : w'.heap[p]? = w.heap[p]?) : BoxF5 w' p v0 v1 v2 v3 v4 :=
  ⟨⟨(World.cell?_of_block (a := ⟨p, 0, none⟩) e).trans h.box.c0, (World.cell?_of_block (a := ⟨p, 1, none⟩) e).trans h.box.c1, (World.cell?_of_block (a := ⟨p, 2, none⟩) e).trans h.box.c2, (World.cell?_of_block (a := ⟨p, 3, none⟩) e).trans h.box.c3, (World.cell?_of_block (a := ⟨p, 4, none⟩) e).trans h.box.c4⟩, fun j => (World.frozen?_of_block (a := ⟨p, j, none⟩) e).trans (h.fz j)⟩
theorem BoxF5.below (h : BoxF5 w p v0 v1 v2 v3 v4) (b : Below w.heap.size w w') : BoxF5 w' p v0 v1 v2 v3 v4 := h.keep (b.block p h.lt)
theorem BoxF5.alloc (h : BoxF5 w p v0 v1 v2 v3 v4) (o : Obj) : BoxF5 (w.alloc o) p v0 v1 v2 v3 v4 := h.below ((Below.refl _ _).alloc (Nat.le_refl _) o)
theorem BoxF5.grown (h : BoxF5 w p v0 v1 v2 v3 v4) (hg : w.grownBy w' row) (hne : some p ≠ row) : BoxF5 w' p v0 v1 v2 v3 v4 := h.keep (hg.block p h.lt hne)
theorem BoxF5.far (h : BoxF5 w p v0 v1 v2 v3 v4) (hq : q ≠ p) : BoxF5 (w.setCell ⟨q, j, none⟩ u) p v0 v1 v2 v3 v4 := h.keep (Below.heap_setCell _ _ _ _ (fun e => hq e.symm))
theorem BoxF5.drew (h : BoxF5 w p v0 v1 v2 v3 v4) : BoxF5 w.drew p v0 v1 v2 v3 v4 := h.keep rfl
theorem BoxF5.drewN (h : BoxF5 w p v0 v1 v2 v3 v4) (m : Nat) : BoxF5 (w.drewN m) p v0 v1 v2 v3 v4 := ⟨h.box.drewN m, h.fz⟩
theorem BoxF5.new (w : World) (t : TypeId) (v0 v1 v2 v3 v4 : Value) : BoxF5 (w.alloc (.cells #[v0, v1, v2, v3, v4] t)) w.heap.size v0 v1 v2 v3 v4 := ⟨Box5.new w t _ _ _ _ _, fun j => by simp [go_sem]⟩
theorem BoxF5.set0 (h : BoxF5 w p v0 v1 v2 v3 v4) : BoxF5 (w.setCell ⟨p, 0, none⟩ u) p u v1 v2 v3 v4 := ⟨⟨World.cell?_setCell_same _ _ _ h.box.c0, (World.cell?_setCell_other _ _ _ _ (by simp)).trans h.box.c1, (World.cell?_setCell_other _ _ _ _ (by simp)).trans h.box.c2, (World.cell?_setCell_other _ _ _ _ (by simp)).trans h.box.c3, (World.cell?_setCell_other _ _ _ _ (by simp)).trans h.box.c4⟩, fun j => by rw [World.frozen?_setCell]; exact h.fz j⟩
theorem BoxF5.set1 (h : BoxF5 w p v0 v1 v2 v3 v4) : BoxF5 (w.setCell ⟨p, 1, none⟩ u) p v0 u v2 v3 v4 := ⟨⟨(World.cell?_setCell_other _ _ _ _ (by simp)).trans h.box.c0, World.cell?_setCell_same _ _ _ h.box.c1, (World.cell?_setCell_other _ _ _ _ (by simp)).trans h.box.c2, (World.cell?_setCell_other _ _ _ _ (by simp)).trans h.box.c3, (World.cell?_setCell_other _ _ _ _ (by simp)).trans h.box.c4⟩, fun j => by rw [World.frozen?_setCell]; exact h.fz j⟩
theorem BoxF5.set2 (h : BoxF5 w p v0 v1 v2 v3 v4) : BoxF5 (w.setCell ⟨p, 2, none⟩ u) p v0 v1 u v3 v4 := ⟨⟨(World.cell?_setCell_other _ _ _ _ (by simp)).trans h.box.c0, (World.cell?_setCell_other _ _ _ _ (by simp)).trans h.box.c1, World.cell?_setCell_same _ _ _ h.box.c2, (World.cell?_setCell_other _ _ _ _ (by simp)).trans h.box.c3, (World.cell?_setCell_other _ _ _ _ (by simp)).trans h.box.c4⟩, fun j => by rw [World.frozen?_setCell]; exact h.fz j⟩
theorem BoxF5.set3 (h : BoxF5 w p v0 v1 v2 v3 v4) : BoxF5 (w.setCell ⟨p, 3, none⟩ u) p v0 v1 v2 u v4 := ⟨⟨(World.cell?_setCell_other _ _ _ _ (by simp)).trans h.box.c0, (World.cell?_setCell_other _ _ _ _ (by simp)).trans h.box.c1, (World.cell?_setCell_other _ _ _ _ (by simp)).trans h.box.c2, World.cell?_setCell_same _ _ _ h.box.c3, (World.cell?_setCell_other _ _ _ _ (by simp)).trans h.box.c4⟩, fun j => by rw [World.frozen?_setCell]; exact h.fz j⟩
theorem BoxF5.set4 (h : BoxF5 w p v0 v1 v2 v3 v4) : BoxF5 (w.setCell ⟨p, 4, none⟩ u) p v0 v1 v2 v3 u := ⟨⟨(World.cell?_setCell_other _ _ _ _ (by simp)).trans h.box.c0, (World.cell?_setCell_other _ _ _ _ (by simp)).trans h.box.c1, (World.cell?_setCell_other _ _ _ _ (by simp)).trans h.box.c2, (World.cell?_setCell_other _ _ _ _ (by simp)).trans h.box.c3, World.cell?_setCell_same _ _ _ h.box.c4⟩, fun j => by rw [World.frozen?_setCell]; exact h.fz j⟩
theorem BoxF5.at_ (h : BoxF5 w p v0 v1 v2 v3 v4) (hj : j < 5) : ∃ u, w.cell? ⟨p, j, none⟩ = some u := by
  rcases (show j = 0 ∨ j = 1 ∨ j = 2 ∨ j = 3 ∨ j = 4 by omega) with rfl | rfl | rfl | rfl | rfl
  · exact ⟨_, h.box.c0⟩
  · exact ⟨_, h.box.c1⟩
  · exact ⟨_, h.box.c2⟩
  · exact ⟨_, h.box.c3⟩
  · exact ⟨_, h.box.c4⟩
end
/-- A row that grows, in another block than p. -/
structure RowV (w : World) (base : Nat) (e : TypeId) (size : Nat) (v : Value) (n : Nat) (V : Nat → Value) (p : Nat) : Prop where
  own : w.ownsRow base e size v n (listV (n * size) V)
  ne : v.ownBlock ≠ some p
section
variable {w w' : World} {base p n size : Nat} {e : TypeId} {v : Value} {V : Nat → Value} {row : Option Nat}
theorem RowV.alloc (h : RowV w base e size v n V p) (o : Obj) : RowV (w.alloc o) base e size v n V p := ⟨h.own.alloc o, h.ne⟩
theorem RowV.grown (h : RowV w base e size v n V p) (hg : w.grownBy w' row) (hne : v.ownBlock = none ∨ v.ownBlock ≠ row) : RowV w' base e size v n V p := ⟨h.own.kept hg hne, h.ne⟩
theorem RowV.setP (h : RowV w base e size v n V p) (j : Nat) (u : Value) : RowV (w.setCell ⟨p, j, none⟩ u) base e size v n V p :=
  ⟨h.own.kept (row := some p) ⟨rfl, rfl, rfl, by simp [World.setCell], fun k _ hk => Below.heap_setCell _ _ _ _ (fun e => hk (by rw [e]))⟩ (.inr h.ne), h.ne⟩
/-- The row as cells of its own. -/
theorem RowV.ownC (h : RowV w base e size v n V p) : ∃ (A : Option Addr) (c g : Nat), v = .slice A n c ∧ base ≤ g ∧ (0 < n * size → g ≠ p) ∧ OwnC w g A (n * size) V := by
  have hl : (listV (n * size) V).length = n * size := listV_len _ _
  rcases h.own.2 with ⟨hv, h0⟩ | ⟨g, cap, cur, hv, hb, hh, h1, h2, h3, h4⟩
  · subst h0 hv
    exact ⟨none, 0, base, rfl, Nat.le_refl _, fun q => by omega, by rw [Nat.zero_mul]; exact OwnC.zero⟩
  · have ho := h.own
    have hn := h.ne
    subst hv
    refine ⟨_, cap, g, rfl, hb, fun _ e => hn (by simp [Value.ownBlock, e]), fun k hk => ⟨_, rfl, rfl, ?_, ?_⟩⟩
    · rw [add0]; exact ho.frozenAt k
    · rw [add0, ho.cellAt k hk]
      exact listV_get V hk
end
/-- Four cells behind a list. -/
theorem listV_four (n : Nat) (V W : Nat → Value) (h0 : V (n * 4) = W 0) (h1 : V (n * 4 + 1) = W 1) (h2 : V (n * 4 + 2) = W 2) (h3 : V (n * 4 + 3) = W 3) : listV (n * 4) V ++ listV (1 * 4) W = listV ((n + 1) * 4) V := by
  have e : (n + 1) * 4 = n * 4 + 1 + 1 + 1 + 1 := by omega
  unfold listV
  rw [e, List.range_succ, List.range_succ, List.range_succ, List.range_succ]
  simp [h0, h1, h2, h3, List.range_succ]
end Go.Proofs.Ytfpombhhnojjhaa
