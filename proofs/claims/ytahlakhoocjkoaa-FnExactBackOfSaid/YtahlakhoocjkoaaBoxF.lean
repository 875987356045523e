/- Boxes that may be written; rows that grow beside them. -/
import Derived.Test.YtahlakhoocjkoaaBackI
set_option linter.unusedVariables false
namespace Go.Proofs.Ytahlakhoocjkoaa
open Go.RowKit

/-- Block p shows five cells, and may be written. -/
structure BoxF (w : World) (p : Nat) (v0 v1 v2 v3 v4 : Value) : Prop where
  box : Box5 w p v0 v1 v2 v3 v4
  fz : ∀ j, w.frozen? ⟨p, j, none⟩ = false
section
variable {w w' : World} {p q j g n : Nat} {v0 v1 v2 v3 v4 u : Value} {A : Option Addr} {V : Nat → Value} {row : Option Nat}
theorem BoxF.lt (h : BoxF w p v0 v1 v2 v3 v4) : p < w.heap.size := h.box.lt
theorem BoxF.keep (h : BoxF w p v0 v1 v2 v3 v4) (e : w'.heap[p]? = w.heap[p]?) : BoxF w' p v0 v1 v2 v3 v4 :=
  ⟨⟨(World.cell?_of_block (a := ⟨p, 0, none⟩) e).trans h.box.c0, (World.cell?_of_block (a := ⟨p, 1, none⟩) e).trans h.box.c1, (World.cell?_of_block (a := ⟨p, 2, none⟩) e).trans h.box.c2, (World.cell?_of_block (a := ⟨p, 3, none⟩) e).trans h.box.c3, (World.cell?_of_block (a := ⟨p, 4, none⟩) e).trans h.box.c4⟩,
    fun j => (World.frozen?_of_block (a := ⟨p, j, none⟩) e).trans (h.fz j)⟩
theorem BoxF.below (h : BoxF w p v0 v1 v2 v3 v4) (b : Below w.heap.size w w') : BoxF w' p v0 v1 v2 v3 v4 := h.keep (b.block p h.lt)
theorem BoxF.alloc (h : BoxF w p v0 v1 v2 v3 v4) (o : Obj) : BoxF (w.alloc o) p v0 v1 v2 v3 v4 := h.below ((Below.refl _ _).alloc (Nat.le_refl _) o)
theorem BoxF.grown (h : BoxF w p v0 v1 v2 v3 v4) (hg : w.grownBy w' row) (hne : some p ≠ row) : BoxF w' p v0 v1 v2 v3 v4 := h.keep (hg.block p h.lt hne)
theorem BoxF.far (h : BoxF w p v0 v1 v2 v3 v4) (hq : q ≠ p) : BoxF (w.setCell ⟨q, j, none⟩ u) p v0 v1 v2 v3 v4 := h.keep (Below.heap_setCell _ _ _ _ (fun e => hq e.symm))
theorem BoxF.new (w : World) (t : TypeId) (v0 v1 v2 v3 v4 : Value) : BoxF (w.alloc (.cells #[v0, v1, v2, v3, v4] t)) w.heap.size v0 v1 v2 v3 v4 := ⟨Box5.new w t _ _ _ _ _, fun j => by simp [go_sem]⟩
theorem BoxF.set2 (h : BoxF w p v0 v1 v2 v3 v4) : BoxF (w.setCell ⟨p, 2, none⟩ u) p v0 v1 u v3 v4 := ⟨box_set2 h.box u, fun j => by rw [World.frozen?_setCell]; exact h.fz j⟩
theorem BoxF.set3 (h : BoxF w p v0 v1 v2 v3 v4) : BoxF (w.setCell ⟨p, 3, none⟩ u) p v0 v1 v2 u v4 := ⟨box_set3 h.box u, fun j => by rw [World.frozen?_setCell]; exact h.fz j⟩
theorem BoxF.set4 (h : BoxF w p v0 v1 v2 v3 v4) : BoxF (w.setCell ⟨p, 4, none⟩ u) p v0 v1 v2 v3 u := ⟨box_set4 h.box u, fun j => by rw [World.frozen?_setCell]; exact h.fz j⟩
theorem OwnC.keep (h : OwnC w g A n V) (e : 0 < n → w'.heap[g]? = w.heap[g]?) : OwnC w' g A n V := fun k hk => by
  obtain ⟨x, h1, h2, h3, h4⟩ := h k hk
  have e2 : w'.heap[(x.add k).block]? = w.heap[(x.add k).block]? := by rw [block_add, h2]; exact e (by omega)
  exact ⟨x, h1, h2, (World.frozen?_of_block e2).trans h3, (World.cell?_of_block e2).trans h4⟩
theorem OwnC.grown (h : OwnC w g A n V) (hg : w.grownBy w' row) (hne : 0 < n → some g ≠ row) : OwnC w' g A n V := h.keep fun q => hg.block g (h.lt q) (hne q)
end

theorem own_setP {w : World} {g q j n : Nat} {A : Option Addr} {V : Nat → Value} {u : Value} (h : OwnC w g A n V) (hq : 0 < n → g ≠ q) : OwnC (w.setCell ⟨q, j, none⟩ u) g A n V := h.keep fun hn => Below.heap_setCell _ _ _ _ (hq hn)
/-- A row that grows, in another block than p. -/
structure RowV (w : World) (base : Nat) (e : TypeId) (size : Nat) (v : Value) (n : Nat) (V : Nat → Value) (p : Nat) : Prop where
  own : w.ownsRow base e size v n (listV (n * size) V)
  ne : v.ownBlock ≠ some p
section
variable {w w' : World} {base p n size : Nat} {e : TypeId} {v : Value} {V : Nat → Value} {row : Option Nat}
theorem RowV.alloc (h : RowV w base e size v n V p) (o : Obj) : RowV (w.alloc o) base e size v n V p := ⟨h.own.alloc o, h.ne⟩
theorem RowV.grown (h : RowV w base e size v n V p) (hg : w.grownBy w' row) (hne : v.ownBlock = none ∨ v.ownBlock ≠ row) : RowV w' base e size v n V p := ⟨h.own.kept hg hne, h.ne⟩
theorem RowV.setP (h : RowV w base e size v n V p) (j : Nat) (u : Value) : RowV (w.setCell ⟨p, j, none⟩ u) base e size v n V p :=
  ⟨h.own.kept (row := some p) ⟨rfl, rfl, rfl, by simp [World.setCell], fun k _ hk => Below.heap_setCell _ _ _ _ (fun e => hk (by rw [e]))⟩ (.inr h.ne), h.ne⟩
/-- The row as cells of its own. -/
theorem RowV.ownC (h : RowV w base e size v n V p) : ∃ (A : Option Addr) (c g : Nat), v = .slice A n c ∧ base ≤ g ∧ (0 < n * size → g ≠ p) ∧ OwnC w g A (n * size) V := by
  have hl : (listV (n * size) V).length = n * size := listV_len _ _
  rcases h.own.2 with ⟨hv, h0⟩ | ⟨g, cap, cur, hv, hb, hh, h1, h2, h3, h4⟩
  · subst h0 hv
    exact ⟨none, 0, base, rfl, Nat.le_refl _, fun q => by omega, by rw [Nat.zero_mul]; exact OwnC.zero⟩
  · have ho := h.own
    have hn := h.ne
    subst hv
    refine ⟨_, cap, g, rfl, hb, fun _ e => hn (by simp [Value.ownBlock, e]), fun k hk => ⟨_, rfl, rfl, ?_, ?_⟩⟩
    · rw [add0]; exact ho.frozenAt k
    · rw [add0, ho.cellAt k hk]
      exact listV_get V hk
end
/-- Four cells behind a list. -/
theorem listV_four (n : Nat) (V W : Nat → Value) (h0 : V (n * 4) = W 0) (h1 : V (n * 4 + 1) = W 1) (h2 : V (n * 4 + 2) = W 2) (h3 : V (n * 4 + 3) = W 3) : listV (n * 4) V ++ listV (1 * 4) W = listV ((n + 1) * 4) V := by
  have e : (n + 1) * 4 = n * 4 + 1 + 1 + 1 + 1 := by omega
  unfold listV
  rw [e, List.range_succ, List.range_succ, List.range_succ, List.range_succ]
  simp [h0, h1, h2, h3, List.range_succ]
end Go.Proofs.Ytahlakhoocjkoaa
