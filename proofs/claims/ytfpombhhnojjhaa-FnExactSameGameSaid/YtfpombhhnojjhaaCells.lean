/- Words for rows of cells: what a slice shows, what the call owns, what a piece of the run may change. -/
import Derived.Below
import Derived.Deep.Draws
import Derived.Laws.OwnMore
import Derived.OwnWalk
import Derived.Lib.Hide
set_option linter.unusedVariables false
namespace Go.Proofs.Ytfpombhhnojjhaa
open Go.RowKit

theorem add0 (b k : Nat) : (⟨b, 0, none⟩ : Addr).add k = ⟨b, k, none⟩ := by
  unfold Addr.add
  by_cases h : k = 0
  · simp [h]
  · simp [h]
theorem block_add (a : Addr) (n : Nat) : (a.add n).block = a.block := by unfold Addr.add; split <;> rfl
theorem add_add' (a : Addr) (i j : Nat) : (a.add i).add j = a.add (i + j) := by
  unfold Addr.add
  by_cases hi : i = 0 <;> by_cases hj : j = 0 <;> simp [hi, hj, Nat.add_assoc]

theorem add_inj {a : Addr} {i j : Nat} (h : a.add i = a.add j) : i = j := by
  unfold Addr.add at h
  have := congrArg Addr.off h
  by_cases hi : i = 0 <;> by_cases hj : j = 0 <;> simp [hi, hj] at this <;> omega

/-- Blocks from lo to hi, and new ones, alone may have changed. -/
structure Within (lo hi : Nat) (w w' : World) : Prop where
  os : w'.os = w.os
  tape : w'.tape = w.tape
  output : w'.output = w.output
  size : w.heap.size ≤ w'.heap.size
  block : ∀ k, k < w.heap.size → (k < lo ∨ hi ≤ k) → w'.heap[k]? = w.heap[k]?

section
variable {w w' u : World} {lo hi lo' hi' B : Nat}
theorem Within.refl (lo hi : Nat) (w : World) : Within lo hi w w := ⟨rfl, rfl, rfl, Nat.le_refl _, fun _ _ _ => rfl⟩
theorem Within.trans (h : Within lo hi w w') (k : Within lo hi w' u) : Within lo hi w u :=
  ⟨k.os.trans h.os, k.tape.trans h.tape, k.output.trans h.output, Nat.le_trans h.size k.size, fun i h1 h2 => (k.block i (Nat.lt_of_lt_of_le h1 h.size) h2).trans (h.block i h1 h2)⟩
theorem Within.mono (h : Within lo hi w w') (h1 : lo' ≤ lo) (h2 : hi ≤ hi') : Within lo' hi' w w' :=
  ⟨h.os, h.tape, h.output, h.size, fun i hi hd => h.block i hi (by omega)⟩
theorem Within.of_below (h : Below w.heap.size w w') : Within lo hi w w' := ⟨h.os, h.tape, h.output, h.size, fun i hi _ => h.block i hi⟩
theorem Within.below (h : Within lo hi w w') (hB : B ≤ lo) (hs : B ≤ w.heap.size) : Below B w w' := ⟨h.os, h.tape, h.output, h.size, fun i hi => h.block i (by omega) (by omega)⟩
theorem Within.setCell (w : World) {p : Addr} (h1 : lo ≤ p.block) (h2 : p.block < hi) (v : Value) : Within lo hi w (w.setCell p v) :=
  ⟨rfl, rfl, rfl, by simp [World.setCell], fun k _ h => Below.heap_setCell _ _ _ _ (by omega)⟩
theorem Within.drewN (m : Nat) : Within lo hi w (w.drewN m) := ⟨rfl, rfl, rfl, Nat.le_refl _, fun _ _ _ => rfl⟩
theorem Within.cell (h : Within lo hi w w') {p : Addr} (hp : p.block < w.heap.size) (hd : p.block < lo ∨ hi ≤ p.block) : w'.cell? p = w.cell? p := World.cell?_of_block (h.block _ hp hd)
theorem Within.frozen (h : Within lo hi w w') {p : Addr} (hp : p.block < w.heap.size) (hd : p.block < lo ∨ hi ≤ p.block) : w'.frozen? p = w.frozen? p := World.frozen?_of_block (h.block _ hp hd)
theorem below_all (h : Below w.heap.size w w') (hB : B ≤ w.heap.size) : Below B w w' := h.mono hB
theorem drewN_below (w : World) (m : Nat) (B : Nat) : Below B w (w.drewN m) := ⟨rfl, rfl, rfl, Nat.le_refl _, fun _ _ => rfl⟩
theorem below_drewN (h : Below B w u) (m : Nat) : Below B w (u.drewN m) := h.trans (drewN_below u m B)
end

/-- The slice at A shows the cells V. -/
def Cells (w : World) (A : Option Addr) (n : Nat) (V : Nat → Value) : Prop := ∀ k, k < n → ∃ x, A = some x ∧ w.cell? (x.add k) = some (V k)
/-- The same in block g, which may be written. -/
def OwnC (w : World) (g : Nat) (A : Option Addr) (n : Nat) (V : Nat → Value) : Prop := ∀ k, k < n → ∃ x, A = some x ∧ x.block = g ∧ w.frozen? (x.add k) = false ∧ w.cell? (x.add k) = some (V k)

section
variable {w w' : World} {A : Option Addr} {n g lo hi : Nat} {V U : Nat → Value}
theorem Cells.keep (h : Cells w A n V) (b : ∀ p : Addr, p.block < w.heap.size → w'.cell? p = w.cell? p) : Cells w' A n V := fun k hk => by
  obtain ⟨x, hx, hc⟩ := h k hk
  exact ⟨x, hx, by rw [b _ (World.block_lt_of_cell? _ _ hc)]; exact hc⟩
theorem Cells.below (h : Cells w A n V) (b : Below w.heap.size w w') : Cells w' A n V := h.keep fun p hp => b.cell hp
theorem Cells.congr (h : Cells w A n V) (e : ∀ k, k < n → V k = U k) : Cells w A n U := fun k hk => by rw [← e k hk]; exact h k hk
theorem Cells.le {m : Nat} (h : Cells w A n V) (hm : m ≤ n) : Cells w A m V := fun k hk => h k (by omega)
theorem Cells.zero : Cells w A 0 V := fun k hk => by omega
theorem OwnC.cells (h : OwnC w g A n V) : Cells w A n V := fun k hk => by
  obtain ⟨x, h1, _, _, h4⟩ := h k hk
  exact ⟨x, h1, h4⟩
theorem OwnC.zero : OwnC w g A 0 V := fun k hk => by omega
theorem OwnC.lt (h : OwnC w g A n V) (hn : 0 < n) : g < w.heap.size := by
  obtain ⟨x, h1, h2, _, h4⟩ := h 0 hn
  have := World.block_lt_of_cell? _ _ h4
  rw [block_add] at this
  omega
theorem OwnC.below (h : OwnC w g A n V) (b : Below w.heap.size w w') : OwnC w' g A n V := fun k hk => by
  obtain ⟨x, h1, h2, h3, h4⟩ := h k hk
  have hp := World.block_lt_of_cell? _ _ h4
  exact ⟨x, h1, h2, by rw [b.frozen hp]; exact h3, by rw [b.cell hp]; exact h4⟩
theorem OwnC.within (h : OwnC w g A n V) (b : Within lo hi w w') (hd : 0 < n → g < lo ∨ hi ≤ g) : OwnC w' g A n V := fun k hk => by
  obtain ⟨x, h1, h2, h3, h4⟩ := h k hk
  have hp := World.block_lt_of_cell? _ _ h4
  have hd' : (x.add k).block < lo ∨ hi ≤ (x.add k).block := by rw [block_add, h2]; exact hd (by omega)
  exact ⟨x, h1, h2, by rw [b.frozen hp hd']; exact h3, by rw [b.cell hp hd']; exact h4⟩
theorem OwnC.congr (h : OwnC w g A n V) (e : ∀ k, k < n → V k = U k) : OwnC w g A n U := fun k hk => by rw [← e k hk]; exact h k hk
/-- One cell is written. -/
theorem OwnC.set (h : OwnC w g A n V) {k : Nat} {x : Addr} (hA : A = some x) (hk : k < n) (v : Value) :
    OwnC (w.setCell (x.add k) v) g A n (fun i => if i = k then v else V i) := by
  intro i hi
  obtain ⟨y, h1, h2, h3, h4⟩ := h i hi
  obtain rfl : y = x := by rw [hA] at h1; cases h1; rfl
  obtain ⟨z, z1, z2, z3, z4⟩ := h k hk
  obtain rfl : z = y := by rw [hA] at z1; cases z1; rfl
  refine ⟨z, hA, h2, by rw [← h3]; exact World.frozen?_setCell .., ?_⟩
  by_cases e : i = k
  · subst e
    simp only [if_true]
    exact World.cell?_setCell_same _ _ _ h4
  · simp only [if_neg e]
    rw [World.cell?_setCell_other _ _ _ _ (fun q => e (add_inj q.symm))]
    exact h4
end
/-- Marks on a row leave other blocks alone. -/
theorem mark_far {w w' : World} {g n B : Nat} (h : ∀ lo hi, lo ≤ g → (0 < n → g < hi) → Within lo hi w w') (hlt : 0 < n → g < B) (b o : Nat) (hb : b < w.heap.size) (hB : B ≤ b) :
    w'.cell? ⟨b, o, none⟩ = w.cell? ⟨b, o, none⟩ := by
  rcases Nat.eq_zero_or_pos n with h0 | h0
  · exact (h g g (Nat.le_refl _) (fun q => by omega)).cell (p := ⟨b, o, none⟩) hb (by simp; omega)
  · have := hlt h0
    exact (h g (g + 1) (Nat.le_refl _) (fun _ => Nat.lt_succ_self _)).cell (p := ⟨b, o, none⟩) hb (.inr (by simp; omega))
/-- A row that the call owns. -/
theorem OwnC.of_row {w : World} {base : Nat} {e : TypeId} {A : Option Addr} {c n size : Nat} {xs : List Value} (h : w.ownsRow base e size (.slice A n c) n xs) :
    ∃ g, base ≤ g ∧ (0 < n → A = some ⟨g, 0, none⟩ ∧ g < w.heap.size) ∧ OwnC w g A (n * size) (fun i => xs.getD i undef) := by
  have hl : xs.length = n * size := h.1
  rcases h.2 with ⟨hv, h0⟩ | ⟨g, cap, cur, hv, hb, hh, h1, h2, h3, h4⟩
  · subst h0
    exact ⟨base, Nat.le_refl _, fun h => by omega, by rw [Nat.zero_mul]; exact OwnC.zero⟩
  · injection hv with hA hn hc
    subst hA hc
    refine ⟨g, hb, fun _ => ⟨rfl, (Array.getElem?_eq_some_iff.1 hh).1⟩, fun k hk => ⟨_, rfl, rfl, ?_, ?_⟩⟩
    · rw [add0]; exact h.frozenAt k
    · rw [add0, h.cellAt k hk, List.getElem?_eq_getElem (by omega)]
      simp [List.getD, List.getElem?_eq_getElem (show k < xs.length by omega)]
/-- A row that was just made. -/
theorem OwnC.made {w : World} {base : Nat} {e : TypeId} {g c n size : Nat} {xs : List Value} (h : w.ownsRow base e size (.slice (some ⟨g, 0, none⟩) n c) n xs) :
    g < w.heap.size ∧ OwnC w g (some ⟨g, 0, none⟩) (n * size) (fun i => xs.getD i undef) := by
  have hl : xs.length = n * size := h.1
  refine ⟨?_, fun k hk => ⟨_, rfl, rfl, by rw [add0]; exact h.frozenAt k, ?_⟩⟩
  · rcases h.2 with ⟨hv, h0⟩ | ⟨g', cap, cur, hv, hb, hh, h1, h2, h3, h4⟩
    · cases hv
    · simp only [Value.slice.injEq, Option.some.injEq, Addr.mk.injEq, and_true] at hv
      rw [hv.1]
      exact (Array.getElem?_eq_some_iff.1 hh).1
  · rw [add0, h.cellAt k hk, List.getElem?_eq_getElem (by omega)]
    simp [List.getD, List.getElem?_eq_getElem (show k < xs.length by omega)]
end Go.Proofs.Ytfpombhhnojjhaa
