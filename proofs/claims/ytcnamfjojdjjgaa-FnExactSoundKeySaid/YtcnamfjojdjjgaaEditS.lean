/- Least edits: the reference's rows. -/
import Derived.Test.YtcnamfjojdjjgaaEditK
set_option linter.unusedVariables false
namespace Go.Proofs.Ytcnamfjojdjjgaa
open Go.RowKit
theorem infoI64 : (Try.prog.info? 2).map (fun i => (i.zero, i.size, i.bytes)) = some (some (.int .i64 0), 1, 8) := by kernel_rfl
theorem infoII64 : (Try.prog.info? 42).map (fun i => (i.zero, i.size, i.bytes)) = some (some (.slice none 0 0), 1, 24) := by kernel_rfl
/-- One element behind a row. -/
def litOne (x : Value) (_ : Nat) : Value := x
theorem cells_lit1 {w : World} {b : Nat} {x : Value} {t : TypeId} (h : w.heap.size = b) : Cells (w.alloc (.cells #[x] t)) (some ⟨b, 0, none⟩) (1 * 1) (litOne x) := fun k hk => by
  subst h
  obtain rfl : k = 0 := by omega
  exact ⟨_, rfl, by rw [add0]; simp [go_sem, litOne]⟩
theorem listV_snoc (n : Nat) (V : Nat → Value) : listV n V ++ [V n] = listV (n + 1) V := by
  unfold listV
  rw [List.range_succ, List.map_append]
  rfl
theorem list_lit1 (n : Nat) (V : Nat → Value) (x : Value) (h : V n = x) : listV (n * 1) V ++ listV (1 * 1) (litOne x) = listV ((n + 1) * 1) V := by
  have e : listV (1 * 1) (litOne x) = [x] := rfl
  rw [e, Nat.mul_one, Nat.mul_one, ← h, listV_snoc]
theorem listV_congr {n : Nat} {U V : Nat → Value} (h : ∀ i, i < n → U i = V i) : listV n U = listV n V := by
  unfold listV
  exact List.map_congr_left fun i hi => h i (List.mem_range.1 hi)
theorem own_below {w w' : World} {base size n : Nat} {e : TypeId} {v : Value} {xs : List Value} (h : w.ownsRow base e size v n xs) (b : Below w.heap.size w w') : w'.ownsRow base e size v n xs := own_keepH h (fun g hg => b.block g (h.lt g hg).2)
/-- A row of the call's own as cells. -/
theorem own_cells {w : World} {base : Nat} {e : TypeId} {v : Value} {n : Nat} {V : Nat → Value} (h : w.ownsRow base e 1 v n (listV (n * 1) V)) :
    ∃ (A : Option Addr) (c g : Nat), v = .slice A n c ∧ n ≤ c ∧ base ≤ g ∧ OwnC w g A n V := by
  rcases h.2 with ⟨hv, h0⟩ | ⟨g, cap, cur, hv, hb, hh, h1, h2, h3, h4⟩
  · subst h0 hv
    exact ⟨none, 0, base, rfl, Nat.le_refl _, Nat.le_refl _, OwnC.zero⟩
  · subst hv
    refine ⟨_, cap, g, rfl, h1, hb, fun k hk => ⟨_, rfl, rfl, ?_, ?_⟩⟩
    · rw [add0]; exact h.frozenAt k
    · rw [add0, h.cellAt k (by omega)]
      exact listV_get V (by omega)
theorem Cells.grown {w w' : World} {A : Option Addr} {n : Nat} {V : Nat → Value} {row : Option Nat} (h : Cells w A n V) (hg : w.grownBy w' row) (hne : ∀ x, A = some x → row ≠ some x.block) : Cells w' A n V := fun k hk => by
  obtain ⟨x, hx, hc⟩ := h k hk
  refine ⟨x, hx, ?_⟩
  rw [World.cell?_of_block (w := w) (hg.block _ (World.block_lt_of_cell? _ _ hc) (by rw [block_add]; exact fun e => hne x hx e.symm))]
  exact hc
theorem l00Min_any (x y : Int) (w : World) : Calls Try.prog 64 #[.int .i64 x, .int .i64 y] w fun e w' => e = .returned (.int .i64 (min x y)) ∧ w = w' := by
  by_cases h : x < y
  · rw [show min x y = x by omega]
    go_enter Try.func64, Try.ntmps64
    go_wp2
    go_ret
    exact ⟨rfl, rfl⟩
  · rw [show min x y = y by omega]
    go_enter Try.func64, Try.ntmps64
    go_wp2
    go_ret
    exact ⟨rfl, rfl⟩
/-- Rows of numbers, one behind another, in a slice of their own. -/
structure IRows (base : Nat) (W : World) (v : Value) (m n : Nat) (F : Nat → Nat → Int) (R : Nat → Option Addr) (cp : Nat → Nat) : Prop where
  own : W.ownsRow base 42 1 v m (listV (m * 1) (fun i => .slice (R i) n (cp i)))
  rows : ∀ i, i < m → Cells W (R i) n (fun j => .int .i64 (F i j))
  far : ∀ i, i < m → ∀ x, R i = some x → v.ownBlock ≠ some x.block
theorem IRows.below {base : Nat} {W W' : World} {v : Value} {m n : Nat} {F : Nat → Nat → Int} {R : Nat → Option Addr} {cp : Nat → Nat} (h : IRows base W v m n F R cp) (b : Below W.heap.size W W') : IRows base W' v m n F R cp :=
  ⟨own_below h.own b, fun i hi => (h.rows i hi).below b, h.far⟩
/-- What a cell of the slice holds, and what a row's cell holds. -/
theorem IRows.at {base : Nat} {W : World} {v : Value} {m n : Nat} {F : Nat → Nat → Int} {R : Nat → Option Addr} {cp : Nat → Nat} (h : IRows base W v m n F R cp) (hm : 0 < m) :
    ∃ gb cap, v = .slice (some ⟨gb, 0, none⟩) m cap ∧ ∀ i, i < m → W.cell? ⟨gb, i, none⟩ = some (.slice (R i) n (cp i)) := by
  rcases h.own.2 with ⟨_, h0⟩ | ⟨g, cap, cur, hv, hb, hh, h1, h2, h3, h4⟩
  · omega
  · subst hv
    exact ⟨g, cap, rfl, fun i hi => by rw [h.own.cellAt i (by omega)]; exact listV_get _ (by omega)⟩
/-- A row is put behind. -/
theorem IRows.put {base : Nat} {W W' : World} {v v' : Value} {m n : Nat} {F : Nat → Nat → Int} {R : Nat → Option Addr} {cp : Nat → Nat} {A : Option Addr} {c g : Nat} (h : IRows base W v m n F R cp) (hn : 0 < n) (ho : OwnC W g A n (fun j => .int .i64 (F m j))) (hg : v.ownBlock ≠ some g)
    (hown : W'.ownsRow base 42 1 v' (m + 1) (listV (m * 1) (fun i => .slice (R i) n (cp i)) ++ listV (1 * 1) (litOne (.slice A n c)))) (hgrow : W.grownBy W' v.ownBlock) (hwh : v'.ownBlock = v.ownBlock ∨ ∃ k, v'.ownBlock = some k ∧ W.heap.size ≤ k) :
    IRows base W' v' (m + 1) n F (fun i => if i < m then R i else A) (fun i => if i < m then cp i else c) := by
  have hlt : ∀ (A' : Option Addr) (V : Nat → Value), Cells W A' n V → ∀ x, A' = some x → x.block < W.heap.size := fun A' V hc x hx => by
    obtain ⟨y, hy, hcc⟩ := hc 0 hn
    rw [hx] at hy
    cases hy
    have := World.block_lt_of_cell? _ _ hcc
    rwa [block_add] at this
  have hfar : ∀ (A' : Option Addr) (V : Nat → Value), Cells W A' n V → (∀ x, A' = some x → v.ownBlock ≠ some x.block) → ∀ x, A' = some x → v'.ownBlock ≠ some x.block := fun A' V hc hne x hx => by
    have hl := hlt A' V hc x hx
    rcases hwh with h' | ⟨k, h', hk⟩
    · rw [h']; exact hne x hx
    · rw [h']; intro e; injection e with e; omega
  have hA : ∀ x, A = some x → v.ownBlock ≠ some x.block := fun x hx => by
    obtain ⟨y, hy, hb, -⟩ := ho 0 hn
    rw [hx] at hy
    cases hy
    rw [hb]
    exact hg
  refine ⟨?_, fun i hi => ?_, fun i hi => ?_⟩
  · rw [listV_congr (n := m * 1) (V := fun i => .slice (if i < m then R i else A) n (if i < m then cp i else c)) (fun i hi => by rw [if_pos (by omega), if_pos (by omega)]),
      list_lit1 m (fun i => .slice (if i < m then R i else A) n (if i < m then cp i else c)) (.slice A n c) (by rw [if_neg (by omega), if_neg (by omega)])] at hown
    exact hown
  · show Cells W' (if i < m then R i else A) n _
    by_cases hi2 : i < m
    · rw [if_pos hi2]
      exact Cells.grown (h.rows i hi2) hgrow (h.far i hi2)
    · rw [if_neg hi2]
      obtain rfl : i = m := by omega
      exact Cells.grown ho.cells hgrow hA
  · show ∀ x, (if i < m then R i else A) = some x → _
    by_cases hi2 : i < m
    · rw [if_pos hi2]
      exact hfar _ _ (h.rows i hi2) (h.far i hi2)
    · rw [if_neg hi2]
      exact hfar _ _ ho.cells hA
/-- A call's result is a slice of rows of numbers. -/
def IRowsRes (w w' : World) (e : Ending) (m n : Nat) (F : Nat → Nat → Int) : Prop := ∃ v R cp, e = .returned v ∧ IRows w.heap.size w' v m n F R cp ∧ Below w.heap.size w w'
end Go.Proofs.Ytcnamfjojdjjgaa
