/- Rows of structs of four numbers: their cells, one written, marked. -/
import Derived.Test.YteagfbedbbnomaaOwn
import Derived.Test.YteagfbedbbnomaaBoxP
import Derived.Deep.CutRange
set_option linter.unusedVariables false
namespace Go.Proofs.Yteagfbedbbnomaa
open Go.RowKit

theorem add_pos {a : Addr} {j : Nat} (h : j ≠ 0) : a.add j = ⟨a.block, a.off + j, none⟩ := by unfold Addr.add; simp [h]

/-- Four cells written. -/
def set4 (V : Nat → Value) (p : Nat) (v0 v1 v2 v3 : Value) (i : Nat) : Value := if i = p + 3 then v3 else if i = p + 2 then v2 else if i = p + 1 then v1 else if i = p then v0 else V i
theorem OwnC.set4g {w : World} {g N : Nat} {x : Addr} {V : Nat → Value} (h : OwnC w g (some x) N V) {k : Nat} (hk : k + 4 ≤ N) (v0 v1 v2 v3 : Value) :
    OwnC ((((w.setCell (x.add k) v0).setCell ⟨(x.add k).block, (x.add k).off + 1, none⟩ v1).setCell ⟨(x.add k).block, (x.add k).off + 2, none⟩ v2).setCell ⟨(x.add k).block, (x.add k).off + 3, none⟩ v3) g (some x) N (set4 V k v0 v1 v2 v3) := by
  have a1 := OwnC.set h rfl (k := k) (by omega) v0
  have a2 := OwnC.set a1 rfl (k := k + 1) (by omega) v1
  have a3 := OwnC.set a2 rfl (k := k + 2) (by omega) v2
  have a4 := OwnC.set a3 rfl (k := k + 3) (by omega) v3
  rw [← add_add', add_pos (a := x.add k) (j := 1) (by omega), ← add_add' x k 2, add_pos (a := x.add k) (j := 2) (by omega), ← add_add' x k 3, add_pos (a := x.add k) (j := 3) (by omega)] at a4
  exact a4
theorem OwnC.set4 {w : World} {g N : Nat} {V : Nat → Value} (h : OwnC w g (some ⟨g, 0, none⟩) N V) {k : Nat} (hk : k + 4 ≤ N) (v0 v1 v2 v3 : Value) :
    OwnC ((((w.setCell ⟨g, k, none⟩ v0).setCell ⟨g, k + 1, none⟩ v1).setCell ⟨g, k + 2, none⟩ v2).setCell ⟨g, k + 3, none⟩ v3) g (some ⟨g, 0, none⟩) N (Go.Proofs.Yteagfbedbbnomaa.set4 V k v0 v1 v2 v3) := by
  have := OwnC.set4g h hk v0 v1 v2 v3
  simpa only [add0] using this
theorem Within.set4g {lo hi : Nat} (w : World) (x : Addr) (k : Nat) (h1 : lo ≤ x.block) (h2 : x.block < hi) (v0 v1 v2 v3 : Value) :
    Within lo hi w ((((w.setCell (x.add k) v0).setCell ⟨(x.add k).block, (x.add k).off + 1, none⟩ v1).setCell ⟨(x.add k).block, (x.add k).off + 2, none⟩ v2).setCell ⟨(x.add k).block, (x.add k).off + 3, none⟩ v3) := by
  have hb : (x.add k).block = x.block := block_add x k
  refine Within.trans (Within.trans (Within.trans (Within.setCell _ ?_ ?_ _) (Within.setCell _ ?_ ?_ _)) (Within.setCell _ ?_ ?_ _)) (Within.setCell _ ?_ ?_ _) <;> simp only [hb] <;> assumption

/-- Four cells of a row, as the walk reads them. -/
theorem four {w wr : World} {x : Addr} {n k : Nat} {f : Nat → Int} (h : Cells w (some x) (n * 4) (fun i => .int .i64 (f i))) (hk : k < n) (hb : ∀ p : Addr, p.block < w.heap.size → wr.cell? p = w.cell? p) :
    wr.cell? (x.add (k * 4)) = some (.int .i64 (f (k * 4))) ∧ wr.cell? ⟨(x.add (k * 4)).block, (x.add (k * 4)).off + 1, none⟩ = some (.int .i64 (f (k * 4 + 1))) ∧
    wr.cell? ⟨(x.add (k * 4)).block, (x.add (k * 4)).off + 2, none⟩ = some (.int .i64 (f (k * 4 + 2))) ∧ wr.cell? ⟨(x.add (k * 4)).block, (x.add (k * 4)).off + 3, none⟩ = some (.int .i64 (f (k * 4 + 3))) := by
  have hr : ∀ j, j < 4 → wr.cell? (x.add (k * 4 + j)) = some (.int .i64 (f (k * 4 + j))) := fun j hj => by
    obtain ⟨y, hy, hc⟩ := h (k * 4 + j) (by omega)
    cases hy
    rw [hb _ (World.block_lt_of_cell? _ _ hc)]
    exact hc
  exact ⟨hr 0 (by omega), by rw [← add_pos (by omega), add_add']; exact hr 1 (by omega), by rw [← add_pos (by omega), add_add']; exact hr 2 (by omega), by rw [← add_pos (by omega), add_add']; exact hr 3 (by omega)⟩

/-- The marks on a row of arcs. -/
theorem markV_set4 (V : Nat → Value) (k0 : Int) (k : Nat) : set4 (markV (Value.int .i64) V k0 (k * 4)) (k * 4) (.int .i64 (k0 + 4 * k)) (.int .i64 (k0 + 4 * k + 1)) (.int .i64 (k0 + 4 * k + 2)) (.int .i64 (k0 + 4 * k + 3)) = markV (Value.int .i64) V k0 ((k + 1) * 4) := by
  funext i
  unfold set4 markV
  by_cases e3 : i = k * 4 + 3
  · subst e3; rw [if_pos rfl, if_pos (by omega)]; congr 1; omega
  · by_cases e2 : i = k * 4 + 2
    · subst e2; rw [if_neg (by omega), if_pos rfl, if_pos (by omega)]; congr 1; omega
    · by_cases e1 : i = k * 4 + 1
      · subst e1; rw [if_neg (by omega), if_neg (by omega), if_pos rfl, if_pos (by omega)]; congr 1; omega
      · by_cases e0 : i = k * 4
        · subst e0; rw [if_neg (by omega), if_neg (by omega), if_neg (by omega), if_pos rfl, if_pos (by omega)]; congr 1; omega
        · rw [if_neg e3, if_neg e2, if_neg e1, if_neg e0]
          by_cases h : i < k * 4
          · rw [if_pos h, if_pos (by omega)]
          · rw [if_neg h, if_neg (by omega)]

end Go.Proofs.Yteagfbedbbnomaa
