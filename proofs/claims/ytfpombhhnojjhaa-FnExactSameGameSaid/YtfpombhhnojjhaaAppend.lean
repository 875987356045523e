/- append of a slice of cells, nil or not, to a row of the call's own. -/
import Derived.Test.YtfpombhhnojjhaaChecked
import Derived.Test.YtfpombhhnojjhaaCells
import Derived.Maps.AppendAt
import Derived.RegionTactic
import Derived.OwnWalk
set_option linter.unusedVariables false
namespace Go.Proofs.Ytfpombhhnojjhaa
open Go.RowKit

/-- The cells of a slice as a list. -/
def listV (n : Nat) (V : Nat → Value) : List Value := (List.range n).map V
theorem listV_len (n : Nat) (V : Nat → Value) : (listV n V).length = n := by unfold listV; simp
theorem listV_get {n k : Nat} (V : Nat → Value) (h : k < n) : (listV n V)[k]? = some (V k) := by unfold listV; simp [h]
theorem listV_getD {n k : Nat} (V : Nat → Value) (h : k < n) : (listV n V).getD k undef = V k := by simp [List.getD, listV_get V h]

theorem run_append_cells {P : Program} (w : World) (base : Nat) (t ty e : TypeId) (i : TypeInfo) (z : Value) (size bytes : Nat) (ht : P.underlying t = some (.slice e)) (hi : P.info? e = some i) (hz : i.zero = some z)
    (hsize : i.size = size) (hby : i.bytes = bytes) (hzs : z.cells.size = size) (hsz : 0 < size) (v : Value) (n : Nat) (xs : List Value) (hown : w.ownsRow base e size v n xs)
    (A : Option Addr) (m c : Nat) (V : Nat → Value) (hr : Cells w A (m * size) V) (h1 : ∀ k, k < m * size → (V k).oneCell' = true)
    (h63 : n + m ≤ maxLen) (hbytes : (n + m) * bytes ≤ 140737488355328) (hbase : base ≤ w.heap.size) :
    ∃ v' w', (Builtin.append_ #[t, t] ty #[v, .slice A m c]).run P w = .ok v' w' ∧ w'.ownsRow base e size v' (n + m) (xs ++ listV (m * size) V) ∧ w.grownBy w' v.ownBlock ∧
      (v'.ownBlock = v.ownBlock ∨ v'.ownBlock = some w.heap.size) := by
  cases A with
  | some a =>
    have hl : (listV (m * size) V).length = m * size := listV_len _ _
    have hn : ∀ j u, (listV (m * size) V)[j]? = some u → w.cell? (a.add j) = some u := by
      intro j u hj
      have hlt : j < m * size := by have := (List.getElem?_eq_some_iff.1 hj).1; omega
      rw [listV_get V hlt] at hj
      obtain ⟨x, hx, hc⟩ := hr j hlt
      cases hx
      cases hj
      exact hc
    have ho : ∀ u ∈ listV (m * size) V, u.oneCell' = true := by
      intro u hu
      obtain ⟨k, hk, rfl⟩ := List.mem_map.1 hu
      exact h1 k (List.mem_range.1 hk)
    obtain ⟨v', w', q1, q2, q3, _, q5⟩ := run_append_own_at (P := P) w base t ty e i z size bytes ht hi hz hsize hby hzs hsz v n xs hown a m c _ hl hn ho h63 hbytes hbase
    exact ⟨v', w', q1, q2, q3, q5⟩
  | none =>
    have hm : m * size = 0 := by
      rcases Nat.eq_zero_or_pos (m * size) with h | h
      · exact h
      · obtain ⟨x, hx, _⟩ := hr 0 h
        cases hx
    have hm0 : m = 0 := by
      rcases Nat.mul_eq_zero.1 hm with h | h
      · exact h
      · omega
    subst hm0
    have hrun : (Builtin.append_ #[t, t] ty #[v, .slice none 0 c]).run P w = .ok v w := by
      rcases hown.2 with ⟨h, h0⟩ | ⟨g, cap, cur, h, _, _, hle, _⟩
      · subst h h0
        simp [Builtin.append_, run_underlying ht, sizeOf, typeInfo, hi, Builtin.lenOf, Builtin.firstCells]
      · subst h
        simp [Builtin.append_, run_underlying ht, sizeOf, typeInfo, hi, Builtin.lenOf, Builtin.firstCells, hle, storeCells]
    exact ⟨v, w, hrun, by simpa [listV] using hown, World.grownBy.refl w _, .inl rfl⟩

theorem wpList_append_cells {P : Program} (w : World) {ops : Array Oper} {rest : List Oper} {o : Oper} {a : Act} {Q : Exit → Act → World → Prop} (hgd : o.guard = none) (s x : Operand) (t : TypeId)
    (ho : o.op = .call { callee := .builtin .append, args := #[s, x], argTypes := #[t, t] })
    (base : Nat) (e : TypeId) (i : TypeInfo) (z : Value) (size bytes : Nat) (ht : P.underlying t = some (.slice e)) (hi : P.info? e = some i) (hz : i.zero = some z)
    (hsize : i.size = size) (hby : i.bytes = bytes) (hzs : z.cells.size = size) (hsz : 0 < size) (v : Value) (n : Nat) (xs : List Value) (hs : a.eval s = v) (hown : w.ownsRow base e size v n xs)
    (A : Option Addr) (m c : Nat) (V : Nat → Value) (hx : a.eval x = .slice A m c) (hr : Cells w A (m * size) V) (h1 : ∀ k, k < m * size → (V k).oneCell' = true)
    (h63 : n + m ≤ maxLen) (hbytes : (n + m) * bytes ≤ 140737488355328) (hbase : base ≤ w.heap.size)
    (h : ∀ v' w', w'.ownsRow base e size v' (n + m) (xs ++ listV (m * size) V) → w.grownBy w' v.ownBlock → (v'.ownBlock = v.ownBlock ∨ v'.ownBlock = some w.heap.size) → wpList P ops Q rest (a.put o.dst v') w') :
    wpList P ops Q (o :: rest) a w := by
  refine wpList_plain hgd fun K hK => ?_
  obtain ⟨v', w', q1, q2, q3, q4⟩ := run_append_cells (P := P) w base t o.type e i z size bytes ht hi hz hsize hby hzs hsz v n xs hown A m c V hr h1 h63 hbytes hbase
  unfold Oper.wp execOp
  simp only [ho, resolve, invoke, builtin, Sem.run_bind, Sem.run_pure, Result.andThen_ok, List.map_toArray, List.map_cons, List.map_nil, hs, hx, q1]
  exact hK _ _ (h v' w' q2 q3 q4)
end Go.Proofs.Ytfpombhhnojjhaa
