/- append inside a region that draws its order, to a row that is read there: the row's own cells stay. -/
import Derived.Test.YtcnamfjojdjjgaaStep
set_option linter.unusedVariables false
namespace Go.Proofs.Ytcnamfjojdjjgaa
open Go.RowKit
theorem append_kept {P : Program} (w : World) (base : Nat) (t ty e : TypeId) (i : TypeInfo) (z : Value) (size bytes : Nat) (ht : P.underlying t = some (.slice e)) (hi : P.info? e = some i) (hz : i.zero = some z)
    (hsize : i.size = size) (hby : i.bytes = bytes) (hzs : z.cells.size = size) (hsz : 0 < size) (g n cap : Nat) (xs : List Value) (hown : w.ownsRow base e size (.slice (some ⟨g, 0, none⟩) n cap) n xs)
    (a : Addr) (m c : Nat) (news : List Value) (hl : news.length = m * size) (hnews : ∀ j u, news[j]? = some u → w.cell? (a.add j) = some u) (h1 : ∀ u ∈ news, u.oneCell' = true)
    (h63 : n + m ≤ maxLen) (hbytes : (n + m) * bytes ≤ 140737488355328) (hbase : base ≤ w.heap.size) (v' : Value) (w' : World)
    (hr : (Builtin.append_ #[t, t] ty #[.slice (some ⟨g, 0, none⟩) n cap, .slice (some a) m c]).run P w = .ok v' w') : ∀ j, j < n * size → w'.cell? ⟨g, j, none⟩ = w.cell? ⟨g, j, none⟩ := by
  intro j hj
  have hlt := (hown.lt g (by simp [Value.ownBlock])).2
  have hsmall : n + m ≤ 9223372036854775807 := by simp only [maxLen] at h63; omega
  obtain ⟨v2, w2, q1, q2, q3, _, q5⟩ := run_append_own_at (P := P) w base t ty e i z size bytes ht hi hz hsize hby hzs hsz _ n xs hown a m c news hl hnews h1 h63 hbytes hbase
  rw [hr] at q1
  injection q1 with e1 e2
  subst e1 e2
  have hxl : xs.length = n * size := hown.1
  by_cases hb : v'.ownBlock = some g
  · have hk := q2.cells hb j (xs[j]'(by omega)) (by rw [List.getElem?_append_left (by omega)]; exact List.getElem?_eq_getElem (by omega))
    have hk2 := hown.cells (g := g) rfl j (xs[j]'(by omega)) (List.getElem?_eq_getElem (by omega))
    rw [Addr.add_lit] at hk hk2
    simp only [Nat.zero_add] at hk hk2
    rw [hk, hk2]
  · rcases q5 with q5 | q5
    · exact absurd q5 hb
    · have holds := hown.cells (g := g) rfl
      rcases hown.2 with ⟨h, _⟩ | ⟨g', cap', cur, h, hbg, hg, hnc, hcm, hcs, htake⟩
      · cases h
      · injection h with h3 h4 h5
        injection h3 with h3
        injection h3 with h3
        subst h3 h5
        subst hsize hby
        by_cases hroom : n + m ≤ cap
        · have hfit : n * i.size + news.length ≤ cur.size := by rw [hl, hcs, ← Nat.add_mul]; exact Nat.mul_le_mul_right _ hroom
          have hr2 := run_append_room (P := P) w t ty e i ht hi g n cap cur hg a m c news hl hnews h1 hroom hfit
          rw [hr] at hr2
          injection hr2 with e1 e2
          subst e1
          exact absurd (by simp [Value.ownBlock]) hb
        · have hr2 := run_append_grow (P := P) w t ty e i z ht hi hz ⟨g, 0, none⟩ n cap xs hown.1 holds a m c news hl hnews (by omega) (by omega) (growslice_fits (by omega) hbytes)
          rw [hr] at hr2
          injection hr2 with e1 e2
          subst e2
          exact World.cell?_of_block (a := ⟨g, j, none⟩) (heap_alloc_old w.drew _ g hlt)
/-- 'step_append_cells' at a row that holds something, one element more: what was there stays. -/
theorem step_append_one {P : Program} (w : World) {ops : Array Oper} {o : Oper} {a : Act} {K : Act → World → Prop} {Q : Exit → Act → World → Prop} {E : Prop} (hgd : o.guard = none) (s x : Operand) (t : TypeId)
    (ho : o.op = .call { callee := .builtin .append, args := #[s, x], argTypes := #[t, t] })
    (base : Nat) (e : TypeId) (i : TypeInfo) (z : Value) (size bytes : Nat) (ht : P.underlying t = some (.slice e)) (hi : P.info? e = some i) (hz : i.zero = some z)
    (hsize : i.size = size) (hby : i.bytes = bytes) (hzs : z.cells.size = size) (hsz : 0 < size) (g n cap : Nat) (xs : List Value) (hs : a.eval s = .slice (some ⟨g, 0, none⟩) n cap) (hown : w.ownsRow base e size (.slice (some ⟨g, 0, none⟩) n cap) n xs)
    (A : Addr) (m c : Nat) (V : Nat → Value) (hx : a.eval x = .slice (some A) m c) (hr : Cells w (some A) (m * size) V) (h1 : ∀ k, k < m * size → (V k).oneCell' = true)
    (h63 : n + m ≤ maxLen) (hbytes : (n + m) * bytes ≤ 140737488355328) (hbase : base ≤ w.heap.size)
    (h : ∀ v' w', w'.ownsRow base e size v' (n + m) (xs ++ listV (m * size) V) → w.grownBy w' (some g) → (v'.ownBlock = some g ∨ v'.ownBlock = some w.heap.size) → (∀ j, j < n * size → w'.cell? ⟨g, j, none⟩ = w.cell? ⟨g, j, none⟩) → K (a.put o.dst v') w') :
    if Region.wanted o (yielded ops a.tmps) = true then Oper.wp P o a w K Q else E := by
  have hw : Region.wanted o (yielded ops a.tmps) = true := by simp [Region.wanted, hgd]
  rw [if_pos hw]
  have hl : (listV (m * size) V).length = m * size := listV_len _ _
  have hn : ∀ j u, (listV (m * size) V)[j]? = some u → w.cell? (A.add j) = some u := by
    intro j u hj
    have hlt : j < m * size := by have := (List.getElem?_eq_some_iff.1 hj).1; omega
    rw [listV_get V hlt] at hj
    obtain ⟨x, hx, hc⟩ := hr j hlt
    cases hx
    cases hj
    exact hc
  have hone : ∀ u ∈ listV (m * size) V, u.oneCell' = true := by
    intro u hu
    obtain ⟨k, hk, rfl⟩ := List.mem_map.1 hu
    exact h1 k (List.mem_range.1 hk)
  obtain ⟨v', w', q1, q2, q3, _, q4⟩ := run_append_own_at (P := P) w base t o.type e i z size bytes ht hi hz hsize hby hzs hsz _ n xs hown A m c _ hl hn hone h63 hbytes hbase
  have hk := append_kept w base t o.type e i z size bytes ht hi hz hsize hby hzs hsz g n cap xs hown A m c _ hl hn hone h63 hbytes hbase v' w' q1
  unfold Oper.wp execOp
  simp only [ho, resolve, invoke, builtin, Sem.run_bind, Sem.run_pure, Result.andThen_ok, List.map_toArray, List.map_cons, List.map_nil, hs, hx, q1]
  exact h v' w' q2 (by simpa [Value.ownBlock] using q3) (by simpa [Value.ownBlock] using q4) hk
end Go.Proofs.Ytcnamfjojdjjgaa
