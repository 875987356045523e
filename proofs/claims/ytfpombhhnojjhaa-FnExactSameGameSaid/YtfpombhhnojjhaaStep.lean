/- append inside a region that draws its order. -/
import Derived.Test.YtfpombhhnojjhaaAppend
import Derived.Test.YtfpombhhnojjhaaBoxP
set_option linter.unusedVariables false
namespace Go.Proofs.Ytfpombhhnojjhaa
open Go.RowKit

/-- An empty row of the call's own. -/
theorem lit0 {w : World} {base b size : Nat} {e : TypeId} (h : w.heap[b]? = some (.cells #[] e)) (hb : base ≤ b) : w.ownsRow base e size (.slice (some ⟨b, 0, none⟩) 0 0) 0 [] :=
  ⟨by simp, .inr ⟨b, 0, #[], rfl, hb, h, Nat.le_refl _, by unfold maxLen; omega, by simp, by simp⟩⟩
theorem lit_last {w : World} {o : Obj} {N : Nat} (h : w.heap.size = N) : (w.alloc o).heap[N]? = some o := by subst h; exact heap_alloc_new w o
theorem lit_prev {w : World} {o o' : Obj} {N : Nat} (h : w.heap.size = N) : ((w.alloc o).alloc o').heap[N]? = some o := by
  subst h
  rw [heap_alloc_old (w.alloc o) o' w.heap.size (by simp)]
  exact heap_alloc_new w o
/-- What an append to a literal of the call's own leaves alone. -/
theorem grown_cell {w w' : World} {lit n c : Nat} (hg : w.grownBy w' (Value.ownBlock (.slice (some ⟨lit, 0, none⟩) n c))) :
    (∀ b o, b < w.heap.size → b ≠ lit → w'.cell? ⟨b, o, none⟩ = w.cell? ⟨b, o, none⟩) ∧ (∀ b o, b < w.heap.size → b ≠ lit → w'.frozen? ⟨b, o, none⟩ = w.frozen? ⟨b, o, none⟩) :=
  ⟨fun b o h1 h2 => World.cell?_of_block (a := ⟨b, o, none⟩) (hg.block b h1 (by simpa [Value.ownBlock] using h2)), fun b o h1 h2 => World.frozen?_of_block (a := ⟨b, o, none⟩) (hg.block b h1 (by simpa [Value.ownBlock] using h2))⟩
/-- A row that the call owns, and where it lies. -/
theorem OwnC.of_rowB {w : World} {base : Nat} {e : TypeId} {v : Value} {n size : Nat} {xs : List Value} (h : w.ownsRow base e size v n xs) :
    ∃ (A : Option Addr) (c g : Nat), v = .slice A n c ∧ base ≤ g ∧ (0 < n * size → v.ownBlock = some g) ∧ OwnC w g A (n * size) (fun i => xs.getD i undef) := by
  have hl : xs.length = n * size := h.1
  rcases h.2 with ⟨hv, h0⟩ | ⟨g, cap, cur, hv, hb, hh, h1, h2, h3, h4⟩
  · subst h0 hv
    exact ⟨none, 0, base, rfl, Nat.le_refl _, fun q => by omega, by rw [Nat.zero_mul]; exact OwnC.zero⟩
  · subst hv
    refine ⟨_, cap, g, rfl, hb, fun _ => by simp [Value.ownBlock], fun k hk => ⟨_, rfl, rfl, ?_, ?_⟩⟩
    · rw [add0]; exact h.frozenAt k
    · rw [add0, h.cellAt k hk, List.getElem?_eq_getElem (by omega)]
      simp [List.getD, List.getElem?_eq_getElem (show k < xs.length by omega)]
theorem OwnC.keepH {w w' : World} {g n : Nat} {A : Option Addr} {V : Nat → Value} (h : OwnC w g A n V) (e : 0 < n → w'.heap[g]? = w.heap[g]?) : OwnC w' g A n V := fun k hk => by
  obtain ⟨x, h1, h2, h3, h4⟩ := h k hk
  have e2 : w'.heap[(x.add k).block]? = w.heap[(x.add k).block]? := by rw [block_add, h2]; exact e (by omega)
  exact ⟨x, h1, h2, (World.frozen?_of_block e2).trans h3, (World.cell?_of_block e2).trans h4⟩
theorem own_set4P {w : World} {g q n : Nat} {A : Option Addr} {V : Nat → Value} {u0 u1 u2 u3 : Value} (h : OwnC w g A n V) (hq : 0 < n → g ≠ q) :
    OwnC ((((w.setCell ⟨q, 0, none⟩ u0).setCell ⟨q, 1, none⟩ u1).setCell ⟨q, 2, none⟩ u2).setCell ⟨q, 3, none⟩ u3) g A n V :=
  (((h.keepH fun hn => Below.heap_setCell _ _ _ _ (hq hn)).keepH fun hn => Below.heap_setCell _ _ _ _ (hq hn)).keepH fun hn => Below.heap_setCell _ _ _ _ (hq hn)).keepH fun hn => Below.heap_setCell _ _ _ _ (hq hn)
theorem far4_cell {w : World} {q b o : Nat} {u0 u1 u2 u3 : Value} (hq : q ≠ b) :
    ((((w.setCell ⟨q, 0, none⟩ u0).setCell ⟨q, 1, none⟩ u1).setCell ⟨q, 2, none⟩ u2).setCell ⟨q, 3, none⟩ u3).cell? ⟨b, o, none⟩ = w.cell? ⟨b, o, none⟩ := by
  have h : ∀ (W : World) (j : Nat) (u : Value), (W.setCell ⟨q, j, none⟩ u).cell? ⟨b, o, none⟩ = W.cell? ⟨b, o, none⟩ := fun W j u => World.cell?_setCell_other _ _ _ _ (fun e => hq (congrArg Addr.block e))
  rw [h, h, h, h]
theorem set4_frozen {w : World} {q : Nat} {a : Addr} {u0 u1 u2 u3 : Value} :
    ((((w.setCell ⟨q, 0, none⟩ u0).setCell ⟨q, 1, none⟩ u1).setCell ⟨q, 2, none⟩ u2).setCell ⟨q, 3, none⟩ u3).frozen? a = w.frozen? a := by
  rw [World.frozen?_setCell, World.frozen?_setCell, World.frozen?_setCell, World.frozen?_setCell]
theorem own_setP' {w : World} {g q j n : Nat} {A : Option Addr} {V : Nat → Value} {u : Value} (h : OwnC w g A n V) (hq : 0 < n → g ≠ q) : OwnC (w.setCell ⟨q, j, none⟩ u) g A n V := h.keepH fun hn => Below.heap_setCell _ _ _ _ (hq hn)
/-- Two rows in blocks of their own, the empty ones wherever there is room. -/
theorem rows_apart2 {w : World} {lo W n1 n2 g1 g2 : Nat} {A B : Option Addr} {U V : Nat → Value} (hW : lo ≤ W) (l1 : lo ≤ g1) (l2 : lo ≤ g2) (h1 : 0 < n1 → g1 < W) (h2 : 0 < n2 → g2 < W)
    (d12 : 0 < n1 → 0 < n2 → g1 ≠ g2) (a1 : OwnC w g1 A n1 U) (a2 : OwnC w g2 B n2 V) (hs : W ≤ w.heap.size) :
    ∃ a b : Nat, (lo ≤ a ∧ lo ≤ b) ∧ a ≠ b ∧ OwnC w a A n1 U ∧ OwnC w b B n2 V := by
  refine ⟨if n1 = 0 then W else g1, if n2 = 0 then W + 1 else g2, ?_, ?_, ?_, ?_⟩
  · refine ⟨?_, ?_⟩ <;> split <;> omega
  · split <;> split <;> omega
  · split
    · rename_i h; subst h; exact OwnC.zero
    · exact a1
  · split
    · rename_i h; subst h; exact OwnC.zero
    · exact a2
/-- Four cells laid in a block. -/
theorem box_put4 {w : World} {p : Nat} {v0 v1 v2 v3 : Value} (h : ∀ j, j < 4 → ∃ u, w.cell? ⟨p, j, none⟩ = some u) :
    Box4 ((((w.setCell ⟨p, 0, none⟩ v0).setCell ⟨p, 1, none⟩ v1).setCell ⟨p, 2, none⟩ v2).setCell ⟨p, 3, none⟩ v3) p v0 v1 v2 v3 := by
  obtain ⟨u0, k0⟩ := h 0 (by omega)
  obtain ⟨u1, k1⟩ := h 1 (by omega)
  obtain ⟨u2, k2⟩ := h 2 (by omega)
  obtain ⟨u3, k3⟩ := h 3 (by omega)
  exact ⟨by simp [World.cell?_setCell_other, go_sem, k0], by simp [World.cell?_setCell_other, go_sem, k1], by simp [World.cell?_setCell_other, go_sem, k2], by simp [World.cell?_setCell_other, go_sem, k3]⟩
theorem step_append_cells {P : Program} (w : World) {ops : Array Oper} {o : Oper} {a : Act} {K : Act → World → Prop} {Q : Exit → Act → World → Prop} {E : Prop} (hgd : o.guard = none) (s x : Operand) (t : TypeId)
    (ho : o.op = .call { callee := .builtin .append, args := #[s, x], argTypes := #[t, t] })
    (base : Nat) (e : TypeId) (i : TypeInfo) (z : Value) (size bytes : Nat) (ht : P.underlying t = some (.slice e)) (hi : P.info? e = some i) (hz : i.zero = some z)
    (hsize : i.size = size) (hby : i.bytes = bytes) (hzs : z.cells.size = size) (hsz : 0 < size) (v : Value) (n : Nat) (xs : List Value) (hs : a.eval s = v) (hown : w.ownsRow base e size v n xs)
    (A : Option Addr) (m c : Nat) (V : Nat → Value) (hx : a.eval x = .slice A m c) (hr : Cells w A (m * size) V) (h1 : ∀ k, k < m * size → (V k).oneCell' = true)
    (h63 : n + m ≤ maxLen) (hbytes : (n + m) * bytes ≤ 140737488355328) (hbase : base ≤ w.heap.size)
    (h : ∀ v' w', w'.ownsRow base e size v' (n + m) (xs ++ listV (m * size) V) → w.grownBy w' v.ownBlock → (v'.ownBlock = v.ownBlock ∨ v'.ownBlock = some w.heap.size) → K (a.put o.dst v') w') :
    if Region.wanted o (yielded ops a.tmps) = true then Oper.wp P o a w K Q else E := by
  have hw : Region.wanted o (yielded ops a.tmps) = true := by simp [Region.wanted, hgd]
  rw [if_pos hw]
  obtain ⟨v', w', q1, q2, q3, q4⟩ := run_append_cells (P := P) w base t o.type e i z size bytes ht hi hz hsize hby hzs hsz v n xs hown A m c V hr h1 h63 hbytes hbase
  unfold Oper.wp execOp
  simp only [ho, resolve, invoke, builtin, Sem.run_bind, Sem.run_pure, Result.andThen_ok, List.map_toArray, List.map_cons, List.map_nil, hs, hx, q1]
  exact h v' w' q2 q3 q4
end Go.Proofs.Ytfpombhhnojjhaa
