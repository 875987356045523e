/- Least edits: the last one, as the program tells it. -/
import Derived.Test.YtcnamfjojdjjgaaEditI
set_option linter.unusedVariables false
namespace Go.Proofs.Ytcnamfjojdjjgaa
open Go.RowKit
theorem rowE_any (G n c r z : Nat) (w : World) (h : r * z + z ≤ c) (hz : 0 < z) (hc : r * z + z ≤ 1048576) :
    Calls Try.prog 70 #[.agg #[.slice (some ⟨G, 0, none⟩) n c, .int .i64 z], .int .i64 r] w fun e w' => e = .returned (.slice (some ⟨G, r * z * 2, none⟩) z z) ∧ Below w.heap.size w w' := by
  have e1 : ((r : Int) * z) = ((r * z : Nat) : Int) := (Int.natCast_mul r z).symm
  have e2 : ((r : Int) + 1) * z = ((r * z + z : Nat) : Int) := by rw [Int.add_mul, e1, Int.one_mul]; omega
  have hr : r ≤ 1048576 := Nat.le_trans (Nat.le_mul_of_pos_right r hz) (by omega)
  generalize hp : r * z = p at *
  have w1 : IntKind.i64.wrap ((r : Int) * z) = (p : Int) := by rw [e1, IntKind.wrap_i64]; omega
  have w2 : IntKind.i64.wrap (((r : Int) + 1) * z) = ((p + z : Nat) : Int) := by rw [e2, IntKind.wrap_i64]; omega
  have w3 : IntKind.i64.wrap ((r : Int) + 1) = (r : Int) + 1 := by rw [IntKind.wrap_i64]; omega
  clear e1 e2
  go_enter Try.func70, Try.ntmps70
  go_wp2_with fail
  go_ret
  exact ⟨by show Ending.returned (.slice (some _) (p + z - p) (p + z - p)) = _; rw [Nat.add_sub_cancel_left], (by repeat (first | exact Below.refl _ _ | exact Hid.out (by assumption) | refine below_alloc ?_ _ | refine Below.setCell ?_ (by simp <;> omega) _ | refine Below.alloc ?_ (by simp <;> omega) _ | refine Below.drew ?_ | refine below_drewN ?_ _))⟩
/-- A byte of a text. -/
def bx (s : ByteArray) (k : Nat) : Nat := if h : k < s.size then s[k].toNat else 0
theorem bx_eq {s : ByteArray} {k : Nat} (h : k < s.size) : s[k].toNat = bx s k := by unfold bx; rw [dif_pos h]
/-- The cells of the grid that are told before those of i and j. -/
def GridK (w : World) (G S : Nat) (E : Nat → Nat → Nat × Int) (i j : Nat) : Prop := ∀ a b, b < S → (a < i ∨ (a = i ∧ b < j)) → w.cell? ⟨G, (a * S + b) * 2, none⟩ = some (.int .u8 (E a b).1) ∧ w.cell? ⟨G, (a * S + b) * 2 + 1, none⟩ = some (.int .i64 (E a b).2)
/-- What the walk knows of the world: its boxes, its result, its offers. -/
structure EdSt (a b : ByteArray) (p o c s : Int) (G N S : Nat) (w W : World) (P k : Nat) (q : Nat → Nat × Int) : Prop where
  box : W.cell? ⟨w.heap.size, 0, none⟩ = some (.string a) ∧ W.cell? ⟨w.heap.size, 1, none⟩ = some (.string b) ∧ W.cell? ⟨w.heap.size, 2, none⟩ = some (.int .i64 p) ∧ W.cell? ⟨w.heap.size, 3, none⟩ = some (.int .i64 o) ∧ W.cell? ⟨w.heap.size, 4, none⟩ = some (.int .i64 c) ∧ W.cell? ⟨w.heap.size, 5, none⟩ = some (.int .i64 s) ∧ W.cell? ⟨w.heap.size + 1, 0, none⟩ = some (.slice (some ⟨G, 0, none⟩) N N) ∧ W.cell? ⟨w.heap.size + 1, 1, none⟩ = some (.int .i64 S)
  res : Box2 W (w.heap.size + 1 + 1) (.int .u8 0) (.int .i64 0)
  fr : W.frozen? ⟨w.heap.size + 1 + 1, 0, none⟩ = false ∧ W.frozen? ⟨w.heap.size + 1 + 1, 1, none⟩ = false
  off : OffS W P (w.heap.size + 3) k q
  bel : Below w.heap.size w W
  lo : w.heap.size + 3 ≤ P ∧ P < W.heap.size
theorem EdSt.next {a b : ByteArray} {p o c s : Int} {G N S : Nat} {w W W' : World} {P k : Nat} {q : Nat → Nat × Int} (h : EdSt a b p o c s G N S w W P k q) (ho : OffS W' P (w.heap.size + 3) (k + 1) q) (hb : Below (w.heap.size + 3) W W') : EdSt a b p o c s G N S w W' P (k + 1) q := by
  obtain ⟨x0, x1, x2, x3, x4, x5, x6, x7⟩ := h.box
  have hz := h.lo
  have k0 : ∀ (B i : Nat) (v : Value), B < w.heap.size + 3 → W.cell? ⟨B, i, none⟩ = some v → W'.cell? ⟨B, i, none⟩ = some v := fun B i v hB hv => (World.cell?_of_block (a := ⟨B, i, none⟩) (hb.block B hB)).trans hv
  exact ⟨⟨k0 _ _ _ (by omega) x0, k0 _ _ _ (by omega) x1, k0 _ _ _ (by omega) x2, k0 _ _ _ (by omega) x3, k0 _ _ _ (by omega) x4, k0 _ _ _ (by omega) x5, k0 _ _ _ (by omega) x6, k0 _ _ _ (by omega) x7⟩,
    ⟨k0 _ _ _ (by omega) h.res.c0, k0 _ _ _ (by omega) h.res.c1⟩, ⟨(World.frozen?_of_block (a := ⟨w.heap.size + 1 + 1, 0, none⟩) (hb.block _ (show w.heap.size + 1 + 1 < w.heap.size + 3 by omega))).trans h.fr.1, (World.frozen?_of_block (a := ⟨w.heap.size + 1 + 1, 1, none⟩) (hb.block _ (show w.heap.size + 1 + 1 < w.heap.size + 3 by omega))).trans h.fr.2⟩,
    ho, h.bel.trans (hb.mono (by omega)), hz.1, Nat.lt_of_lt_of_le hz.2 hb.size⟩
theorem EdSt.init {a b : ByteArray} {p o c s : Int} {G N S : Nat} {w w0 : World} {q : Nat → Nat × Int} (hown : w0.ownsRow (w.heap.size + 3) 82 2 (.slice (some ⟨w.heap.size + 1 + 1 + 1, 0, none⟩) 0 4) 0 [])
    (hgrow : (((w.alloc (.cells #[.string a, .string b, .int .i64 p, .int .i64 o, .int .i64 c, .int .i64 s] 48)).alloc (.cells #[.slice (some ⟨G, 0, none⟩) N N, .int .i64 S] 85)).alloc (.cells #[.int .u8 0, .int .i64 0] 82)).grownBy w0 none) :
    EdSt a b p o c s G N S w (w0.alloc (.cells #[.slice (some ⟨w.heap.size + 1 + 1 + 1, 0, none⟩) 0 4] 83)) w0.heap.size 0 q := by
  have hsz : w.heap.size + 3 ≤ w0.heap.size := by have := hgrow.size; simpa using this
  have hlt : w.heap.size + 3 < w0.heap.size := by
    have := (hown.lt (w.heap.size + 1 + 1 + 1) (by simp [Value.ownBlock])).2
    omega
  have k1 : ∀ (B i : Nat) (v : Value), B < w.heap.size + 3 → (((w.alloc (.cells #[.string a, .string b, .int .i64 p, .int .i64 o, .int .i64 c, .int .i64 s] 48)).alloc (.cells #[.slice (some ⟨G, 0, none⟩) N N, .int .i64 S] 85)).alloc (.cells #[.int .u8 0, .int .i64 0] 82)).cell? ⟨B, i, none⟩ = some v →
      (w0.alloc (.cells #[.slice (some ⟨w.heap.size + 1 + 1 + 1, 0, none⟩) 0 4] 83)).cell? ⟨B, i, none⟩ = some v := fun B i v hB hv => by
    rw [World.cell?_alloc_lt _ _ _ (show B < w0.heap.size by omega)]
    exact (World.cell?_of_block (a := ⟨B, i, none⟩) (hgrow.block B (by simp; omega) (by simp))).trans hv
  have k2 : ∀ (i : Nat), (w0.alloc (.cells #[.slice (some ⟨w.heap.size + 1 + 1 + 1, 0, none⟩) 0 4] 83)).frozen? ⟨w.heap.size + 1 + 1, i, none⟩ = false := fun i => by
    rw [((Below.refl w0.heap.size w0).alloc (Nat.le_refl _) _).frozen (p := ⟨w.heap.size + 1 + 1, i, none⟩) (show w.heap.size + 1 + 1 < w0.heap.size by omega)]
    rw [World.frozen?_of_block (a := ⟨w.heap.size + 1 + 1, i, none⟩) (hgrow.block (w.heap.size + 1 + 1) (by simp) (by simp))]
    simp [go_sem]
  refine ⟨⟨k1 _ _ _ (by omega) (by simp [go_sem]), k1 _ _ _ (by omega) (by simp [go_sem]), k1 _ _ _ (by omega) (by simp [go_sem]), k1 _ _ _ (by omega) (by simp [go_sem]), k1 _ _ _ (by omega) (by simp [go_sem]), k1 _ _ _ (by omega) (by simp [go_sem]), k1 _ _ _ (by omega) (by simp [go_sem]), k1 _ _ _ (by omega) (by simp [go_sem])⟩,
    ⟨k1 _ _ _ (by omega) (by simp [go_sem]), k1 _ _ _ (by omega) (by simp [go_sem])⟩, ⟨k2 0, k2 1⟩, ⟨⟨_, by simp [go_sem], hown.alloc _, by simp [Value.ownBlock]; omega⟩, by simp [go_sem]⟩, ?_, by omega, by simp⟩
  exact Below.alloc (Below.grown (Below.alloc (Below.alloc (Below.alloc (Below.refl _ _) (Nat.le_refl _) _) (by simp) _) (by simp; omega) _) hgrow (by simp; omega) (fun j hj => by cases hj)) (by omega) _
theorem EdSt.keep {a b : ByteArray} {p o c s : Int} {G N S : Nat} {w W W' : World} {P k : Nat} {q : Nat → Nat × Int} (h : EdSt a b p o c s G N S w W P k q) (hb : Below (w.heap.size + 3) W W') : W'.cell? ⟨w.heap.size, 0, none⟩ = some (.string a) ∧ W'.cell? ⟨w.heap.size, 1, none⟩ = some (.string b) ∧ W'.cell? ⟨w.heap.size, 2, none⟩ = some (.int .i64 p) ∧ W'.cell? ⟨w.heap.size, 3, none⟩ = some (.int .i64 o) ∧ W'.cell? ⟨w.heap.size, 4, none⟩ = some (.int .i64 c) ∧ W'.cell? ⟨w.heap.size, 5, none⟩ = some (.int .i64 s) ∧ W'.cell? ⟨w.heap.size + 1, 0, none⟩ = some (.slice (some ⟨G, 0, none⟩) N N) ∧ W'.cell? ⟨w.heap.size + 1, 1, none⟩ = some (.int .i64 S) := by
  obtain ⟨x0, x1, x2, x3, x4, x5, x6, x7⟩ := h.box
  have k0 : ∀ (B i : Nat) (v : Value), B < w.heap.size + 3 → W.cell? ⟨B, i, none⟩ = some v → W'.cell? ⟨B, i, none⟩ = some v := fun B i v hB hv => (World.cell?_of_block (a := ⟨B, i, none⟩) (hb.block B hB)).trans hv
  exact ⟨k0 _ _ _ (by omega) x0, k0 _ _ _ (by omega) x1, k0 _ _ _ (by omega) x2, k0 _ _ _ (by omega) x3, k0 _ _ _ (by omega) x4, k0 _ _ _ (by omega) x5, k0 _ _ _ (by omega) x6, k0 _ _ _ (by omega) x7⟩
theorem OffS.below {w w' : World} {P base k : Nat} {q : Nat → Nat × Int} (h : OffS w P base k q) (b : Below w.heap.size w w') : OffS w' P base k q := by
  obtain ⟨⟨v, hv, ho, hne⟩, hf⟩ := h
  have hlt : P < w.heap.size := World.block_lt_of_cell? _ _ hv
  exact ⟨⟨v, (b.cell (p := ⟨P, 0, none⟩) hlt).trans hv, own_keepH ho (fun g hg => b.block g (ho.lt g hg).2), hne⟩, (b.frozen (p := ⟨P, 0, none⟩) hlt).trans hf⟩
theorem EdSt.same {a b : ByteArray} {p o c s : Int} {G N S : Nat} {w W W' : World} {P k : Nat} {q : Nat → Nat × Int} (h : EdSt a b p o c s G N S w W P k q) (hb : Below W.heap.size W W') : EdSt a b p o c s G N S w W' P k q :=
  ⟨h.keep (hb.mono (by have := h.lo; omega)), h.res.below hb, ⟨(hb.frozen (p := ⟨w.heap.size + 1 + 1, 0, none⟩) (World.block_lt_of_cell? _ _ h.res.c0)).trans h.fr.1, (hb.frozen (p := ⟨w.heap.size + 1 + 1, 1, none⟩) (World.block_lt_of_cell? _ _ h.res.c1)).trans h.fr.2⟩, h.off.below hb, h.bel.trans (hb.mono h.bel.size), h.lo.1, Nat.lt_of_lt_of_le h.lo.2 hb.size⟩
theorem OffS.cells {w : World} {P base k : Nat} {q : Nat → Nat × Int} (h : OffS w P base k q) : ∃ A c, w.cell? ⟨P, 0, none⟩ = some (.slice A k c) ∧ Cells w A (k * 2) (offC q) := by
  obtain ⟨⟨v, hv, ho, hne⟩, hf⟩ := h
  obtain ⟨A, c, g, rfl, -, -, hc⟩ := OwnC.of_rowB ho
  exact ⟨A, c, hv, hc.cells.congr fun i hi => listV_getD _ hi⟩

set_option maxRecDepth 100000 in
theorem lastEdit0j_any (a b : ByteArray) (p o c s : Int) (G N S j sc : Nat) (xa : Addr) (u : Int) (q : Nat → Nat × Int) (w : World) (hp : 0 ≤ p ∧ p ≤ 4000000) (hu : 0 ≤ u ∧ u ≤ 4000000) (hj : j < S) (hS : S ≤ 49)
    (hrow : ∀ W, Calls Try.prog 70 #[.agg #[.slice (some ⟨G, 0, none⟩) N N, .int .i64 S], .int .i64 0] W fun e w' => e = .returned (.slice (some xa) S S) ∧ Below W.heap.size W w')
    (he : ∀ W', Below w.heap.size w W' → W'.cell? (xa.add (j * 2)) = some (.int .u8 sc) ∧ W'.cell? ⟨(xa.add (j * 2)).block, (xa.add (j * 2)).off + 1, none⟩ = some (.int .i64 u)) (hq : q 0 = (43, u + p)) :
    Calls Try.prog 86 #[.agg #[.string a, .string b, .int .i64 p, .int .i64 o, .int .i64 c, .int .i64 s], .agg #[.slice (some ⟨G, 0, none⟩) N N, .int .i64 S], .int .i64 0, .int .i64 ((j + 1 : Nat) : Int)] w fun e w' => e = .returned (.agg #[.int .u8 (leastF q 1).1, .int .i64 (leastF q 1).2]) ∧ Below w.heap.size w w' := by
  obtain ⟨i0, hi0, hz0, hs0, hb0⟩ := info_parts infoE
  have HL := Lib.hid (fun A r cc q W t1 t2 => leastOf_any A r cc q W t1 t2)
  have d1 : (j : Int) < S := by omega
  have dw2 : IntKind.i64.wrap (j : Int) = (j : Int) := by rw [IntKind.wrap_i64]; omega
  have HRow := Lib.hid hrow
  have HE := Lib.hid he
  have HQ := Lib.hid hq
  clear hrow he hq
  go_enter Try.func86, Try.ntmps86
  go_wp2_with (first
    | (at_make
       refine wpList_make_own _ rfl _ _ 83 rfl (w.heap.size + 3) 82 i0 (.agg #[.int .u8 0, .int .i64 0]) 2 Try.underlying83 hi0 hz0 hs0 .i64 .i64 4 4 rfl rfl rfl (by omega) (by unfold maxLen; omega) (by simp) ?_
       intro w0 hown0 hgrow0
       simp only [World.size_alloc] at hown0
       have HO0 := Lib.hid hown0
       have HG0 := Lib.hid hgrow0
       clear hown0 hgrow0))
  obtain ⟨W, hW⟩ : ∃ W, W = w0.alloc (.cells #[.slice (some ⟨w.heap.size + 1 + 1 + 1, 0, none⟩) 0 4] 83) := ⟨_, rfl⟩
  have E0 := Lib.hid (EdSt.init (q := q) HO0.out HG0.out)
  rw [← hW]
  rw [← hW] at E0
  generalize w0.heap.size = P at *
  clear HO0 HG0 hW w0
  obtain ⟨y0, y1⟩ := HE.out _ E0.out.bel
  have HKeep := Lib.hid (show ∀ W', Below W.heap.size W W' → (W'.cell? ⟨w.heap.size, 0, none⟩ = some (.string a) ∧ W'.cell? ⟨w.heap.size, 1, none⟩ = some (.string b) ∧ W'.cell? ⟨w.heap.size, 2, none⟩ = some (.int .i64 p) ∧ W'.cell? ⟨w.heap.size, 3, none⟩ = some (.int .i64 o) ∧ W'.cell? ⟨w.heap.size, 4, none⟩ = some (.int .i64 c) ∧ W'.cell? ⟨w.heap.size, 5, none⟩ = some (.int .i64 s) ∧ W'.cell? ⟨w.heap.size + 1, 0, none⟩ = some (.slice (some ⟨G, 0, none⟩) N N) ∧ W'.cell? ⟨w.heap.size + 1, 1, none⟩ = some (.int .i64 S) ∧ W'.cell? ((xa.add (j * 2))) = some (.int .u8 sc) ∧ W'.cell? ⟨((xa.add (j * 2))).block, ((xa.add (j * 2))).off + 1, none⟩ = some (.int .i64 u)) from fun W' hW => by
    obtain ⟨z0, z1, z2, z3, z4, z5, z6, z7⟩ := E0.out.keep (hW.mono (by have := E0.out.lo; omega))
    obtain ⟨e0, e1⟩ := HE.out W' (E0.out.bel.trans (hW.mono E0.out.bel.size))
    exact ⟨z0, z1, z2, z3, z4, z5, z6, z7, e0, e1⟩)
  go_region_held3 (fun W' => W'.cell? ⟨w.heap.size, 0, none⟩ = some (.string a) ∧ W'.cell? ⟨w.heap.size, 1, none⟩ = some (.string b) ∧ W'.cell? ⟨w.heap.size, 2, none⟩ = some (.int .i64 p) ∧ W'.cell? ⟨w.heap.size, 3, none⟩ = some (.int .i64 o) ∧ W'.cell? ⟨w.heap.size, 4, none⟩ = some (.int .i64 c) ∧ W'.cell? ⟨w.heap.size, 5, none⟩ = some (.int .i64 s) ∧ W'.cell? ⟨w.heap.size + 1, 0, none⟩ = some (.slice (some ⟨G, 0, none⟩) N N) ∧ W'.cell? ⟨w.heap.size + 1, 1, none⟩ = some (.int .i64 S) ∧ W'.cell? ((xa.add (j * 2))) = some (.int .u8 sc) ∧ W'.cell? ⟨((xa.add (j * 2))).block, ((xa.add (j * 2))).off + 1, none⟩ = some (.int .i64 u))
    (first
      | (obtain ⟨z0, z1, z2, z3, z4, z5, z6, z7⟩ := E1.out.box
         obtain ⟨e0, e1⟩ := HE.out _ E1.out.bel
         exact ⟨z0, z1, z2, z3, z4, z5, z6, z7, e0, e1⟩)
      | (exact HKeep.out _ (by repeat (first | exact Below.refl _ _ | exact Hid.out (by assumption) | refine below_alloc ?_ _ | refine Below.setCell ?_ (by simp <;> omega) _ | refine Below.alloc ?_ (by simp <;> omega) _ | refine Below.drew ?_ | refine below_drewN ?_ _))))
    (first
      |
        (go_at_call 70
         refine (HRow.out _).mono ?_
         rintro e u1 ⟨rfl, hb⟩
         have PU := Lib.hid (Below.step (w := W) (by repeat (first | exact Below.refl _ _ | exact Hid.out (by assumption) | refine below_alloc ?_ _ | refine Below.setCell ?_ (by simp <;> omega) _ | refine Below.alloc ?_ (by simp <;> omega) _ | refine Below.drew ?_ | refine below_drewN ?_ _)) (Nat.le_refl _) hb)
         clear hb)
      |
        (go_at_call 88
         refine (offer_any P (w.heap.size + 3) 0 q _ 43 u p _ (OffS.below E0.out.off PU.out) (by omega) (by have := E0.out.lo; have := PU.out.size; omega) (by omega) (by omega) HQ.out).mono ?_
         rintro e u2 ⟨rfl, h1, h2⟩
         have E1 := Lib.hid (EdSt.next E0.out h1 ((PU.out.mono (by have := E0.out.lo; omega)).trans (h2 _ E0.out.lo.1 (Nat.le_refl _))))
         clear h1 h2)
      )
  clear y0 y1 HKeep PU
  rename World => W1
  go_wp2_with fail
  go_quiet (fail)
  have E2 := Lib.hid (EdSt.same E1.out (below_drewN (Below.refl _ _) nq))
  generalize W1.drewN nq = W2 at *
  clear E1
  obtain ⟨Ao, co, w1, w2⟩ := E2.out.off.cells
  have HC9 := Lib.hid w2
  clear w2
  go_wp2_with (first
    | (go_at_call 89
       refine (HL.out _ _ _ q _ (by omega) (by exact HC9.out)).mono ?_
       rintro e u3 ⟨rfl, hb⟩
       have B3 := Lib.hid (E2.out.bel.trans (hb.mono E2.out.bel.size))
       obtain ⟨r0, r1⟩ := E2.out.res.below hb
       have f0 := (hb.frozen (p := ⟨w.heap.size + 1 + 1, 0, none⟩) (World.block_lt_of_cell? _ _ E2.out.res.c0)).trans E2.out.fr.1
       have f1 := (hb.frozen (p := ⟨w.heap.size + 1 + 1, 1, none⟩) (World.block_lt_of_cell? _ _ E2.out.res.c1)).trans E2.out.fr.2
       clear hb))
  refine bodyPost_ret (v := .agg #[.int .u8 (leastF q 1).1, .int .i64 (leastF q 1).2]) (by simp [results, Try.results86, World.cell?_setCell_other, go_sem, r0, r1]) rfl ⟨rfl, (B3.out.setCell (by simp; omega) _).setCell (by simp; omega) _⟩
set_option maxRecDepth 100000 in
theorem lastEditi0_any (a b : ByteArray) (p o c s : Int) (G N S i sc : Nat) (xa : Addr) (u : Int) (q : Nat → Nat × Int) (w : World) (hp : 0 ≤ o ∧ o ≤ 4000000) (hu : 0 ≤ u ∧ u ≤ 4000000) (hi : i ≤ 1048576) (hS : S ≤ 49) (hS0 : 0 < S)
    (hrow : ∀ W, Calls Try.prog 70 #[.agg #[.slice (some ⟨G, 0, none⟩) N N, .int .i64 S], .int .i64 i] W fun e w' => e = .returned (.slice (some xa) S S) ∧ Below W.heap.size W w')
    (he : ∀ W', Below w.heap.size w W' → W'.cell? xa = some (.int .u8 sc) ∧ W'.cell? ⟨xa.block, xa.off + 1, none⟩ = some (.int .i64 u)) (hq : q 0 = (45, u + o)) :
    Calls Try.prog 86 #[.agg #[.string a, .string b, .int .i64 p, .int .i64 o, .int .i64 c, .int .i64 s], .agg #[.slice (some ⟨G, 0, none⟩) N N, .int .i64 S], .int .i64 ((i + 1 : Nat) : Int), .int .i64 0] w fun e w' => e = .returned (.agg #[.int .u8 (leastF q 1).1, .int .i64 (leastF q 1).2]) ∧ Below w.heap.size w w' := by
  obtain ⟨i0, hi0, hz0, hs0, hb0⟩ := info_parts infoE
  have HL := Lib.hid (fun A r cc q W t1 t2 => leastOf_any A r cc q W t1 t2)
  have d1 : (0 : Int) < S := by omega
  have dw2 : IntKind.i64.wrap (i : Int) = (i : Int) := by rw [IntKind.wrap_i64]; omega
  have HRow := Lib.hid hrow
  have HE := Lib.hid he
  have HQ := Lib.hid hq
  clear hrow he hq
  go_enter Try.func86, Try.ntmps86
  go_wp2_with (first
    | (at_make
       refine wpList_make_own _ rfl _ _ 83 rfl (w.heap.size + 3) 82 i0 (.agg #[.int .u8 0, .int .i64 0]) 2 Try.underlying83 hi0 hz0 hs0 .i64 .i64 4 4 rfl rfl rfl (by omega) (by unfold maxLen; omega) (by simp) ?_
       intro w0 hown0 hgrow0
       simp only [World.size_alloc] at hown0
       have HO0 := Lib.hid hown0
       have HG0 := Lib.hid hgrow0
       clear hown0 hgrow0))
  obtain ⟨W, hW⟩ : ∃ W, W = w0.alloc (.cells #[.slice (some ⟨w.heap.size + 1 + 1 + 1, 0, none⟩) 0 4] 83) := ⟨_, rfl⟩
  have E0 := Lib.hid (EdSt.init (q := q) HO0.out HG0.out)
  rw [← hW]
  rw [← hW] at E0
  generalize w0.heap.size = P at *
  clear HO0 HG0 hW w0
  obtain ⟨y0, y1⟩ := HE.out _ E0.out.bel
  have HKeep := Lib.hid (show ∀ W', Below W.heap.size W W' → (W'.cell? ⟨w.heap.size, 0, none⟩ = some (.string a) ∧ W'.cell? ⟨w.heap.size, 1, none⟩ = some (.string b) ∧ W'.cell? ⟨w.heap.size, 2, none⟩ = some (.int .i64 p) ∧ W'.cell? ⟨w.heap.size, 3, none⟩ = some (.int .i64 o) ∧ W'.cell? ⟨w.heap.size, 4, none⟩ = some (.int .i64 c) ∧ W'.cell? ⟨w.heap.size, 5, none⟩ = some (.int .i64 s) ∧ W'.cell? ⟨w.heap.size + 1, 0, none⟩ = some (.slice (some ⟨G, 0, none⟩) N N) ∧ W'.cell? ⟨w.heap.size + 1, 1, none⟩ = some (.int .i64 S) ∧ W'.cell? (xa) = some (.int .u8 sc) ∧ W'.cell? ⟨(xa).block, (xa).off + 1, none⟩ = some (.int .i64 u)) from fun W' hW => by
    obtain ⟨z0, z1, z2, z3, z4, z5, z6, z7⟩ := E0.out.keep (hW.mono (by have := E0.out.lo; omega))
    obtain ⟨e0, e1⟩ := HE.out W' (E0.out.bel.trans (hW.mono E0.out.bel.size))
    exact ⟨z0, z1, z2, z3, z4, z5, z6, z7, e0, e1⟩)
  go_region_held3 (fun W' => W'.cell? ⟨w.heap.size, 0, none⟩ = some (.string a) ∧ W'.cell? ⟨w.heap.size, 1, none⟩ = some (.string b) ∧ W'.cell? ⟨w.heap.size, 2, none⟩ = some (.int .i64 p) ∧ W'.cell? ⟨w.heap.size, 3, none⟩ = some (.int .i64 o) ∧ W'.cell? ⟨w.heap.size, 4, none⟩ = some (.int .i64 c) ∧ W'.cell? ⟨w.heap.size, 5, none⟩ = some (.int .i64 s) ∧ W'.cell? ⟨w.heap.size + 1, 0, none⟩ = some (.slice (some ⟨G, 0, none⟩) N N) ∧ W'.cell? ⟨w.heap.size + 1, 1, none⟩ = some (.int .i64 S) ∧ W'.cell? (xa) = some (.int .u8 sc) ∧ W'.cell? ⟨(xa).block, (xa).off + 1, none⟩ = some (.int .i64 u))
    (first
      | (obtain ⟨z0, z1, z2, z3, z4, z5, z6, z7⟩ := E1.out.box
         obtain ⟨e0, e1⟩ := HE.out _ E1.out.bel
         exact ⟨z0, z1, z2, z3, z4, z5, z6, z7, e0, e1⟩)
      | (exact HKeep.out _ (by repeat (first | exact Below.refl _ _ | exact Hid.out (by assumption) | refine below_alloc ?_ _ | refine Below.setCell ?_ (by simp <;> omega) _ | refine Below.alloc ?_ (by simp <;> omega) _ | refine Below.drew ?_ | refine below_drewN ?_ _))))
    (first
      |
        (go_at_call 70
         refine (HRow.out _).mono ?_
         rintro e u1 ⟨rfl, hb⟩
         have PU := Lib.hid (Below.step (w := W) (by repeat (first | exact Below.refl _ _ | exact Hid.out (by assumption) | refine below_alloc ?_ _ | refine Below.setCell ?_ (by simp <;> omega) _ | refine Below.alloc ?_ (by simp <;> omega) _ | refine Below.drew ?_ | refine below_drewN ?_ _)) (Nat.le_refl _) hb)
         clear hb)
      |
        (go_at_call 88
         refine (offer_any P (w.heap.size + 3) 0 q _ 45 u o _ (OffS.below E0.out.off PU.out) (by omega) (by have := E0.out.lo; have := PU.out.size; omega) (by omega) (by omega) HQ.out).mono ?_
         rintro e u2 ⟨rfl, h1, h2⟩
         have E1 := Lib.hid (EdSt.next E0.out h1 ((PU.out.mono (by have := E0.out.lo; omega)).trans (h2 _ E0.out.lo.1 (Nat.le_refl _))))
         clear h1 h2)
      )
  clear y0 y1 HKeep PU
  rename World => W1
  by_cases hg : (1 : Int) < (i : Int) + 1
  · have hgd := decide_eq_true hg
    go_wp2_with fail
    go_quiet (fail)
    have E2 := Lib.hid (EdSt.same E1.out (below_drewN (Below.refl _ _) nq))
    generalize W1.drewN nq = W2 at *
    clear E1
    obtain ⟨Ao, co, w1, w2⟩ := E2.out.off.cells
    have HC9 := Lib.hid w2
    clear w2
    go_wp2_with (first
      | (go_at_call 89
         refine (HL.out _ _ _ q _ (by omega) (by exact HC9.out)).mono ?_
         rintro e u3 ⟨rfl, hb⟩
         have B3 := Lib.hid (E2.out.bel.trans (hb.mono E2.out.bel.size))
         obtain ⟨r0, r1⟩ := E2.out.res.below hb
         have f0 := (hb.frozen (p := ⟨w.heap.size + 1 + 1, 0, none⟩) (World.block_lt_of_cell? _ _ E2.out.res.c0)).trans E2.out.fr.1
         have f1 := (hb.frozen (p := ⟨w.heap.size + 1 + 1, 1, none⟩) (World.block_lt_of_cell? _ _ E2.out.res.c1)).trans E2.out.fr.2
         clear hb))
    refine bodyPost_ret (v := .agg #[.int .u8 (leastF q 1).1, .int .i64 (leastF q 1).2]) (by simp [results, Try.results86, World.cell?_setCell_other, go_sem, r0, r1]) rfl ⟨rfl, (B3.out.setCell (by simp; omega) _).setCell (by simp; omega) _⟩
  · have hgd := decide_eq_false hg
    go_wp2_with fail
    go_quiet (fail)
    have E2 := Lib.hid (EdSt.same E1.out (below_drewN (Below.refl _ _) nq))
    generalize W1.drewN nq = W2 at *
    clear E1
    obtain ⟨Ao, co, w1, w2⟩ := E2.out.off.cells
    have HC9 := Lib.hid w2
    clear w2
    go_wp2_with (first
      | (go_at_call 89
         refine (HL.out _ _ _ q _ (by omega) (by exact HC9.out)).mono ?_
         rintro e u3 ⟨rfl, hb⟩
         have B3 := Lib.hid (E2.out.bel.trans (hb.mono E2.out.bel.size))
         obtain ⟨r0, r1⟩ := E2.out.res.below hb
         have f0 := (hb.frozen (p := ⟨w.heap.size + 1 + 1, 0, none⟩) (World.block_lt_of_cell? _ _ E2.out.res.c0)).trans E2.out.fr.1
         have f1 := (hb.frozen (p := ⟨w.heap.size + 1 + 1, 1, none⟩) (World.block_lt_of_cell? _ _ E2.out.res.c1)).trans E2.out.fr.2
         clear hb))
    refine bodyPost_ret (v := .agg #[.int .u8 (leastF q 1).1, .int .i64 (leastF q 1).2]) (by simp [results, Try.results86, World.cell?_setCell_other, go_sem, r0, r1]) rfl ⟨rfl, (B3.out.setCell (by simp; omega) _).setCell (by simp; omega) _⟩
set_option maxRecDepth 100000 in
theorem lastEdit00_any (a b : ByteArray) (p o c s : Int) (G N S : Nat) (w : World) :
    Calls Try.prog 86 #[.agg #[.string a, .string b, .int .i64 p, .int .i64 o, .int .i64 c, .int .i64 s], .agg #[.slice (some ⟨G, 0, none⟩) N N, .int .i64 S], .int .i64 0, .int .i64 0] w fun e w' => e = .returned (.agg #[.int .u8 0, .int .i64 0]) ∧ Below w.heap.size w w' := by
  obtain ⟨i0, hi0, hz0, hs0, hb0⟩ := info_parts infoE
  have HL := Lib.hid (fun A r cc q W t1 t2 => leastOf_any A r cc q W t1 t2)
  obtain ⟨q, hq⟩ : ∃ q : Nat → Nat × Int, q = fun _ => (0, 0) := ⟨_, rfl⟩
  clear hq
  show Calls Try.prog 86 _ w fun e w' => e = .returned (.agg #[.int .u8 (leastF q 0).1, .int .i64 (leastF q 0).2]) ∧ Below w.heap.size w w'
  go_enter Try.func86, Try.ntmps86
  go_wp2_with (first
    | (at_make
       refine wpList_make_own _ rfl _ _ 83 rfl (w.heap.size + 3) 82 i0 (.agg #[.int .u8 0, .int .i64 0]) 2 Try.underlying83 hi0 hz0 hs0 .i64 .i64 4 4 rfl rfl rfl (by omega) (by unfold maxLen; omega) (by simp) ?_
       intro w0 hown0 hgrow0
       simp only [World.size_alloc] at hown0
       have HO0 := Lib.hid hown0
       have HG0 := Lib.hid hgrow0
       clear hown0 hgrow0))
  obtain ⟨W, hW⟩ : ∃ W, W = w0.alloc (.cells #[.slice (some ⟨w.heap.size + 1 + 1 + 1, 0, none⟩) 0 4] 83) := ⟨_, rfl⟩
  have E0 := Lib.hid (EdSt.init (q := q) HO0.out HG0.out)
  rw [← hW]
  rw [← hW] at E0
  generalize w0.heap.size = P at *
  clear HO0 HG0 hW w0
  go_wp2_with fail
  go_quiet (fail)
  have E2 := Lib.hid (EdSt.same E0.out (below_drewN (Below.refl _ _) nq))
  generalize W.drewN nq = W2 at *
  clear E0
  obtain ⟨Ao, co, w1, w2⟩ := E2.out.off.cells
  have HC9 := Lib.hid w2
  clear w2
  go_wp2_with (first
    | (go_at_call 89
       refine (HL.out _ _ _ q _ (by omega) (by exact HC9.out)).mono ?_
       rintro e u3 ⟨rfl, hb⟩
       have B3 := Lib.hid (E2.out.bel.trans (hb.mono E2.out.bel.size))
       obtain ⟨r0, r1⟩ := E2.out.res.below hb
       have f0 := (hb.frozen (p := ⟨w.heap.size + 1 + 1, 0, none⟩) (World.block_lt_of_cell? _ _ E2.out.res.c0)).trans E2.out.fr.1
       have f1 := (hb.frozen (p := ⟨w.heap.size + 1 + 1, 1, none⟩) (World.block_lt_of_cell? _ _ E2.out.res.c1)).trans E2.out.fr.2
       clear hb))
  refine bodyPost_ret (v := .agg #[.int .u8 (leastF q 0).1, .int .i64 (leastF q 0).2]) (by simp [results, Try.results86, World.cell?_setCell_other, go_sem, r0, r1]) rfl ⟨rfl, (B3.out.setCell (by simp; omega) _).setCell (by simp; omega) _⟩
end Go.Proofs.Ytcnamfjojdjjgaa
