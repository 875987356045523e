/- Desks that come in: opened to the cells of their rows. -/
import Derived.Test.YteagfbedbbnomaaOpenX
set_option linter.unusedVariables false
namespace Go.Proofs.Yteagfbedbbnomaa
open Go.ChangeShapes Go.WideShapes Go.RowKit Go.Deep

/-- One that came in. -/
structure DeskIn (w : World) (s1 l1 s2 l2 s3 l3 : Int) (A1 : Option Addr) (n1 : Nat) (A2 : Option Addr) (n2 : Nat) (A3 : Option Addr) (n3 : Nat) (A4 : Option Addr) (n4 : Nat) (A5 : Option Addr) (n5 : Nat) (A6 : Option Addr) (n6 : Nat) (A7 : Option Addr) (n7 : Nat) (f1 f2 f3 f4 : Nat → Int) (f5 : Nat → Bool) (f6 f7 : Nat → Int) : Prop where
  ca1 : Cells w A1 (n1 * 4) (fun i => .int .i64 (f1 i))
  ca2 : Cells w A2 n2 (fun i => .int .i64 (f2 i))
  ca3 : Cells w A3 n3 (fun i => .int .i64 (f3 i))
  ca4 : Cells w A4 n4 (fun i => .int .i64 (f4 i))
  ca5 : Cells w A5 n5 (fun i => .bool (f5 i))
  ca6 : Cells w A6 (n6 * 4) (fun i => .int .i64 (f6 i))
  ca7 : Cells w A7 n7 (fun i => .int .i64 (f7 i))
  na1 : n1 ≤ 9223372036854775807
  na2 : n2 ≤ 9223372036854775807
  na3 : n3 ≤ 9223372036854775807
  na4 : n4 ≤ 9223372036854775807
  na5 : n5 ≤ 9223372036854775807
  na6 : n6 ≤ 9223372036854775807
  na7 : n7 ≤ 9223372036854775807
theorem one_fields {H : Type} {enc : TypeId × Value → H} {P : Program} {w : World} {base : Nat} {spare : Nat → Bool} {held : Bool} {t : TypeId} {fs : Array Field} {fuel : Nat} {cs : List Value} {x : DataW H × List MemPlace}
    (ht : P.underlying t = some (.struct fs)) (hone : oneCellFields P fs = true) (h : DataW.trod enc P w base spare held fuel t cs = some x) :
    ∃ n, ∀ (j : Nat) (f : Field) (u : Value), fs[j]? = some f → cs[j]? = some u → ∃ y, DataW.trod enc P w base spare held n f.type [u] = some y := by
  obtain ⟨xs, n, _, _, hl, hlen, hf⟩ := DataW.trod_struct ht h
  refine ⟨n, fun j f u hj hu => ?_⟩
  obtain ⟨ho, hk⟩ := hone_of hone j f hj
  have h1 := hf j f hj
  rw [ho, hk] at h1
  have hjl : j < cs.length := (List.getElem?_eq_some_iff.1 hu).1
  have hjf : j < fs.size := (Array.getElem?_eq_some_iff.1 hj).1
  rw [List.drop_eq_getElem_cons hjl, show cs[j] = u from (List.getElem?_eq_some_iff.1 hu).2] at h1
  rw [List.getElem?_eq_getElem (by omega : j < xs.length)] at h1
  exact ⟨_, by simpa using h1⟩
theorem array_13 {cs : Array Value} (h : cs.size = 13) : ∃ v0 v1 v2 v3 v4 v5 v6 v7 v8 v9 v10 v11 v12, cs = #[v0, v1, v2, v3, v4, v5, v6, v7, v8, v9, v10, v11, v12] := by
  obtain ⟨l⟩ := cs
  match l, h with
  | [v0, v1, v2, v3, v4, v5, v6, v7, v8, v9, v10, v11, v12], _ => exact ⟨v0, v1, v2, v3, v4, v5, v6, v7, v8, v9, v10, v11, v12, rfl⟩
/-- One field of several cells. -/
theorem part_field {H : Type} {enc : TypeId × Value → H} {P : Program} {w : World} {base : Nat} {spare : Nat → Bool} {held : Bool} {t : TypeId} {fs : Array Field} {fuel : Nat} {cs : List Value} {x : DataW H × List MemPlace}
    (ht : P.underlying t = some (.struct fs)) (h : DataW.trod enc P w base spare held fuel t cs = some x) (j o k : Nat) (f : Field) (hj : fs[j]? = some f) (ho : f.offset = o) (hk : P.cellsOf f.type = k) :
    ∃ n y, DataW.trod enc P w base spare held n f.type ((cs.drop o).take k) = some y := by
  obtain ⟨xs, n, _, _, hl, hlen, hf⟩ := DataW.trod_struct ht h
  have h1 := hf j f hj
  have hjf : j < fs.size := (Array.getElem?_eq_some_iff.1 hj).1
  rw [ho, hk, List.getElem?_eq_getElem (by omega : j < xs.length)] at h1
  exact ⟨n, _, h1⟩
set_option maxRecDepth 100000 in
set_option maxHeartbeats 2000000 in
theorem open_desk {H : Type} {enc : TypeId × Value → H} {W : World} {base : Nat} {v : Value} {d : DataW H} {p : List MemPlace} (hv : Value.okWide Try.prog W .any base 33 v)
    (htr : DataW.Trod enc Try.prog W 0 (fun _ => true) true 33 v d p) :
    ∃ (s1 l1 s2 l2 s3 l3 : Int) (A1 : Option Addr) (n1 c1 : Nat) (A2 : Option Addr) (n2 c2 : Nat) (A3 : Option Addr) (n3 c3 : Nat) (A4 : Option Addr) (n4 c4 : Nat) (A5 : Option Addr) (n5 c5 : Nat) (A6 : Option Addr) (n6 c6 : Nat) (A7 : Option Addr) (n7 c7 : Nat) (f1 f2 f3 f4 : Nat → Int) (f5 : Nat → Bool) (f6 f7 : Nat → Int), v = .agg #[.int .i64 s1, .int .i64 l1, .slice A1 n1 c1, .slice A2 n2 c2, .slice A3 n3 c3, .int .i64 s2, .int .i64 l2, .slice A4 n4 c4, .slice A5 n5 c5, .int .i64 s3, .int .i64 l3, .slice A6 n6 c6, .slice A7 n7 c7] ∧ DeskIn W s1 l1 s2 l2 s3 l3 A1 n1 A2 n2 A3 n3 A4 n4 A5 n5 A6 n6 A7 n7 f1 f2 f3 f4 f5 f6 f7 := by
  obtain ⟨cs, rfl, hsz⟩ := okWide_struct Try.underlying33 hv
  have hsz2 : cs.size = 13 := hsz.trans (by kernel_rfl)
  obtain ⟨v0, v1, v2, v3, v4, v5, v6, v7, v8, v9, v10, v11, v12, rfl⟩ := array_13 hsz2
  obtain ⟨fuel, hf⟩ := htr
  obtain ⟨m0, y0, e0⟩ := part_field Try.underlying33 hf 0 0 5 _ rfl rfl (by kernel_rfl)
  have e0 : DataW.trod enc Try.prog W 0 (fun _ => true) true m0 25 [v0, v1, v2, v3, v4] = some y0 := e0
  obtain ⟨b0, hb0⟩ := one_fields Try.underlying25 (by kernel_rfl) e0
  obtain ⟨z0, t0⟩ := hb0 0 _ v0 rfl rfl
  obtain ⟨z1, t1⟩ := hb0 1 _ v1 rfl rfl
  obtain ⟨z2, t2⟩ := hb0 2 _ v2 rfl rfl
  obtain ⟨z3, t3⟩ := hb0 3 _ v3 rfl rfl
  obtain ⟨z4, t4⟩ := hb0 4 _ v4 rfl rfl
  obtain ⟨m1, y1, e1⟩ := part_field Try.underlying33 hf 1 5 4 _ rfl rfl (by kernel_rfl)
  have e1 : DataW.trod enc Try.prog W 0 (fun _ => true) true m1 28 [v5, v6, v7, v8] = some y1 := e1
  obtain ⟨b1, hb1⟩ := one_fields Try.underlying28 (by kernel_rfl) e1
  obtain ⟨z5, t5⟩ := hb1 0 _ v5 rfl rfl
  obtain ⟨z6, t6⟩ := hb1 1 _ v6 rfl rfl
  obtain ⟨z7, t7⟩ := hb1 2 _ v7 rfl rfl
  obtain ⟨z8, t8⟩ := hb1 3 _ v8 rfl rfl
  obtain ⟨m2, y2, e2⟩ := part_field Try.underlying33 hf 2 9 3 _ rfl rfl (by kernel_rfl)
  have e2 : DataW.trod enc Try.prog W 0 (fun _ => true) true m2 31 [v9, v10, v11] = some y2 := e2
  obtain ⟨b2, hb2⟩ := one_fields Try.underlying31 (by kernel_rfl) e2
  obtain ⟨z9, t9⟩ := hb2 0 _ v9 rfl rfl
  obtain ⟨z10, t10⟩ := hb2 1 _ v10 rfl rfl
  obtain ⟨z11, t11⟩ := hb2 2 _ v11 rfl rfl
  obtain ⟨m3, z12, e3⟩ := part_field Try.underlying33 hf 3 12 1 _ rfl rfl (by kernel_rfl)
  have t12 : DataW.trod enc Try.prog W 0 (fun _ => true) true m3 23 [v12] = some z12 := e3
  obtain ⟨s1, h0, _, _⟩ := DataW.trod_int Try.underlying2 t0
  obtain ⟨l1, h1, _, _⟩ := DataW.trod_int Try.underlying2 t1
  obtain ⟨s2, h5, _, _⟩ := DataW.trod_int Try.underlying2 t5
  obtain ⟨l2, h6, _, _⟩ := DataW.trod_int Try.underlying2 t6
  obtain ⟨s3, h9, _, _⟩ := DataW.trod_int Try.underlying2 t9
  obtain ⟨l3, h10, _, _⟩ := DataW.trod_int Try.underlying2 t10
  obtain ⟨A1, n1, c1, f1, rfl, na1, ca1⟩ := cells_quads Try.underlying22 Try.underlying103 (by kernel_rfl) (by kernel_rfl) (by kernel_rfl) (by
    intro j f hj
    have hj4 : j < 4 := (Array.getElem?_eq_some_iff.1 hj).1
    have : j = 0 ∨ j = 1 ∨ j = 2 ∨ j = 3 := by omega
    rcases this with rfl | rfl | rfl | rfl <;> (cases hj; exact Try.underlying2)) t2 (fun _ => rfl)
  obtain ⟨A2, n2, c2, f2, rfl, na2, ca2⟩ := cells_ints Try.underlying23 Try.underlying2 (by kernel_rfl) t3 (fun _ => rfl)
  obtain ⟨A3, n3, c3, f3, rfl, na3, ca3⟩ := cells_ints Try.underlying23 Try.underlying2 (by kernel_rfl) t4 (fun _ => rfl)
  obtain ⟨A4, n4, c4, f4, rfl, na4, ca4⟩ := cells_ints Try.underlying23 Try.underlying2 (by kernel_rfl) t7 (fun _ => rfl)
  obtain ⟨A5, n5, c5, f5, rfl, na5, ca5⟩ := cells_bools Try.underlying26 Try.underlying4 (by kernel_rfl) t8 (fun _ => rfl)
  obtain ⟨A6, n6, c6, f6, rfl, na6, ca6⟩ := cells_quads Try.underlying29 Try.underlying105 (by kernel_rfl) (by kernel_rfl) (by kernel_rfl) (by
    intro j f hj
    have hj4 : j < 4 := (Array.getElem?_eq_some_iff.1 hj).1
    have : j = 0 ∨ j = 1 ∨ j = 2 ∨ j = 3 := by omega
    rcases this with rfl | rfl | rfl | rfl <;> (cases hj; exact Try.underlying2)) t11 (fun _ => rfl)
  obtain ⟨A7, n7, c7, f7, rfl, na7, ca7⟩ := cells_ints Try.underlying23 Try.underlying2 (by kernel_rfl) t12 (fun _ => rfl)
  injection h0 with h0
  injection h1 with h1
  injection h5 with h5
  injection h6 with h6
  injection h9 with h9
  injection h10 with h10
  subst h0 h1 h5 h6 h9 h10
  exact ⟨s1, l1, s2, l2, s3, l3, A1, n1, c1, A2, n2, c2, A3, n3, c3, A4, n4, c4, A5, n5, c5, A6, n6, c6, A7, n7, c7, f1, f2, f3, f4, f5, f6, f7, rfl, ca1, ca2, ca3, ca4, ca5, ca6, ca7, na1, na2, na3, na4, na5, na6, na7⟩
end Go.Proofs.Yteagfbedbbnomaa
