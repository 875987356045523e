/- Arguments that are models: opened to the cells of their rows. -/
import Derived.Test.YtikgnpajjbjkcaaChecked
import Derived.Test.YtikgnpajjbjkcaaCells
import Derived.Test.YtikgnpajjbjkcaaRowk
import Derived.Lib.SmallJoins
import Derived.ChangeArms
import Derived.ChangeSlices
import Derived.Deep.Fields
import Derived.Test.YtikgnpajjbjkcaaPlainA
set_option linter.unusedVariables false
namespace Go.Proofs.Ytikgnpajjbjkcaa
open Go.ChangeShapes Go.WideShapes Go.RowKit Go.Deep

/-- A struct of one-cell fields, by value: each field's own reading. -/
theorem fields_of {H : Type} {enc : TypeId × Value → H} {P : Program} {w : World} {base : Nat} {spare : Nat → Bool} {held : Bool} {r : Reach} {b0 : Nat} {t : TypeId} {fs : Array Field} {v : Value} {d : DataW H} {p : List MemPlace}
    (hs : P.underlying t = some (.struct fs)) (hone : oneCellFields P fs = true) (hC : P.cellsOf t = fs.size) (hv : Value.okWide P w r b0 t v) (h : DataW.Trod enc P w base spare held t v d p) :
    ∃ cs : Array Value, v = .agg cs ∧ cs.size = fs.size ∧ ∃ n, ∀ (j : Nat) (f : Field) (u : Value), fs[j]? = some f → cs[j]? = some u → ∃ y, DataW.trod enc P w base spare held n f.type [u] = some y := by
  obtain ⟨cs, rfl, hsz⟩ := okWide_struct hs hv
  refine ⟨cs, rfl, hsz.trans hC, ?_⟩
  obtain ⟨fuel, hf⟩ := h
  obtain ⟨xs, n, _, hx, _, hlen, hg⟩ := DataW.trod_struct hs hf
  refine ⟨n, fun j f u hj hu => ?_⟩
  obtain ⟨ho, hk⟩ := hone_of hone j f hj
  have h1 := hg j f hj
  rw [ho, hk] at h1
  have hjl : j < cs.size := (Array.getElem?_eq_some_iff.1 hu).1
  have hxl : j < xs.length := by rw [hlen, ← hC, ← hsz]; exact hjl
  have hc : ((Value.agg cs).cells.toList.drop j).take 1 = [u] := by
    have hl : (Value.agg cs).cells.toList = cs.toList := by simp [Value.cells]
    rw [hl, List.drop_eq_getElem_cons (by simpa using hjl)]
    have : cs.toList[j]'(by simpa using hjl) = u := by simpa using (Array.getElem?_eq_some_iff.1 hu).2
    simp [this]
  rw [hc, List.getElem?_eq_getElem hxl] at h1
  exact ⟨_, h1⟩

/-- A slice of floats: its cells. -/
theorem cells_floats {H : Type} {enc : TypeId × Value → H} {P : Program} {w : World} {base : Nat} {spare : Nat → Bool} {held : Bool} {t e : TypeId} {fuel : Nat} {v : Value} {x : DataW H × List MemPlace}
    (ht : P.underlying t = some (.slice e)) (he : P.underlying e = some (.float .f32)) (hc : P.cellsOf e = 1) (h : DataW.trod enc P w base spare held fuel t [v] = some x) (hs : ∀ n, spare n = true) :
    ∃ (A : Option Addr) (n c : Nat) (f : Nat → Nat), v = .slice A n c ∧ n ≤ 9223372036854775807 ∧ Cells w A n (fun i => .float .f32 (f i)) ∧ ∀ i, f i < 4294967296 := by
  rcases open_floats ht he hc h with ⟨hcs, _⟩ | ⟨a, len, cap, zs, hcs, _, hl, hm, hz, _, hcell, hwf⟩
  · injection hcs with h1
    subst h1
    exact ⟨none, 0, 0, fun _ => 0, rfl, by omega, Cells.zero, fun _ => (by decide : 0 < 4294967296)⟩
  · injection hcs with h1
    subst h1
    rw [hs] at hz
    refine ⟨some a, len, cap, fun i => zs.getD i 0, rfl, by unfold maxLen at hm; omega, fun k hk => ⟨a, rfl, hcell k (by simp at hz; omega)⟩, fun i => ?_⟩
    show zs.getD i 0 < 4294967296
    unfold List.getD
    cases h : zs[i]? with
    | none => simp
    | some u => exact lt_of_wf32 (hwf u (List.mem_of_getElem? h))

/-- A model that came in. -/
structure ModelIn (w : World) (s l : Int) (A : Option Addr) (n : Nat) (B : Option Addr) (m : Nat) (C : Option Addr) (o : Nat) (f g h : Nat → Nat) : Prop where
  ca : Cells w A n (fun i => .float .f32 (f i))
  cb : Cells w B m (fun i => .float .f32 (g i))
  cc : Cells w C o (fun i => .float .f32 (h i))
  na : n ≤ 9223372036854775807
  nb : m ≤ 9223372036854775807
  nc : o ≤ 9223372036854775807
  ws : (Lit.int .i64 s).wf = true
  wl : (Lit.int .i64 l).wf = true
  fa : ∀ i, f i < 4294967296
  fb : ∀ i, g i < 4294967296
  fc : ∀ i, h i < 4294967296

theorem array_five {cs : Array Value} (h : cs.size = 5) : ∃ a b c d e, cs = #[a, b, c, d, e] := by
  obtain ⟨l⟩ := cs
  match l, h with
  | [a, b, c, d, e], _ => exact ⟨a, b, c, d, e, rfl⟩

set_option maxRecDepth 100000 in
theorem open_model {H : Type} {enc : TypeId × Value → H} {W : World} {base : Nat} {v : Value} {d : DataW H} {p : List MemPlace} (hv : Value.okWide Try.prog W .any base 24 v)
    (h : DataW.Trod enc Try.prog W 0 (fun _ => true) true 24 v d p) :
    ∃ (s l : Int) (A : Option Addr) (n c : Nat) (B : Option Addr) (m e : Nat) (C : Option Addr) (o i : Nat) (f g u : Nat → Nat), v = .agg #[.int .i64 s, .int .i64 l, .slice A n c, .slice B m e, .slice C o i] ∧ ModelIn W s l A n B m C o f g u := by
  obtain ⟨cs, rfl, hsz, k, hf⟩ := fields_of Try.underlying24 (by kernel_rfl) (by kernel_rfl) hv h
  obtain ⟨v0, v1, v2, v3, v4, rfl⟩ := array_five hsz
  obtain ⟨y0, t0⟩ := hf 0 _ v0 rfl rfl
  obtain ⟨y1, t1⟩ := hf 1 _ v1 rfl rfl
  obtain ⟨y2, t2⟩ := hf 2 _ v2 rfl rfl
  obtain ⟨y3, t3⟩ := hf 3 _ v3 rfl rfl
  obtain ⟨y4, t4⟩ := hf 4 _ v4 rfl rfl
  obtain ⟨s, h0, _, ws⟩ := DataW.trod_int Try.underlying2 t0
  obtain ⟨l, h1, _, wl⟩ := DataW.trod_int Try.underlying2 t1
  obtain ⟨A, n, c, f, rfl, na, ca, fa⟩ := cells_floats Try.underlying22 Try.underlying36 (by kernel_rfl) t2 (fun _ => rfl)
  obtain ⟨B, m, e, g, rfl, nb, cb, fb⟩ := cells_floats Try.underlying22 Try.underlying36 (by kernel_rfl) t3 (fun _ => rfl)
  obtain ⟨C, o, i, u, rfl, nc, cc, fc⟩ := cells_floats Try.underlying22 Try.underlying36 (by kernel_rfl) t4 (fun _ => rfl)
  injection h0 with h0
  injection h1 with h1
  subst h0 h1
  exact ⟨s, l, A, n, c, B, m, e, C, o, i, f, g, u, rfl, ca, cb, cc, na, nb, nc, ws, wl, fa, fb, fc⟩
end Go.Proofs.Ytikgnpajjbjkcaa
