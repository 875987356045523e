/- Arguments of the type Grammar: opened to the cells of their rows. -/
import Derived.Test.YtofpaolmfcdokaaOpenX
set_option linter.unusedVariables false
namespace Go.Proofs.Ytofpaolmfcdokaa
open Go.ChangeShapes Go.WideShapes Go.RowKit Go.Deep

/-- One that came in. -/
structure GrammarIn (w : World) (s l : Int) (A : Option Addr) (n : Nat) (f : Nat → Int) : Prop where
  ca : Cells w A (n * 4) (fun i => .int .i64 (f i))
  na : n ≤ 9223372036854775807
  ws : (Lit.int .i64 s).wf = true
  wl : (Lit.int .i64 l).wf = true

set_option maxRecDepth 100000 in
theorem open_grammar {H : Type} {enc : TypeId × Value → H} {W : World} {base : Nat} {v : Value} {d : DataW H} {p : List MemPlace} (hv : Value.okWide Try.prog W .any base 24 v)
    (htr : DataW.Trod enc Try.prog W 0 (fun _ => true) true 24 v d p) :
    ∃ (s l : Int) (A : Option Addr) (n c : Nat) (f : Nat → Int), v = .agg #[.int .i64 s, .int .i64 l, .slice A n c] ∧ GrammarIn W s l A n f := by
  obtain ⟨cs, rfl, hsz, k, hf⟩ := fields_of Try.underlying24 (by kernel_rfl) (by kernel_rfl) hv htr
  obtain ⟨v0, v1, v2, rfl⟩ := array_3 hsz
  obtain ⟨y0, t0⟩ := hf 0 _ v0 rfl rfl
  obtain ⟨y1, t1⟩ := hf 1 _ v1 rfl rfl
  obtain ⟨y2, t2⟩ := hf 2 _ v2 rfl rfl
  obtain ⟨s, h0, _, ws⟩ := DataW.trod_int Try.underlying2 t0
  obtain ⟨l, h1, _, wl⟩ := DataW.trod_int Try.underlying2 t1
  obtain ⟨A, n, c, f, rfl, na, ca⟩ := cells_quads Try.underlying22 Try.underlying122 (by kernel_rfl) (by kernel_rfl) (by kernel_rfl) (by
    intro j f hj
    have hj4 : j < 4 := (Array.getElem?_eq_some_iff.1 hj).1
    have : j = 0 ∨ j = 1 ∨ j = 2 ∨ j = 3 := by omega
    rcases this with rfl | rfl | rfl | rfl <;> (cases hj; exact Try.underlying2)) t2 (fun _ => rfl)
  injection h0 with h0
  injection h1 with h1
  subst h0 h1
  exact ⟨s, l, A, n, c, f, rfl, ca, na, ws, wl⟩
end Go.Proofs.Ytofpaolmfcdokaa
