/- Arguments of the type Zone: opened to the cells of their rows. -/
import Derived.Test.YtfpombhhnojjhaaOpenX
set_option linter.unusedVariables false
namespace Go.Proofs.Ytfpombhhnojjhaa
open Go.ChangeShapes Go.WideShapes Go.RowKit Go.Deep

/-- One that came in. -/
structure ZoneIn (w : World) (s : Int) (A : Option Addr) (n : Nat) (f : Nat → Int) : Prop where
  ca : Cells w A n (fun i => .int .i64 (f i))
  na : n ≤ 9223372036854775807
  ws : (Lit.int .i64 s).wf = true

set_option maxRecDepth 100000 in
theorem open_zone {H : Type} {enc : TypeId × Value → H} {W : World} {base : Nat} {v : Value} {d : DataW H} {p : List MemPlace} (hv : Value.okWide Try.prog W .any base 34 v)
    (htr : DataW.Trod enc Try.prog W 0 (fun _ => true) true 34 v d p) :
    ∃ (s : Int) (A : Option Addr) (n c : Nat) (f : Nat → Int), v = .agg #[.int .i64 s, .slice A n c] ∧ ZoneIn W s A n f := by
  obtain ⟨cs, rfl, hsz, k, hf⟩ := fields_of Try.underlying34 (by kernel_rfl) (by kernel_rfl) hv htr
  obtain ⟨v0, v1, rfl⟩ := array_2 hsz
  obtain ⟨y0, t0⟩ := hf 0 _ v0 rfl rfl
  obtain ⟨y1, t1⟩ := hf 1 _ v1 rfl rfl
  obtain ⟨s, h0, _, ws⟩ := DataW.trod_int Try.underlying2 t0
  obtain ⟨A, n, c, f, rfl, na, ca⟩ := cells_ints Try.underlying22 Try.underlying2 (by kernel_rfl) t1 (fun _ => rfl)
  injection h0 with h0
  subst h0
  exact ⟨s, A, n, c, f, rfl, ca, na, ws⟩
end Go.Proofs.Ytfpombhhnojjhaa
