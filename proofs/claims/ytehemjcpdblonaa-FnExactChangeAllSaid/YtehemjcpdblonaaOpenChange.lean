/- Arguments of the type Change: opened to the cells of their rows. -/
import Derived.Test.YtehemjcpdblonaaOpenX
set_option linter.unusedVariables false
namespace Go.Proofs.Ytehemjcpdblonaa
open Go.ChangeShapes Go.WideShapes Go.RowKit Go.Deep

/-- One that came in. -/
structure ChangeIn (w : World) (A : Option Addr) (n : Nat) (B : Option Addr) (m : Nat) (C : Option Addr) (o : Nat) (D : Option Addr) (p : Nat) (f : Nat → Int) (g : Nat → Int) (h : Nat → Int) (u : Nat → Int) : Prop where
  ca : Cells w A n (fun i => .int .i64 (f i))
  cb : Cells w B m (fun i => .int .i64 (g i))
  cc : Cells w C o (fun i => .int .i64 (h i))
  cd : Cells w D p (fun i => .int .i64 (u i))
  na : n ≤ 9223372036854775807
  nb : m ≤ 9223372036854775807
  nc : o ≤ 9223372036854775807
  nd : p ≤ 9223372036854775807

set_option maxRecDepth 100000 in
theorem open_change {H : Type} {enc : TypeId × Value → H} {W : World} {base : Nat} {v : Value} {d : DataW H} {p : List MemPlace} (hv : Value.okWide Try.prog W .any base 27 v)
    (htr : DataW.Trod enc Try.prog W 0 (fun _ => true) true 27 v d p) :
    ∃ (A : Option Addr) (n c : Nat) (B : Option Addr) (m d : Nat) (C : Option Addr) (o q : Nat) (D : Option Addr) (p t : Nat) (f : Nat → Int) (g : Nat → Int) (h : Nat → Int) (u : Nat → Int), v = .agg #[.slice A n c, .slice B m d, .slice C o q, .slice D p t] ∧ ChangeIn W A n B m C o D p f g h u := by
  obtain ⟨cs, rfl, hsz, k, hf⟩ := fields_of Try.underlying27 (by kernel_rfl) (by kernel_rfl) hv htr
  obtain ⟨v0, v1, v2, v3, rfl⟩ := array_4 hsz
  obtain ⟨y0, t0⟩ := hf 0 _ v0 rfl rfl
  obtain ⟨y1, t1⟩ := hf 1 _ v1 rfl rfl
  obtain ⟨y2, t2⟩ := hf 2 _ v2 rfl rfl
  obtain ⟨y3, t3⟩ := hf 3 _ v3 rfl rfl
  obtain ⟨A, n, c, f, rfl, na, ca⟩ := cells_ints Try.underlying22 Try.underlying2 (by kernel_rfl) t0 (fun _ => rfl)
  obtain ⟨B, m, d, g, rfl, nb, cb⟩ := cells_ints Try.underlying22 Try.underlying2 (by kernel_rfl) t1 (fun _ => rfl)
  obtain ⟨C, o, q, h, rfl, nc, cc⟩ := cells_ints Try.underlying22 Try.underlying2 (by kernel_rfl) t2 (fun _ => rfl)
  obtain ⟨D, p, t, u, rfl, nd, cd⟩ := cells_ints Try.underlying22 Try.underlying2 (by kernel_rfl) t3 (fun _ => rfl)
  exact ⟨A, n, c, B, m, d, C, o, q, D, p, t, f, g, h, u, rfl, ca, cb, cc, cd, na, nb, nc, nd⟩
end Go.Proofs.Ytehemjcpdblonaa
