/- Arguments of the type TreeMachine: opened to the cells of their rows. -/
import Derived.Test.YtgbiablibfbilaaOpenX
set_option linter.unusedVariables false
namespace Go.Proofs.Ytgbiablibfbilaa
open Go.ChangeShapes Go.WideShapes Go.RowKit Go.Deep

/-- One that came in. -/
structure TreeMachineIn (w : World) (s l : Int) (A : Option Addr) (n : Nat) (B : Option Addr) (m : Nat) (C : Option Addr) (o : Nat) (f : Nat → Int) (g : Nat → Int) (h : Nat → Bool) : Prop where
  ca : Cells w A n (fun i => .int .i64 (f i))
  cb : Cells w B m (fun i => .int .i64 (g i))
  cc : Cells w C o (fun i => .bool (h i))
  na : n ≤ 9223372036854775807
  nb : m ≤ 9223372036854775807
  nc : o ≤ 9223372036854775807
  ws : (Lit.int .i64 s).wf = true
  wl : (Lit.int .i64 l).wf = true

set_option maxRecDepth 100000 in
theorem open_trees {H : Type} {enc : TypeId × Value → H} {W : World} {base : Nat} {v : Value} {d : DataW H} {p : List MemPlace} (hv : Value.okWide Try.prog W .any base 25 v)
    (htr : DataW.Trod enc Try.prog W 0 (fun _ => true) true 25 v d p) :
    ∃ (s l : Int) (A : Option Addr) (n c : Nat) (B : Option Addr) (m d : Nat) (C : Option Addr) (o q : Nat) (f : Nat → Int) (g : Nat → Int) (h : Nat → Bool), v = .agg #[.int .i64 s, .int .i64 l, .slice A n c, .slice B m d, .slice C o q] ∧ TreeMachineIn W s l A n B m C o f g h := by
  obtain ⟨cs, rfl, hsz, k, hf⟩ := fields_of Try.underlying25 (by kernel_rfl) (by kernel_rfl) hv htr
  obtain ⟨v0, v1, v2, v3, v4, rfl⟩ := array_5 hsz
  obtain ⟨y0, t0⟩ := hf 0 _ v0 rfl rfl
  obtain ⟨y1, t1⟩ := hf 1 _ v1 rfl rfl
  obtain ⟨y2, t2⟩ := hf 2 _ v2 rfl rfl
  obtain ⟨y3, t3⟩ := hf 3 _ v3 rfl rfl
  obtain ⟨y4, t4⟩ := hf 4 _ v4 rfl rfl
  obtain ⟨s, h0, _, ws⟩ := DataW.trod_int Try.underlying2 t0
  obtain ⟨l, h1, _, wl⟩ := DataW.trod_int Try.underlying2 t1
  obtain ⟨A, n, c, f, rfl, na, ca⟩ := cells_ints Try.underlying22 Try.underlying2 (by kernel_rfl) t2 (fun _ => rfl)
  obtain ⟨B, m, d, g, rfl, nb, cb⟩ := cells_ints Try.underlying22 Try.underlying2 (by kernel_rfl) t3 (fun _ => rfl)
  obtain ⟨C, o, q, h, rfl, nc, cc⟩ := cells_bools Try.underlying23 Try.underlying4 (by kernel_rfl) t4 (fun _ => rfl)
  injection h0 with h0
  injection h1 with h1
  subst h0 h1
  exact ⟨s, l, A, n, c, B, m, d, C, o, q, f, g, h, rfl, ca, cb, cc, na, nb, nc, ws, wl⟩
end Go.Proofs.Ytgbiablibfbilaa
