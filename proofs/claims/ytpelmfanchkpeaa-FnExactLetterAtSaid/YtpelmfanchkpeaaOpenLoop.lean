/- Arguments of the type Loop: opened to the cells of their rows. -/
import Derived.Test.YtpelmfanchkpeaaOpenX
set_option linter.unusedVariables false
namespace Go.Proofs.Ytpelmfanchkpeaa
open Go.ChangeShapes Go.WideShapes Go.RowKit Go.Deep

/-- One that came in. -/
structure LoopIn (w : World) (A : Option Addr) (n : Nat) (B : Option Addr) (m : Nat) (f : Nat → Int) (g : Nat → Int) : Prop where
  ca : Cells w A n (fun i => .int .i64 (f i))
  cb : Cells w B m (fun i => .int .i64 (g i))
  na : n ≤ 9223372036854775807
  nb : m ≤ 9223372036854775807

set_option maxRecDepth 100000 in
theorem open_loop {H : Type} {enc : TypeId × Value → H} {W : World} {base : Nat} {v : Value} {d : DataW H} {p : List MemPlace} (hv : Value.okWide Try.prog W .any base 24 v)
    (htr : DataW.Trod enc Try.prog W 0 (fun _ => true) true 24 v d p) :
    ∃ (A : Option Addr) (n c : Nat) (B : Option Addr) (m d : Nat) (f : Nat → Int) (g : Nat → Int), v = .agg #[.slice A n c, .slice B m d] ∧ LoopIn W A n B m f g := by
  obtain ⟨cs, rfl, hsz, k, hf⟩ := fields_of Try.underlying24 (by kernel_rfl) (by kernel_rfl) hv htr
  obtain ⟨v0, v1, rfl⟩ := array_2 hsz
  obtain ⟨y0, t0⟩ := hf 0 _ v0 rfl rfl
  obtain ⟨y1, t1⟩ := hf 1 _ v1 rfl rfl
  obtain ⟨A, n, c, f, rfl, na, ca⟩ := cells_ints Try.underlying22 Try.underlying2 (by kernel_rfl) t0 (fun _ => rfl)
  obtain ⟨B, m, d, g, rfl, nb, cb⟩ := cells_ints Try.underlying22 Try.underlying2 (by kernel_rfl) t1 (fun _ => rfl)
  exact ⟨A, n, c, B, m, d, f, g, rfl, ca, cb, na, nb⟩
end Go.Proofs.Ytpelmfanchkpeaa
