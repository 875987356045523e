/- Machines with names that come in. -/
import Derived.Test.YtfpombhhnojjhaaOpenX
import Derived.Test.YtfpombhhnojjhaaOpenF
import Derived.OpenShut
import Derived.ShutString
import Derived.ChangeOld
set_option linter.unusedVariables false
namespace Go.Proofs.Ytfpombhhnojjhaa
open Go.ChangeShapes Go.WideShapes Go.RowKit Go.Deep
open Go.ChangeMaps (open_string shut_string)

/-- One that came in. -/
structure KeptIn (w : World) (b : ByteArray) (s l : Int) (A : Option Addr) (n : Nat) (B : Option Addr) (m : Nat) (f : Nat → Int) (g : Nat → Bool) : Prop where
  ca : Cells w A n (fun i => .int .i64 (f i))
  cb : Cells w B m (fun i => .bool (g i))
  nw : b.size ≤ 9223372036854775807
  na : n ≤ 9223372036854775807
  nb : m ≤ 9223372036854775807
set_option maxRecDepth 100000 in
set_option maxHeartbeats 2000000 in
theorem open_kept {H : Type} {enc : TypeId × Value → H} {W : World} {base : Nat} {v : Value} {d : DataW H} {p : List MemPlace} (hv : Value.okWide Try.prog W .any base 60 v)
    (htr : DataW.Trod enc Try.prog W 0 (fun _ => true) true 60 v d p) :
    ∃ (b : ByteArray) (s l : Int) (A : Option Addr) (n c : Nat) (B : Option Addr) (m e : Nat) (f : Nat → Int) (g : Nat → Bool), v = .agg #[.string b, .int .i64 s, .int .i64 l, .slice A n c, .slice B m e] ∧ KeptIn W b s l A n B m f g := by
  obtain ⟨cs, rfl, hsz⟩ := okWide_struct Try.underlying60 hv
  have hsz2 : cs.size = 5 := hsz.trans (by kernel_rfl)
  obtain ⟨v0, v1, v2, v3, v4, rfl⟩ := array_5 hsz2
  obtain ⟨fuel, hf⟩ := htr
  obtain ⟨m0, y0, e0⟩ := part_field Try.underlying60 hf 0 0 1 _ rfl rfl (by kernel_rfl)
  have e0 : DataW.trod enc Try.prog W 0 (fun _ => true) true m0 9 [v0] = some y0 := e0
  obtain ⟨m1, y1, e1⟩ := part_field Try.underlying60 hf 1 1 4 _ rfl rfl (by kernel_rfl)
  have e1 : DataW.trod enc Try.prog W 0 (fun _ => true) true m1 58 [v1, v2, v3, v4] = some y1 := e1
  obtain ⟨b1, hb1⟩ := one_fields Try.underlying58 (by kernel_rfl) e1
  obtain ⟨z1, t1⟩ := hb1 0 _ v1 rfl rfl
  obtain ⟨z2, t2⟩ := hb1 1 _ v2 rfl rfl
  obtain ⟨z3, t3⟩ := hb1 2 _ v3 rfl rfl
  obtain ⟨z4, t4⟩ := hb1 3 _ v4 rfl rfl
  obtain ⟨s, h1, _, _⟩ := DataW.trod_int Try.underlying2 t1
  obtain ⟨l, h2, _, _⟩ := DataW.trod_int Try.underlying2 t2
  obtain ⟨A, n, c, f, rfl, na, ca⟩ := cells_ints Try.underlying22 Try.underlying2 (by kernel_rfl) t3 (fun _ => rfl)
  obtain ⟨B, m, e, g, rfl, nb, cb⟩ := cells_bools Try.underlying56 Try.underlying4 (by kernel_rfl) t4 (fun _ => rfl)
  injection h1 with h1
  injection h2 with h2
  subst h1 h2
  obtain ⟨b, hb, nw⟩ := trod_str Try.underlying9 e0
  subst hb
  exact ⟨b, s, l, A, n, c, B, m, e, f, g, rfl, ca, cb, nw, na, nb⟩
end Go.Proofs.Ytfpombhhnojjhaa
