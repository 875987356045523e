/- Arguments that are plain machines: opened to the cells of their rows. -/
import Derived.Test.YtgkmdbbdfjgggaaChecked
import Derived.Test.YtgkmdbbdfjgggaaCells
import Derived.Test.YtgkmdbbdfjgggaaRowk
import Derived.Lib.SmallJoins
import Derived.ChangeArms
import Derived.ChangeSlices
set_option linter.unusedVariables false
namespace Go.Proofs.Ytgkmdbbdfjgggaa
open Go.ChangeShapes Go.WideShapes Go.RowKit Go.Deep

theorem cells_ints {H : Type} {enc : TypeId × Value → H} {P : Program} {w : World} {base : Nat} {spare : Nat → Bool} {held : Bool} {t e : TypeId} {fuel : Nat} {v : Value} {x : DataW H × List MemPlace}
    (ht : P.underlying t = some (.slice e)) (he : P.underlying e = some (.int .i64)) (hc : P.cellsOf e = 1) (h : DataW.trod enc P w base spare held fuel t [v] = some x) (hs : ∀ n, spare n = true) :
    ∃ (A : Option Addr) (n c : Nat) (f : Nat → Int), v = .slice A n c ∧ n ≤ 9223372036854775807 ∧ Cells w A n (fun i => .int .i64 (f i)) := by
  rcases open_ints ht he hc h with ⟨hcs, _⟩ | ⟨a, len, cap, zs, hcs, _, hl, hm, hz, _, hcell, _⟩
  · injection hcs with h1
    subst h1
    exact ⟨none, 0, 0, fun _ => 0, rfl, by omega, Cells.zero⟩
  · injection hcs with h1
    subst h1
    rw [hs] at hz
    exact ⟨some a, len, cap, fun i => zs.getD i 0, rfl, by unfold maxLen at hm; omega, fun k hk => ⟨a, rfl, hcell k (by simp at hz; omega)⟩⟩

theorem cells_bools {H : Type} {enc : TypeId × Value → H} {P : Program} {w : World} {base : Nat} {spare : Nat → Bool} {held : Bool} {t e : TypeId} {fuel : Nat} {v : Value} {x : DataW H × List MemPlace}
    (ht : P.underlying t = some (.slice e)) (he : P.underlying e = some .bool) (hc : P.cellsOf e = 1) (h : DataW.trod enc P w base spare held fuel t [v] = some x) (hs : ∀ n, spare n = true) :
    ∃ (A : Option Addr) (n c : Nat) (f : Nat → Bool), v = .slice A n c ∧ n ≤ 9223372036854775807 ∧ Cells w A n (fun i => .bool (f i)) := by
  rcases open_slice1 ht hc h with ⟨hcs, _⟩ | ⟨a, len, cap, m, n, V, D, Pl, hcs, _, hl, hm, hz, _, h7⟩
  · injection hcs with h1
    subst h1
    exact ⟨none, 0, 0, fun _ => false, rfl, by omega, Cells.zero⟩
  · injection hcs with h1
    subst h1
    rw [hs] at hz
    have each : ∀ i, i < m → ∃ b : Bool, V i = .bool b := by
      intro i hi
      obtain ⟨b, hb, _⟩ := DataW.trod_bool he (h7 i hi).2
      exact ⟨b, by injection hb⟩
    obtain ⟨f, hf⟩ := choose_lt each
    exact ⟨some a, len, cap, f, rfl, by unfold maxLen at hm; omega, fun k hk => ⟨a, rfl, by rw [(h7 k (by simp at hz; omega)).1, hf k (by simp at hz; omega)]⟩⟩

/-- A plain machine that came in. -/
structure PlainIn (w : World) (s l : Int) (A : Option Addr) (n : Nat) (B : Option Addr) (m : Nat) (f : Nat → Int) (g : Nat → Bool) : Prop where
  ca : Cells w A n (fun i => .int .i64 (f i))
  cb : Cells w B m (fun i => .bool (g i))
  na : n ≤ 9223372036854775807
  nb : m ≤ 9223372036854775807
  ws : (Lit.int .i64 s).wf = true
  wl : (Lit.int .i64 l).wf = true

set_option maxRecDepth 100000 in
theorem open_plain {H : Type} {enc : TypeId × Value → H} {W : World} {base : Nat} {v : Value} {d : DataW H} {p : List MemPlace} (hv : Value.okWide Try.prog W .any base 25 v)
    (h : DataW.Trod enc Try.prog W 0 (fun _ => true) true 25 v d p) :
    ∃ (s l : Int) (A : Option Addr) (n c : Nat) (B : Option Addr) (m e : Nat) (f : Nat → Int) (g : Nat → Bool), v = .agg #[.int .i64 s, .int .i64 l, .slice A n c, .slice B m e] ∧ PlainIn W s l A n B m f g := by
  obtain ⟨v0, v1, v2, v3, y0, y1, y2, y3, k, rfl, _, _, t0, t1, t2, t3⟩ := Go.Joins.open_agg4 Try.underlying25 (by kernel_rfl) (by kernel_rfl) hv h
  obtain ⟨s, h0, _, ws⟩ := DataW.trod_int Try.underlying2 t0
  obtain ⟨l, h1, _, wl⟩ := DataW.trod_int Try.underlying2 t1
  obtain ⟨A, n, c, f, rfl, na, ca⟩ := cells_ints Try.underlying22 Try.underlying2 (by kernel_rfl) t2 (fun _ => rfl)
  obtain ⟨B, m, e, g, rfl, nb, cb⟩ := cells_bools Try.underlying23 Try.underlying4 (by kernel_rfl) t3 (fun _ => rfl)
  injection h0 with h0
  injection h1 with h1
  subst h0 h1
  exact ⟨s, l, A, n, c, B, m, e, f, g, rfl, ca, cb, na, nb, ws, wl⟩
end Go.Proofs.Ytgkmdbbdfjgggaa
