/- Games that come in: opened to the cells of their rows. -/
import Derived.Test.YtfpombhhnojjhaaOpenX
import Derived.Test.YtfpombhhnojjhaaRR
set_option linter.unusedVariables false
namespace Go.Proofs.Ytfpombhhnojjhaa
open Go.ChangeShapes Go.WideShapes Go.RowKit Go.Deep
theorem cells_rows {H : Type} {enc : TypeId × Value → H} {P : Program} {w : World} {base : Nat} {spare : Nat → Bool} {held : Bool} {t e i : TypeId} {fuel : Nat} {v : Value} {x : DataW H × List MemPlace}
    (ht : P.underlying t = some (.slice e)) (he : P.underlying e = some (.slice i)) (hi : P.underlying i = some (.int .i64)) (hc : P.cellsOf e = 1) (hci : P.cellsOf i = 1) (h : DataW.trod enc P w base spare held fuel t [v] = some x) (hs : ∀ n, spare n = true) :
    ∃ (A : Option Addr) (n c : Nat) (Q : Nat → Option Addr) (L K : Nat → Nat) (F : Nat → Nat → Int), v = .slice A n c ∧ n ≤ 9223372036854775807 ∧ (∀ k, k < n → L k ≤ 9223372036854775807) ∧ RRows w A n Q L K F := by
  rcases open_slice1 ht hc h with ⟨hcs, _⟩ | ⟨a, len, cap, m, n, V, D, Pl, hcs, _, hl, hm, hz, _, h7⟩
  · injection hcs with h1
    subst h1
    exact ⟨none, 0, 0, fun _ => none, fun _ => 0, fun _ => 0, fun _ _ => 0, rfl, by omega, fun k hk => by omega, ⟨Cells.zero, fun k hk => by omega⟩⟩
  · injection hcs with h1
    subst h1
    rw [hs] at hz
    have each : ∀ k, k < m → ∃ b : Option Addr × Nat × Nat × (Nat → Int), V k = .slice b.1 b.2.1 b.2.2.1 ∧ b.2.1 ≤ 9223372036854775807 ∧ Cells w b.1 b.2.1 (fun j => .int .i64 (b.2.2.2 j)) := by
      intro k hk
      obtain ⟨A, n', c', f, h1, h2, h3⟩ := cells_ints he hi hci (h7 k hk).2 hs
      exact ⟨(A, n', c', f), h1, h2, h3⟩
    obtain ⟨f, hf⟩ := choose_lt each
    refine ⟨some a, len, cap, fun k => (f k).1, fun k => (f k).2.1, fun k => (f k).2.2.1, fun k => (f k).2.2.2, rfl, by unfold maxLen at hm; omega, fun k hk => (hf k (by simp at hz; omega)).2.1, ⟨fun k hk => ⟨a, rfl, ?_⟩, fun k hk => (hf k (by simp at hz; omega)).2.2⟩⟩
    rw [(h7 k (by simp at hz; omega)).1, (hf k (by simp at hz; omega)).1]
/-- One that came in. -/
structure GameIn (w : World) (A : Option Addr) (n : Nat) (B : Option Addr) (m : Nat) (C : Option Addr) (o : Nat) (P : Nat → Option Addr) (L K : Nat → Nat) (f g : Nat → Int) (F : Nat → Nat → Int) : Prop where
  ca : Cells w A n (fun i => .int .i64 (f i))
  cb : Cells w B m (fun i => .int .i64 (g i))
  cc : RRows w C o P L K F
  na : n ≤ 9223372036854775807
  nb : m ≤ 9223372036854775807
  nc : o ≤ 9223372036854775807
  nl : ∀ i, i < o → L i ≤ 9223372036854775807
set_option maxRecDepth 100000 in
theorem open_game {H : Type} {enc : TypeId × Value → H} {W : World} {base : Nat} {v : Value} {d : DataW H} {p : List MemPlace} (hv : Value.okWide Try.prog W .any base 45 v)
    (htr : DataW.Trod enc Try.prog W 0 (fun _ => true) true 45 v d p) :
    ∃ (A : Option Addr) (n c : Nat) (B : Option Addr) (m e : Nat) (C : Option Addr) (o q : Nat) (P : Nat → Option Addr) (L K : Nat → Nat) (f g : Nat → Int) (F : Nat → Nat → Int), v = .agg #[.slice A n c, .slice B m e, .slice C o q] ∧ GameIn W A n B m C o P L K f g F := by
  obtain ⟨cs, rfl, hsz, k, hf⟩ := fields_of Try.underlying45 (by kernel_rfl) (by kernel_rfl) hv htr
  obtain ⟨v0, v1, v2, rfl⟩ := array_3 hsz
  obtain ⟨y0, t0⟩ := hf 0 _ v0 rfl rfl
  obtain ⟨y1, t1⟩ := hf 1 _ v1 rfl rfl
  obtain ⟨y2, t2⟩ := hf 2 _ v2 rfl rfl
  obtain ⟨A, n, c, f, rfl, na, ca⟩ := cells_ints Try.underlying22 Try.underlying2 (by kernel_rfl) t0 (fun _ => rfl)
  obtain ⟨B, m, e, g, rfl, nb, cb⟩ := cells_ints Try.underlying22 Try.underlying2 (by kernel_rfl) t1 (fun _ => rfl)
  obtain ⟨C, o, q, P, L, K, F, rfl, nc, nl, cc⟩ := cells_rows Try.underlying43 Try.underlying22 Try.underlying2 (by kernel_rfl) (by kernel_rfl) t2 (fun _ => rfl)
  exact ⟨A, n, c, B, m, e, C, o, q, P, L, K, f, g, F, rfl, ca, cb, cc, na, nb, nc, nl⟩
end Go.Proofs.Ytfpombhhnojjhaa
