/- The library's copies of rows: slices.Clone. -/
import Derived.Test.YtfpombhhnojjhaaAppend
import Derived.Test.YtfpombhhnojjhaaOwn
import Derived.Lib.LazyBuf
set_option linter.unusedVariables false
namespace Go.Proofs.Ytfpombhhnojjhaa
open Go.RowKit

/-- A row that the call owns, whatever its value looks like. -/
theorem OwnC.of_rowV {w : World} {base : Nat} {e : TypeId} {v : Value} {n size : Nat} {xs : List Value} (h : w.ownsRow base e size v n xs) :
    ∃ (A : Option Addr) (c g : Nat), v = .slice A n c ∧ base ≤ g ∧ OwnC w g A (n * size) (fun i => xs.getD i undef) := by
  have hl : xs.length = n * size := h.1
  rcases h.2 with ⟨hv, h0⟩ | ⟨g, cap, cur, hv, hb, hh, h1, h2, h3, h4⟩
  · subst h0 hv
    exact ⟨none, 0, base, rfl, Nat.le_refl _, by rw [Nat.zero_mul]; exact OwnC.zero⟩
  · subst hv
    refine ⟨_, cap, g, rfl, hb, fun k hk => ⟨_, rfl, rfl, ?_, ?_⟩⟩
    · rw [add0]; exact h.frozenAt k
    · rw [add0, h.cellAt k hk, List.getElem?_eq_getElem (by omega)]
      simp [List.getD, List.getElem?_eq_getElem (show k < xs.length by omega)]

/-- A call's result is a row of its own. -/
def RowRes (w w' : World) (e : Ending) (n sz : Nat) (V : Nat → Value) : Prop :=
  ∃ (A : Option Addr) (d g : Nat), e = .returned (.slice A n d) ∧ w.heap.size ≤ g ∧ OwnC w' g A (n * sz) V ∧ Below w.heap.size w w'

theorem infoCI : (Try.prog.info? 2).map (fun i => (i.zero, i.size, i.bytes)) = some (some (.int .i64 0), 1, 8) := by kernel_rfl
set_option maxRecDepth 20000 in
theorem cloneI_any_some (a : Addr) (n c : Nat) (f : Nat → Int) (w : World) (hn : n ≤ 1048576) (h : Cells w (some a) (n * 1) (fun i => .int .i64 (f i))) :
    Calls Try.prog 83 #[.slice (some a) n c] w fun e w' => RowRes w w' e n 1 (fun i => .int .i64 (f i)) := by
  obtain ⟨i, hi, hz, hs, hb⟩ := info_parts infoCI
  have H := Lib.hid h
  clear h
  have hnil : (binOp .eql 22 (.slice (some a) n c) (.slice none 0 0)).run Try.prog w = .ok (.bool false) w := run_eql_slice_nil w 22 2 (some a) n c Try.underlying22
  go_enter Try.func83, Try.ntmps83
  go_wp2_with (first
    | (at_builtin; refine wpList_append_cells _ rfl _ _ 22 rfl w.heap.size 2 i (.int .i64 0) 1 8 Try.underlying22 hi hz hs hb rfl (by decide) (.slice (some ⟨w.heap.size, 0, none⟩) 0 0) 0 [] rfl (World.ownsRow_lit w #[] 0 (Nat.le_refl _) (by unfold maxLen; omega) rfl) (some a) n c (fun i => .int .i64 (f i)) rfl (H.out.below ((Below.refl _ _).alloc (Nat.le_refl _) _)) (fun _ _ => rfl) (by unfold maxLen; omega) (by omega) (by simp) ?_; intro v1 w1 hown1 hgrow1 hwhere1)
    | go_in)
  obtain ⟨A, d, g, rfl, hg, ho⟩ := OwnC.of_rowV hown1
  rw [Nat.zero_add] at ho
  have hb1 : Below w.heap.size w w1 := ((Below.refl _ _).alloc (Nat.le_refl _) _).grown hgrow1 (by simp) (fun k hk => by cases hk; exact Nat.le_refl _)
  go_ret
  refine ⟨A, d, g, by simp, hg, ho.congr fun k hk => ?_, hb1⟩
  simp only [List.nil_append]
  exact listV_getD _ hk
theorem cloneI_any (A : Option Addr) (n c : Nat) (f : Nat → Int) (w : World) (hn : n ≤ 1048576) (h : Cells w A (n * 1) (fun i => .int .i64 (f i))) :
    Calls Try.prog 83 #[.slice A n c] w fun e w' => RowRes w w' e n 1 (fun i => .int .i64 (f i)) := by
  cases A with
  | some a => exact cloneI_any_some a n c f w hn h
  | none =>
    have h0 : n = 0 := by
      rcases Nat.eq_zero_or_pos n with h0 | h0
      · exact h0
      · obtain ⟨x, hx, _⟩ := h 0 (by omega)
        cases hx
    subst h0
    have hnil : (binOp .eql 22 (.slice none 0 c) (.slice none 0 0)).run Try.prog w = .ok (.bool true) w := run_eql_slice_nil w 22 2 none 0 c Try.underlying22
    clear h
    go_enter Try.func83, Try.ntmps83
    go_wp2_with fail
    go_ret
    exact ⟨none, 0, w.heap.size, rfl, Nat.le_refl _, by rw [Nat.zero_mul]; exact OwnC.zero, Below.refl _ _⟩
end Go.Proofs.Ytfpombhhnojjhaa
