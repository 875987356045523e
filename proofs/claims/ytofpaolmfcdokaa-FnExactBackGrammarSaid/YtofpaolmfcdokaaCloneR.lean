/- slices.Clone of rules. -/
import Derived.Test.YtofpaolmfcdokaaClone
import Derived.Test.YtofpaolmfcdokaaRuleQ
set_option linter.unusedVariables false
namespace Go.Proofs.Ytofpaolmfcdokaa
open Go.RowKit
set_option maxRecDepth 20000 in
theorem cloneRule_any_some (a : Addr) (n c : Nat) (f : Nat → Int) (w : World) (hn : n ≤ 1048576) (h : Cells w (some a) (n * 4) (fun i => .int .i64 (f i))) :
    Calls Try.prog 62 #[.slice (some a) n c] w fun e w' => RowRes w w' e n 4 (fun i => .int .i64 (f i)) := by
  obtain ⟨i, hi, hz, hs, hb⟩ := info_parts infoRule
  have H := Lib.hid h
  clear h
  have hnil : (binOp .eql 27 (.slice (some a) n c) (.slice none 0 0)).run Try.prog w = .ok (.bool false) w := run_eql_slice_nil w 27 67 (some a) n c Try.underlying27
  go_enter Try.func62, Try.ntmps62
  go_wp2_with (first
    | (at_builtin; refine wpList_append_cells _ rfl _ _ 27 rfl w.heap.size 67 i (.agg #[.int .i64 0, .int .i64 0, .int .i64 0, .int .i64 0]) 4 32 Try.underlying27 hi hz hs hb rfl (by decide) (.slice (some ⟨w.heap.size, 0, none⟩) 0 0) 0 [] rfl (World.ownsRow_lit w #[] 0 (Nat.le_refl _) (by unfold maxLen; omega) rfl) (some a) n c (fun i => .int .i64 (f i)) rfl (H.out.below ((Below.refl _ _).alloc (Nat.le_refl _) _)) (fun _ _ => rfl) (by unfold maxLen; omega) (by omega) (by simp) ?_; intro v1 w1 hown1 hgrow1 hwhere1)
    | go_in)
  obtain ⟨A, d, g, rfl, hg, ho⟩ := OwnC.of_rowV hown1
  rw [Nat.zero_add] at ho
  have hb1 : Below w.heap.size w w1 := ((Below.refl _ _).alloc (Nat.le_refl _) _).grown hgrow1 (by simp) (fun k hk => by cases hk; exact Nat.le_refl _)
  go_ret
  refine ⟨A, d, g, by simp, hg, ho.congr fun k hk => ?_, hb1⟩
  simp only [List.nil_append]
  exact listV_getD _ hk
theorem cloneRule_any (A : Option Addr) (n c : Nat) (f : Nat → Int) (w : World) (hn : n ≤ 1048576) (h : Cells w A (n * 4) (fun i => .int .i64 (f i))) :
    Calls Try.prog 62 #[.slice A n c] w fun e w' => RowRes w w' e n 4 (fun i => .int .i64 (f i)) := by
  cases A with
  | some a => exact cloneRule_any_some a n c f w hn h
  | none =>
    have h0 : n = 0 := by
      rcases Nat.eq_zero_or_pos n with h0 | h0
      · exact h0
      · obtain ⟨x, hx, _⟩ := h 0 (by omega)
        cases hx
    subst h0
    have hnil : (binOp .eql 27 (.slice none 0 c) (.slice none 0 0)).run Try.prog w = .ok (.bool true) w := run_eql_slice_nil w 27 67 none 0 c Try.underlying27
    clear h
    go_enter Try.func62, Try.ntmps62
    go_wp2_with fail
    go_ret
    exact ⟨none, 0, w.heap.size, rfl, Nat.le_refl _, by rw [Nat.zero_mul]; exact OwnC.zero, Below.refl _ _⟩
end Go.Proofs.Ytofpaolmfcdokaa
