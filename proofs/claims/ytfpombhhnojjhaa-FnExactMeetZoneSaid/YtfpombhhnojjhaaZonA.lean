/- A zone's index, a zone's bound. -/
import Derived.Test.YtfpombhhnojjhaaZon0
import Derived.Test.YtfpombhhnojjhaaBoxN
import Derived.Test.YtfpombhhnojjhaaBoxP
import Derived.Test.YtfpombhhnojjhaaOwn
set_option linter.unusedVariables false
namespace Go.Proofs.Ytfpombhhnojjhaa
open Go.RowKit
theorem idx_wrap {m i k : Nat} (hm : m ≤ 4) (hi : i ≤ m) (hk : k ≤ m) : IntKind.i64.wrap ((m : Int) + 1) = ((m + 1 : Nat) : Int) ∧ IntKind.i64.wrap ((i : Int) * ((m + 1 : Nat) : Int)) = ((i * (m + 1) : Nat) : Int) ∧ IntKind.i64.wrap (((i * (m + 1) : Nat) : Int) + (k : Int)) = ((i * (m + 1) + k : Nat) : Int) ∧ i * (m + 1) + k < (m + 1) * (m + 1) ∧ (m + 1) * (m + 1) ≤ 25 := by
  have h1 : i * (m + 1) ≤ 4 * 5 := Nat.mul_le_mul (by omega) (by omega)
  have h2 : (m + 1) * (m + 1) ≤ 5 * 5 := Nat.mul_le_mul (by omega) (by omega)
  have h3 := at_lt (M := m + 1) (i := i) (k := k) (by omega) (by omega)
  refine ⟨?_, ?_, ?_, h3, by omega⟩
  · rw [IntKind.wrap_i64]; omega
  · rw [← Int.natCast_mul, IntKind.wrap_i64]; omega
  · rw [← Int.natCast_add, IntKind.wrap_i64]; omega
theorem atZ_any (m : Nat) (A : Option Addr) (n c i k : Nat) (w : World) (hm : m ≤ 4) (hi : i ≤ m) (hk : k ≤ m) :
    Calls Try.prog 124 #[.agg #[.int .i64 m, .slice A n c], .int .i64 i, .int .i64 k] w fun e w' => e = .returned (.int .i64 ((i * (m + 1) + k : Nat) : Int)) ∧ Below w.heap.size w w' := by
  obtain ⟨e1, e2, e3, -, -⟩ := idx_wrap hm hi hk
  generalize ((i * (m + 1) + k : Nat) : Int) = r at *
  generalize ((i * (m + 1) : Nat) : Int) = r2 at *
  generalize ((m + 1 : Nat) : Int) = r3 at *
  generalize (i : Int) = i at *
  generalize (k : Int) = k at *
  generalize (m : Int) = m at *
  go_enter Try.func124, Try.ntmps124
  go_wp2_with fail
  go_ret
  exact ⟨rfl, (by repeat (first | with_reducible exact Below.refl _ _ | exact Hid.out (by with_reducible assumption) | refine Below.setCell ?_ (by simp <;> omega) _ | refine below_alloc ?_ _ | refine Below.alloc ?_ (by simp <;> omega) _ | refine Below.drew ?_ | refine below_drewN ?_ _ | exact Below.refl _ _))⟩
theorem boundZ_any (m : Nat) (A : Option Addr) (n c i k : Nat) (v : Int) (w : World) (hm : m ≤ 4) (hi : i ≤ m) (hk : k ≤ m) (hn : i * (m + 1) + k < n) (hn2 : n ≤ 25) (h : ∃ x, A = some x ∧ w.cell? (x.add (i * (m + 1) + k)) = some (.int .i64 v)) :
    Calls Try.prog 122 #[.agg #[.int .i64 m, .slice A n c], .int .i64 i, .int .i64 k] w fun e w' => e = .returned (.int .i64 v) ∧ Below w.heap.size w w' := by
  have HA := Lib.hid (fun W => atZ_any m A n c i k W hm hi hk)
  obtain ⟨x, rfl, hx⟩ := h
  have hj : i * (m + 1) + k ≤ 24 := by omega
  clear hm hi hk
  generalize i * (m + 1) + k = j at *
  generalize (i : Int) = i at *
  generalize (k : Int) = k at *
  generalize (m : Int) = m at *
  have X := Lib.hid (Box2.new w 36 (.int .i64 m) (.slice (some x) n c))
  obtain ⟨x0, x1⟩ := X.out
  have HX := Lib.hid (show ∀ W, Below w.heap.size w W → W.cell? (x.add j) = some (.int .i64 v) from fun W hW => (hW.cell (World.block_lt_of_cell? _ _ hx)).trans hx)
  have d1 : (j : Int) < n := by omega
  go_enter Try.func122, Try.ntmps122
  go_wp2_with fail
  go_region_with (first
    | (go_at_call 124; refine (HA.out _).mono ?_; rintro e w1 ⟨rfl, hb1⟩; have N1 := Lib.hid (show Below w.heap.size w w1 from Below.trans (by repeat (first | with_reducible exact Below.refl _ _ | exact Hid.out (by with_reducible assumption) | refine Below.setCell ?_ (by simp <;> omega) _ | refine below_alloc ?_ _ | refine Below.alloc ?_ (by simp <;> omega) _ | refine Below.drew ?_ | refine below_drewN ?_ _ | exact Below.refl _ _)) (hb1.mono (by simp <;> omega))); have hx1 := HX.out _ N1.out; obtain ⟨y0, y1⟩ := X.out.below (Below.trans (by repeat (first | with_reducible exact Below.refl _ _ | exact Hid.out (by with_reducible assumption) | refine Below.setCell ?_ (by simp <;> omega) _ | refine below_alloc ?_ _ | refine Below.alloc ?_ (by simp <;> omega) _ | refine Below.drew ?_ | refine below_drewN ?_ _ | exact Below.refl _ _)) hb1); clear hb1))
  all_goals (go_wp2_with fail; go_ret; exact ⟨rfl, (by repeat (first | with_reducible exact Below.refl _ _ | exact Hid.out (by with_reducible assumption) | refine Below.setCell ?_ (by simp <;> omega) _ | refine below_alloc ?_ _ | refine Below.alloc ?_ (by simp <;> omega) _ | refine Below.drew ?_ | refine below_drewN ?_ _ | exact Below.refl _ _))⟩)
end Go.Proofs.Ytfpombhhnojjhaa
