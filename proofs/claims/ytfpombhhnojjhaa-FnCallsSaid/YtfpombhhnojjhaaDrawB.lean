/- Draws of a law: bytes that come in, their length, a number that a byte chooses. -/
import Derived.Test.YtfpombhhnojjhaaSrc
import Derived.Test.YtfpombhhnojjhaaRowk
set_option linter.unusedVariables false
set_option linter.unusedSimpArgs false
namespace Go.Proofs.Ytfpombhhnojjhaa
open Go.RowKit
theorem isRowU8_len {w : World} {A : Option Addr} {n c : Nat} {zs : List Int} (h : IsRow .u8 w A n c zs) : n ≤ 9223372036854775807 := by
  rcases h with ⟨_, h, _⟩ | ⟨x, _, h1, h2, _⟩
  · omega
  · unfold maxLen at h2; omega
theorem isRowU8_cells {w : World} {A : Option Addr} {n c : Nat} {zs : List Int} (h : IsRow .u8 w A n c zs) : Cells w A n (fun i => .int .u8 ((fun i => zs.getD i 0) i)) ∧ ∀ i, i < n → 0 ≤ (fun i => zs.getD i 0) i ∧ (fun i => zs.getD i 0) i < 256 := by
  rcases h with ⟨_, h, _⟩ | ⟨x, hx, h1, h2, h3, h4, h5⟩
  · subst h; exact ⟨Cells.zero, fun i hi => by omega⟩
  · refine ⟨fun k hk => ⟨x, hx, h4 k (by omega)⟩, fun i hi => ?_⟩
    have hm : zs.getD i 0 ∈ zs := by
      have : i < zs.length := by omega
      simp only [List.getD_eq_getElem?_getD, List.getElem?_eq_getElem this, Option.getD_some]
      exact List.getElem_mem this
    have hh : IntKind.u8.min ≤ zs.getD i 0 ∧ zs.getD i 0 ≤ IntKind.u8.max := by simpa [Lit.wf] using h5 _ hm
    have e1 : IntKind.u8.min = 0 := rfl
    have e2 : IntKind.u8.max = 255 := rfl
    rw [e1, e2] at hh
    exact ⟨hh.1, Int.lt_of_le_of_lt hh.2 (by decide)⟩
theorem b10Long_any (A : Option Addr) (n c : Nat) (B : Option Addr) (m d : Nat) (w : World) (hn : n ≤ 9223372036854775807) (hm : m ≤ 9223372036854775807) :
    Calls Try.prog 54 #[.slice A n c, .slice B m d] w fun e w' => e = .returned (.bool (!(decide (n ≤ 1048576) && decide (m ≤ 1048576)))) ∧ w = w' := by
  by_cases h1 : n ≤ 1048576
  · have d1 : ¬ (1048576 : Int) < n := by omega
    by_cases h2 : m ≤ 1048576
    · have d2 : ¬ (1048576 : Int) < m := by omega
      go_enter Try.func54, Try.ntmps54
      go_wp2
      go_ret
      exact ⟨by simp [h1, h2], rfl⟩
    · have d2 : (1048576 : Int) < m := by omega
      go_enter Try.func54, Try.ntmps54
      go_wp2
      go_ret
      exact ⟨by simp [h1, h2], rfl⟩
  · have d1 : (1048576 : Int) < n := by omega
    go_enter Try.func54, Try.ntmps54
    go_wp2
    go_ret
    exact ⟨by simp [h1], rfl⟩
/-- The number that byte i of some bytes chooses among k. -/
def atB (n : Nat) (f : Nat → Int) (i : Nat) (k : Int) : Int := if k ≤ 1 then 0 else if i < n then f i % k else ((i : Int) * 37 + 11) % k
theorem atB_range {n : Nat} {f : Nat → Int} {i : Nat} {k : Int} : 0 ≤ atB n f i k ∧ (atB n f i k < k ∨ atB n f i k = 0) := by
  unfold atB
  split
  · exact ⟨Int.le_refl _, .inr rfl⟩
  · split
    · exact ⟨Int.emod_nonneg _ (by omega), .inl (Int.emod_lt_of_pos _ (by omega))⟩
    · exact ⟨Int.emod_nonneg _ (by omega), .inl (Int.emod_lt_of_pos _ (by omega))⟩
theorem b10At_any (A : Option Addr) (n c : Nat) (f : Nat → Int) (i : Nat) (k : Int) (w : World) (hn : n ≤ 1048576) (hi : i ≤ 1000000) (hk : k ≤ 1000000) (hA : Cells w A n (fun i => .int .u8 (f i))) (hf : ∀ i, i < n → 0 ≤ f i ∧ f i < 256) :
    Calls Try.prog 55 #[.slice A n c, .int .i64 i, .int .i64 k] w fun e w' => e = .returned (.int .i64 (atB n f i k)) ∧ w = w' := by
  have HU := Lib.hid (show atB n f i k = if k ≤ 1 then 0 else if i < n then f i % k else ((i : Int) * 37 + 11) % k from rfl)
  generalize atB n f i k = r at *
  by_cases h1 : k ≤ 1
  · go_enter Try.func55, Try.ntmps55
    go_wp2
    go_ret
    exact ⟨by rw [HU.out, if_pos h1]; rfl, rfl⟩
  have hk0 : ¬ k = 0 := by omega
  have hk1 : 1 ≤ k := by omega
  by_cases h2 : i < n
  · have d1 : (i : Int) < n := by omega
    obtain ⟨x, rfl, hx0⟩ := hA i h2
    have hx : w.cell? (x.add i) = some (.int .u8 (f i)) := hx0
    obtain ⟨f0, f1⟩ := hf i h2
    have HR := Lib.hid (show r = f i % k by rw [HU.out, if_neg h1, if_pos h2])
    clear hx0 HU hA hf
    generalize f i = z at *
    go_enter Try.func55, Try.ntmps55
    go_wp2
    go_ret
    exact ⟨by rw [HR.out]; rfl, rfl⟩
  · have d1 : ¬ (i : Int) < n := by omega
    have HR := Lib.hid (show r = ((i : Int) * 37 + 11) % k by rw [HU.out, if_neg h1, if_neg h2])
    clear HU hA hf
    have w1 : IntKind.i64.wrap ((i : Int) * 37) = (i : Int) * 37 := by rw [IntKind.wrap_i64]; omega
    have w2 : IntKind.i64.wrap ((i : Int) * 37 + 11) = (i : Int) * 37 + 11 := by rw [IntKind.wrap_i64]; omega
    have w3 : 0 ≤ (i : Int) * 37 + 11 := by omega
    go_enter Try.func55, Try.ntmps55
    go_wp2
    go_ret
    exact ⟨by rw [HR.out]; rfl, rfl⟩
end Go.Proofs.Ytfpombhhnojjhaa
