/- slices.Grow of no slice, slices.Concat. -/
import Derived.Test.YtgbiablibfbilaaAppend
import Derived.Test.YtgbiablibfbilaaOwn
import Derived.Test.YtgbiablibfbilaaClone
import Derived.Lib.AppendZeros
set_option linter.unusedVariables false
namespace Go.Proofs.Ytgbiablibfbilaa
open Go.RowKit

/-- The first r of n, summed. -/
def sumN (n : Nat → Nat) : Nat → Nat
  | 0 => 0
  | r + 1 => sumN n r + n r
/-- The cells of r slices, one behind the other. -/
def catV (n : Nat → Nat) (z : Nat) (V : Nat → Nat → Value) : Nat → List Value
  | 0 => []
  | r + 1 => catV n z V r ++ listV (n r * z) (V r)
theorem sumN_le (n : Nat → Nat) {k r : Nat} (h : k ≤ r) : sumN n k ≤ sumN n r := by
  induction r with
  | zero => have : k = 0 := by omega
            subst this; exact Nat.le_refl _
  | succ r ih =>
    rcases Nat.lt_or_ge k (r + 1) with q | q
    · exact Nat.le_trans (ih (by omega)) (Nat.le_add_right _ _)
    · have : k = r + 1 := by omega
      subst this; exact Nat.le_refl _
theorem sumN_lt (n : Nat → Nat) {k r : Nat} (h : k < r) : sumN n k + n k ≤ sumN n r := sumN_le n (k := k + 1) h

theorem growI_nil (n : Nat) (w : World) (hn : n ≤ 1048576) :
    Calls Try.prog 119 #[.slice none 0 0, .int .i64 n] w fun e w' => (∃ v, e = .returned v ∧ w'.ownsRow w.heap.size 2 1 v 0 []) ∧ Below w.heap.size w w' := by
  obtain ⟨i, hi, hz, hs, hb⟩ := info_parts infoCI
  rcases Nat.eq_zero_or_pos n with h0 | h0
  · subst h0
    go_enter Try.func119, Try.ntmps119
    go_wp2_with fail
    go_ret
    exact ⟨⟨_, rfl, by simp, .inl ⟨rfl, rfl⟩⟩, Below.refl _ _⟩
  · have d1 : ¬ (n : Int) < 0 := by omega
    have d2 : (0 : Int) < n := by omega
    have hr := fun ty => Lib.run_append_nil_zeros (P := Try.prog) w 22 3 ty 2 i (.int .i64 0) .i64 .i64 Try.underlying22 Try.underlying3 hi hz n h0 (by rw [hs]; decide) (by omega) (by rw [hb]; omega)
    have HC := Lib.hid (show grownCap w n 0 2 ≤ maxLen from grownCap_le_maxLen _ _ _ _ (by unfold maxLen; omega))
    have HG := Lib.hid (grownCap_ge w n 0 2)
    have HR := Lib.hid hr
    clear hr
    go_enter Try.func119, Try.ntmps119
    go_wp2_with (first
      | (at_builtin
         refine Lib.wpList_append_run _ rfl _ _ _ _ rfl _ _ rfl rfl _ _ (HR.out _) ?_)
      | go_in)
    go_ret
    have hzc : ∀ k, (Builtin.zeroCells (.int .i64 0 : Value).cells k).size = k * 1 := fun k => by rw [size_zeroCells]; simp [Value.cells]
    refine ⟨⟨_, rfl, by simp, .inr ⟨w.heap.size, _, _, rfl, Nat.le_refl _, heap_alloc_new w _, Nat.zero_le _, HC.out, ?_, by simp⟩⟩, (by repeat (first | exact Below.refl _ _ | exact Hid.out (by assumption) | refine Below.setCell ?_ (by simp <;> omega) _ | refine Below.alloc ?_ (by simp <;> omega) _ | refine Below.drew ?_ | refine below_drewN ?_ _))⟩
    rw [Array.size_append]
    have h1 := hzc n
    have h2 := hzc (grownCap w n 0 2 - n)
    have h3 := HG.out
    simp only [Value.cells] at h1 h2
    first | omega | (rw [h1, h2, ← Nat.add_mul]; congr 1; omega)
theorem I_any (B : Option Addr) (r c : Nat) (n : Nat → Nat) (A : Nat → Option Addr) (cp : Nat → Nat) (V : Nat → Nat → Value) (w : World) (hr : r ≤ 64) (hn : sumN n r ≤ 1048576) (hB : Cells w B r (fun i => .slice (A i) (n i) (cp i)))
    (hV : ∀ i, i < r → Cells w (A i) (n i * 1) (V i)) (h1 : ∀ i, i < r → ∀ k, k < n i * 1 → (V i k).oneCell' = true) :
    Calls Try.prog 118 #[.slice B r c] w fun e w' => (∃ v, e = .returned v ∧ w'.ownsRow w.heap.size 2 1 v (sumN n r) (catV n 1 V r)) ∧ Below w.heap.size w w' := by
  obtain ⟨ii, hii, hzi, hsi, hbi⟩ := info_parts infoCI
  have HB := Lib.hid hB
  have HV := Lib.hid hV
  have H1 := Lib.hid h1
  have HG := Lib.hid (fun W => growI_nil (sumN n r) W hn)
  have HS := Lib.hid (fun k (hk : k < r) => sumN_lt n hk)
  clear hB hV h1
  go_enter Try.func118, Try.ntmps118
  go_wp2_with fail
  go_loopw [3, 5, 11] (fun s _ i wr => ∃ k : Nat, k ≤ r ∧ w = wr ∧ s = .int .i64 (sumN n k) ∧ i = .int .i64 k) (fun _ _ i _ => r - (intOf i).toNat)
  case atStart => exact ⟨0, Nat.zero_le _, rfl, rfl, rfl⟩
  case round =>
    obtain ⟨k, hk, rfl, rfl, rfl⟩ := hrel
    by_cases hlt : k < r
    · have d1 : (k : Int) < r := by omega
      obtain ⟨x, rfl, hx0⟩ := HB.out k hlt
      have hx : w.cell? (x.add k) = some (.slice (A k) (n k) (cp k)) := hx0
      have h2 := HS.out k hlt
      have HE := Lib.hid (show sumN n (k + 1) = sumN n k + n k from rfl)
      clear hx0
      generalize sumN n k = sk at *
      have d2 : ¬ (sk : Int) + (n k : Int) < 0 := by omega
      have d3 : IntKind.i64.wrap ((sk : Int) + (n k : Int)) = (sk : Int) + (n k : Int) := by rw [IntKind.wrap_i64]; omega
      clear h2
      go_wp2_with fail
      exact ⟨⟨k + 1, by omega, by trivial, by rw [HE.out]; simp, by simp⟩, by simp [intOf]; omega⟩
    · have d1 : ¬ (k : Int) < r := by omega
      obtain rfl : r = k := by omega
      go_wp2_with fail
      refine (HG.out _).mono ?_
      rintro e w1 ⟨⟨v1, rfl, ho⟩, hb⟩
      have N1 := Lib.hid hb
      have O1 := Lib.hid ho
      clear hb ho
      go_wp2_with fail
      go_loopw [6, 8, 27] (fun row _ i wr => ∃ (k : Nat) (v : Value), k ≤ r ∧ v = row ∧ i = .int .i64 k ∧ Hid (wr.ownsRow w.heap.size 2 1 v (sumN n k) (catV n 1 V k)) ∧ Hid (Below w.heap.size w wr)) (fun _ _ i _ => r - (intOf i).toNat)
      case atStart => exact ⟨0, _, Nat.zero_le _, rfl, rfl, O1.out, N1.out⟩
      case round =>
        obtain ⟨k, v, hk, rfl, rfl, HO, HB0⟩ := hrel
        by_cases hlt : k < r
        · have d1 : (k : Int) < r := by omega
          obtain ⟨x, rfl, hx0⟩ := HB.out k hlt
          have hx : wr.cell? (x.add k) = some (.slice (A k) (n k) (cp k)) := (HB0.out.cell (World.block_lt_of_cell? _ _ hx0)).trans hx0
          have h2 := HS.out k hlt
          have HL := Lib.hid h2
          clear hx0 h2
          go_wp2_with (first
            | (at_builtin
               refine wpList_append_cells _ rfl _ _ 22 rfl w.heap.size 2 ii (.int .i64 0) 1 8 Try.underlying22 hii hzi hsi hbi rfl (by decide) v _ _ rfl HO.out
                 (A k) (n k) (cp k) (V k) rfl ((HV.out k hlt).below HB0.out) (H1.out k hlt) (by unfold maxLen; have := HL.out; omega) (by have := HL.out; omega) HB0.out.size ?_
               intro v2 w2 hown hgrow hwhere
               have HO2 := Lib.hid (show w2.ownsRow w.heap.size 2 1 v2 (sumN n (k + 1)) (catV n 1 V (k + 1)) from hown)
               have HB2 := Lib.hid (show Below w.heap.size w w2 from Below.grown HB0.out hgrow HB0.out.size (fun j hj => (HO.out.lt j hj).1))
               clear hown hgrow hwhere)
            | go_in)
          exact ⟨⟨k + 1, v2, by omega, rfl, by simp, HO2.out, HB2.out⟩, by simp [intOf]; omega⟩
        · have d1 : ¬ (k : Int) < r := by omega
          obtain rfl : r = k := by omega
          go_wp2_with fail
          go_ret
          exact ⟨⟨_, rfl, HO.out⟩, HB0.out⟩
end Go.Proofs.Ytgbiablibfbilaa
