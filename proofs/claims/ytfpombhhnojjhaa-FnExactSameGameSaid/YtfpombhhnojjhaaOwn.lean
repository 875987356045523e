/- Rows of numbers and of bools: copied, compared, marked, held. -/
import Derived.Test.YtfpombhhnojjhaaChecked
import Derived.Test.YtfpombhhnojjhaaCells
import Derived.LoopTactic
import Derived.Test.YtfpombhhnojjhaaRet
import Derived.WalkKit
import Derived.Deep.QuietTactic
import Derived.Deep.RegionWith
import Derived.BigQuiet
set_option linter.unusedVariables false
namespace Go.Proofs.Ytfpombhhnojjhaa
open Go.RowKit


theorem infoI : (Try.prog.info? 2).map (fun i => (i.zero, i.size, i.bytes)) = some (some (.int .i64 0), 1, 8) := by kernel_rfl
/-- The row as far as it is copied. -/
def PartI (xs : List Value) (k : Nat) (f : Nat → Int) : Prop := ∀ i, i < k → xs[i]? = some (.int .i64 (f i))
theorem PartI.step {xs : List Value} {k : Nat} {f : Nat → Int} (h : PartI xs k f) (hk : k < xs.length) : PartI (xs.set k (.int .i64 (f k))) (k + 1) f := by
  intro i hi
  by_cases e : i = k
  · subst e
    simp [hk]
  · rw [List.getElem?_set_ne (by omega)]
    exact h i (by omega)
theorem toI_any (A : Option Addr) (n c : Nat) (f : Nat → Int) (w : World) (hn : n ≤ 1048576) (h : Cells w A n (fun i => .int .i64 (f i))) :
    Calls Try.prog 82 #[.slice A n c] w fun e w' => e = .returned (.slice (some ⟨w.heap.size, 0, none⟩) n n) ∧ w.heap.size < w'.heap.size ∧ OwnC w' w.heap.size (some ⟨w.heap.size, 0, none⟩) n (fun i => .int .i64 (f i)) ∧ Below w.heap.size w w' := by
  obtain ⟨i, hi, hz, hs, hb⟩ := info_parts infoI
  go_enter Try.func82, Try.ntmps82
  go_wp2_with (first
    | (at_make; refine wpList_make_full _ rfl _ _ 22 rfl w.heap.size 2 i (.int .i64 0) 1 Try.underlying22 hi hz hs .i64 .i64 _ _ n rfl rfl rfl rfl (by rw [hb]; omega) (by unfold maxLen; omega) (Nat.le_refl _) ?_; intro w0 hown0 hgrow0)
    | go_in)
  have HB0 := Lib.hid ((Below.refl w.heap.size w).grown hgrow0 (Nat.le_refl _) (fun _ h => by cases h))
  go_loopw [4] (fun r wr => ∃ k : Nat, ∃ xs : List Value, k ≤ n ∧ r = .int .i64 k ∧ wr.ownsRow w.heap.size 2 1 (.slice (some ⟨w.heap.size, 0, none⟩) n n) n xs ∧ Hid (Below w.heap.size w wr) ∧ Hid (PartI xs k f)) (fun r _ => n - (intOf r).toNat)
  case atStart => exact ⟨0, _, Nat.zero_le _, rfl, hown0, HB0, fun i hi => by omega⟩
  case round =>
    obtain ⟨k, xs, hk, rfl, hown, HB, HP⟩ := hrel
    have hxl : xs.length = n := by have := hown.1; omega
    by_cases hlt : k < n
    · have d1 : (k : Int) < n := by omega
      obtain ⟨a, rfl, hca⟩ := h k hlt
      have hcw : wr.cell? (a.add k) = some (.int .i64 (f k)) := by rw [HB.out.cell (World.block_lt_of_cell? _ _ hca)]; exact hca
      obtain ⟨old, hcg⟩ : ∃ old, wr.cell? ⟨w.heap.size, k, none⟩ = some old := ⟨xs[k]'(by omega), by
        rw [hown.cellAt k (by omega)]
        exact List.getElem?_eq_getElem (by omega)⟩
      have hfg : wr.frozen? ⟨w.heap.size, k, none⟩ = false := hown.frozenAt k
      have hst := Lib.hid (hown.stored k (.int .i64 (f k)))
      have hP := Lib.hid (HP.out.step (show k < xs.length by omega))
      clear hown hca h
      skip
      go_wp2
      exact ⟨⟨k + 1, _, by omega, by simp, hst.out.1, Lib.hid (HB.out.grown hst.out.2 HB.out.size (fun _ h => by cases h; exact Nat.le_refl _)), hP⟩, by simp [intOf]; omega⟩
    · have d1 : ¬ (k : Int) < n := by omega
      have e : k = n := by omega
      subst e
      have hG : w.heap.size < wr.heap.size ∧ OwnC wr w.heap.size (some ⟨w.heap.size, 0, none⟩) k (fun i => .int .i64 (f i)) := by
        refine ⟨?_, fun i hi => ⟨_, rfl, rfl, by rw [add0]; exact hown.frozenAt i, ?_⟩⟩
        · rcases hown.2 with ⟨h', _⟩ | ⟨g', cap', cur, h', _, hg, _⟩
          · cases h'
          · simp only [Value.slice.injEq, Option.some.injEq, Addr.mk.injEq, and_true] at h'
            rw [h'.1]
            exact (Array.getElem?_eq_some_iff.1 hg).1
        · rw [add0, hown.cellAt i (by omega)]
          exact HP.out i hi
      have HG := Lib.hid hG
      clear hown hG HP h
      go_wp2
      go_ret
      exact ⟨rfl, HG.out.1, HG.out.2, HB.out⟩

/-- Equal rows compare as equal. -/
theorem eqI_any (A B : Option Addr) (n c d : Nat) (f : Nat → Int) (w : World) (hn : n ≤ 4611686018427387904) (hg : Cells w A n (fun i => .int .i64 (f i))) (hh : Cells w B n (fun i => .int .i64 (f i))) :
    Calls Try.prog 85 #[.slice A n c, .slice B n d] w fun e w' => e = .returned (.bool true) ∧ ∃ m, w' = w.drewN m := by
  go_enter Try.func85, Try.ntmps85
  go_wp2
  go_loopw [5] (fun r wr => ∃ k m : Nat, k ≤ n ∧ r = .int .i64 k ∧ Hid (wr = w.drewN m)) (fun r _ => n - (intOf r).toNat)
  case atStart => exact ⟨0, 0, Nat.zero_le _, rfl, rfl⟩
  case round =>
    obtain ⟨k, m, hk, rfl, hw⟩ := hrel
    by_cases hlt : k < n
    · have d1 : (k : Int) < n := by omega
      obtain ⟨x, rfl, hx⟩ := hg k hlt
      obtain ⟨y, rfl, hy⟩ := hh k hlt
      have hcg : wr.cell? (x.add k) = some (.int .i64 (f k)) := by rw [hw.out]; exact hx
      have hch : wr.cell? (y.add k) = some (.int .i64 (f k)) := by rw [hw.out]; exact hy
      clear hx hy
      generalize f k = v at *
      go_wp2_with fail
      go_region
      all_goals (go_wp2_with fail; refine ⟨⟨k + 1, m + 1, by omega, by simp, ?_⟩, by simp [intOf]; omega⟩; rw [hw.out]; exact rfl)
    · have d1 : ¬ (k : Int) < n := by omega
      go_wp2
      go_ret
      exact ⟨rfl, _, hw.out⟩
theorem infoB : (Try.prog.info? 4).map (fun i => (i.zero, i.size, i.bytes)) = some (some (.bool false), 1, 1) := by kernel_rfl
/-- The row as far as it is copied. -/
def PartB (xs : List Value) (k : Nat) (f : Nat → Bool) : Prop := ∀ i, i < k → xs[i]? = some (.bool (f i))
theorem PartB.step {xs : List Value} {k : Nat} {f : Nat → Bool} (h : PartB xs k f) (hk : k < xs.length) : PartB (xs.set k (.bool (f k))) (k + 1) f := by
  intro i hi
  by_cases e : i = k
  · subst e
    simp [hk]
  · rw [List.getElem?_set_ne (by omega)]
    exact h i (by omega)
theorem toB_any (A : Option Addr) (n c : Nat) (f : Nat → Bool) (w : World) (hn : n ≤ 1048576) (h : Cells w A n (fun i => .bool (f i))) :
    Calls Try.prog 145 #[.slice A n c] w fun e w' => e = .returned (.slice (some ⟨w.heap.size, 0, none⟩) n n) ∧ w.heap.size < w'.heap.size ∧ OwnC w' w.heap.size (some ⟨w.heap.size, 0, none⟩) n (fun i => .bool (f i)) ∧ Below w.heap.size w w' := by
  obtain ⟨i, hi, hz, hs, hb⟩ := info_parts infoB
  go_enter Try.func145, Try.ntmps145
  go_wp2_with (first
    | (at_make; refine wpList_make_full _ rfl _ _ 56 rfl w.heap.size 4 i (.bool false) 1 Try.underlying56 hi hz hs .i64 .i64 _ _ n rfl rfl rfl rfl (by rw [hb]; omega) (by unfold maxLen; omega) (Nat.le_refl _) ?_; intro w0 hown0 hgrow0)
    | go_in)
  have HB0 := Lib.hid ((Below.refl w.heap.size w).grown hgrow0 (Nat.le_refl _) (fun _ h => by cases h))
  go_loopw [4] (fun r wr => ∃ k : Nat, ∃ xs : List Value, k ≤ n ∧ r = .int .i64 k ∧ wr.ownsRow w.heap.size 4 1 (.slice (some ⟨w.heap.size, 0, none⟩) n n) n xs ∧ Hid (Below w.heap.size w wr) ∧ Hid (PartB xs k f)) (fun r _ => n - (intOf r).toNat)
  case atStart => exact ⟨0, _, Nat.zero_le _, rfl, hown0, HB0, fun i hi => by omega⟩
  case round =>
    obtain ⟨k, xs, hk, rfl, hown, HB, HP⟩ := hrel
    have hxl : xs.length = n := by have := hown.1; omega
    by_cases hlt : k < n
    · have d1 : (k : Int) < n := by omega
      obtain ⟨a, rfl, hca⟩ := h k hlt
      have hcw : wr.cell? (a.add k) = some (.bool (f k)) := by rw [HB.out.cell (World.block_lt_of_cell? _ _ hca)]; exact hca
      obtain ⟨old, hcg⟩ : ∃ old, wr.cell? ⟨w.heap.size, k, none⟩ = some old := ⟨xs[k]'(by omega), by
        rw [hown.cellAt k (by omega)]
        exact List.getElem?_eq_getElem (by omega)⟩
      have hfg : wr.frozen? ⟨w.heap.size, k, none⟩ = false := hown.frozenAt k
      have hst := Lib.hid (hown.stored k (.bool (f k)))
      have hP := Lib.hid (HP.out.step (show k < xs.length by omega))
      clear hown hca h
      skip
      go_wp2
      exact ⟨⟨k + 1, _, by omega, by simp, hst.out.1, Lib.hid (HB.out.grown hst.out.2 HB.out.size (fun _ h => by cases h; exact Nat.le_refl _)), hP⟩, by simp [intOf]; omega⟩
    · have d1 : ¬ (k : Int) < n := by omega
      have e : k = n := by omega
      subst e
      have hG : w.heap.size < wr.heap.size ∧ OwnC wr w.heap.size (some ⟨w.heap.size, 0, none⟩) k (fun i => .bool (f i)) := by
        refine ⟨?_, fun i hi => ⟨_, rfl, rfl, by rw [add0]; exact hown.frozenAt i, ?_⟩⟩
        · rcases hown.2 with ⟨h', _⟩ | ⟨g', cap', cur, h', _, hg, _⟩
          · cases h'
          · simp only [Value.slice.injEq, Option.some.injEq, Addr.mk.injEq, and_true] at h'
            rw [h'.1]
            exact (Array.getElem?_eq_some_iff.1 hg).1
        · rw [add0, hown.cellAt i (by omega)]
          exact HP.out i hi
      have HG := Lib.hid hG
      clear hown hG HP h
      go_wp2
      go_ret
      exact ⟨rfl, HG.out.1, HG.out.2, HB.out⟩

/-- Equal rows compare as equal. -/
theorem eqB_any (A B : Option Addr) (n c d : Nat) (f : Nat → Bool) (w : World) (hn : n ≤ 4611686018427387904) (hg : Cells w A n (fun i => .bool (f i))) (hh : Cells w B n (fun i => .bool (f i))) :
    Calls Try.prog 146 #[.slice A n c, .slice B n d] w fun e w' => e = .returned (.bool true) ∧ ∃ m, w' = w.drewN m := by
  go_enter Try.func146, Try.ntmps146
  go_wp2
  go_loopw [5] (fun r wr => ∃ k m : Nat, k ≤ n ∧ r = .int .i64 k ∧ Hid (wr = w.drewN m)) (fun r _ => n - (intOf r).toNat)
  case atStart => exact ⟨0, 0, Nat.zero_le _, rfl, rfl⟩
  case round =>
    obtain ⟨k, m, hk, rfl, hw⟩ := hrel
    by_cases hlt : k < n
    · have d1 : (k : Int) < n := by omega
      obtain ⟨x, rfl, hx⟩ := hg k hlt
      obtain ⟨y, rfl, hy⟩ := hh k hlt
      have hcg : wr.cell? (x.add k) = some (.bool (f k)) := by rw [hw.out]; exact hx
      have hch : wr.cell? (y.add k) = some (.bool (f k)) := by rw [hw.out]; exact hy
      clear hx hy
      generalize f k = v at *
      go_wp2_with fail
      go_region
      all_goals (go_wp2_with fail; refine ⟨⟨k + 1, m + 1, by omega, by simp, ?_⟩, by simp [intOf]; omega⟩; rw [hw.out]; exact rfl)
    · have d1 : ¬ (k : Int) < n := by omega
      go_wp2
      go_ret
      exact ⟨rfl, _, hw.out⟩

/-- The marks on a row: those that have been made, and what lies behind. -/
def markV (C : Int → Value) (V : Nat → Value) (k0 : Int) (k : Nat) (i : Nat) : Value := if i < k then C (k0 + i) else V i
theorem markV_step (C : Int → Value) (V : Nat → Value) (k0 : Int) (k : Nat) : (fun i => if i = k then C (k0 + k) else markV C V k0 k i) = markV C V k0 (k + 1) := by
  funext i
  unfold markV
  by_cases h : i = k
  · subst h; rw [if_pos rfl, if_pos (by omega)]
  · rw [if_neg h]
    by_cases h2 : i < k
    · rw [if_pos h2, if_pos (by omega)]
    · rw [if_neg h2, if_neg (by omega)]

def mvI (k : Int) : Value := .int .i64 k
theorem markI_any (A : Option Addr) (n c g : Nat) (V : Nat → Value) (k0 : Int) (w : World) (h0 : 0 ≤ k0) (h1 : k0 + n ≤ 4611686018427387904) (h : OwnC w g A n V) :
    Calls Try.prog 86 #[.slice A n c, .int .i64 k0] w fun e w' => e = .returned (.int .i64 (k0 + n)) ∧ OwnC w' g A n (fun i => (Value.int .i64) (k0 + i)) ∧ ∀ lo hi, lo ≤ g → (0 < n → g < hi) → Within lo hi w w' := by
  go_enter Try.func86, Try.ntmps86
  go_wp2
  go_loopw [1, 5] (fun q r wr => ∃ k : Nat, k ≤ n ∧ r = .int .i64 k ∧ q = .int .i64 (k0 + k) ∧ Hid (OwnC wr g A n (markV (Value.int .i64) V k0 k)) ∧ Hid (∀ lo hi, lo ≤ g → (0 < n → g < hi) → Within lo hi w wr)) (fun _ r _ => n - (intOf r).toNat)
  case atStart => exact ⟨0, Nat.zero_le _, rfl, by simp, h.congr fun i _ => by unfold markV; simp, fun lo hi _ _ => Within.refl _ _ _⟩
  case round =>
    obtain ⟨k, hk, rfl, rfl, HO, HW⟩ := hrel
    clear h
    by_cases hlt : k < n
    · have d1 : (k : Int) < n := by omega
      obtain ⟨x, rfl, hxg, hfg, hcg⟩ := HO.out k hlt
      have HS := Lib.hid (HO.out.set rfl hlt ((Value.int .i64) (k0 + k)))
      have HW2 := Lib.hid (fun lo hi h2 h3 => (HW.out lo hi h2 h3).trans (Within.setCell wr (p := x.add k) (by rw [block_add, hxg]; exact h2) (by rw [block_add, hxg]; exact h3 (by omega)) ((Value.int .i64) (k0 + k))))
      have HG := Lib.hid hxg
      clear hxg HO HW
      generalize markV (Value.int .i64) V k0 k k = old at *
      go_wp2
      exact ⟨⟨k + 1, by omega, by simp, by simp; omega, by rw [← markV_step]; exact HS.out, HW2.out⟩, by simp [intOf]; omega⟩
    · have d1 : ¬ (k : Int) < n := by omega
      have e : k = n := by omega
      subst e
      go_wp2
      go_ret
      exact ⟨rfl, HO.out.congr fun i hi => by unfold markV; rw [if_pos hi], HW.out⟩
theorem heldI_any (A : Option Addr) (n c : Nat) (k0 : Int) (w : World) (h0 : 0 ≤ k0) (h1 : k0 + n ≤ 4611686018427387904) (h : Cells w A n (fun i => (Value.int .i64) (k0 + i))) :
    Calls Try.prog 87 #[.slice A n c, .int .i64 k0] w fun e w' => e = .returned (.int .i64 (k0 + n)) ∧ ∃ m, w' = w.drewN m := by
  go_enter Try.func87, Try.ntmps87
  go_wp2
  go_loopw [1, 5] (fun q r wr => ∃ k m : Nat, k ≤ n ∧ r = .int .i64 k ∧ q = .int .i64 (k0 + k) ∧ Hid (wr = w.drewN m)) (fun _ r _ => n - (intOf r).toNat)
  case atStart => exact ⟨0, 0, Nat.zero_le _, rfl, by simp, rfl⟩
  case round =>
    obtain ⟨k, m, hk, rfl, rfl, hw⟩ := hrel
    by_cases hlt : k < n
    · have d1 : (k : Int) < n := by omega
      obtain ⟨x, rfl, hx⟩ := h k hlt
      have hcg : wr.cell? (x.add k) = some ((Value.int .i64) (k0 + k)) := by rw [hw.out]; exact hx
      clear hx h
      go_wp2
      exact ⟨⟨k + 1, m, by omega, by simp, by simp; omega, hw⟩, by simp [intOf]; omega⟩
    · have d1 : ¬ (k : Int) < n := by omega
      have e : k = n := by omega
      subst e
      go_wp2
      go_ret
      exact ⟨rfl, _, hw.out⟩
end Go.Proofs.Ytfpombhhnojjhaa
