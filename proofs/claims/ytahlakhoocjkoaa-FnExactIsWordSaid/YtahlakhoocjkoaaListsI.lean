/- Lists of integers: copied and compared. -/
import Derived.Test.YtahlakhoocjkoaaChecked
import Derived.Lib.Hide
import Derived.LoopTactic
import Derived.Deep.Draws
import Derived.OwnWalk
import Derived.Laws.OwnMore
import Derived.WalkKit
import Derived.Deep.QuietTactic
import Derived.Deep.RegionWith
import Derived.Below
set_option linter.unusedVariables false
namespace Go.Proofs.Ytahlakhoocjkoaa
open Go.RowKit

/-- The row at block g holds the floats f from 0 on. -/
def At64 (w : World) (g n : Nat) (f : Nat → Int) : Prop := g < w.heap.size ∧ ∀ i, i < n → w.cell? ⟨g, i, none⟩ = some (.int .i64 (f i))

theorem At64.below {w w' : World} {g n : Nat} {f : Nat → Int} (h : At64 w g n f) {B : Nat} (hg : g < B) (b : Below B w w') : At64 w' g n f :=
  ⟨Nat.lt_of_lt_of_le h.1 b.size, fun i hi => by rw [b.cell hg]; exact h.2 i hi⟩

theorem info_i64 : (Try.prog.info? 2).map (fun i => (i.zero, i.size, i.bytes)) = some (some (.int .i64 0), 1, 8) := by kernel_rfl

/-- The row as far as it is copied. -/
def Part64 (xs : List Value) (k : Nat) (f : Nat → Int) : Prop := ∀ i, i < k → xs[i]? = some (.int .i64 (f i))

theorem Part64.step {xs : List Value} {k : Nat} {f : Nat → Int} (h : Part64 xs k f) (hk : k < xs.length) : Part64 (xs.set k (.int .i64 (f k))) (k + 1) f := by
  intro i hi
  by_cases e : i = k
  · subst e
    simp [hk]
  · rw [List.getElem?_set_ne (by omega)]
    exact h i (by omega)

theorem toI_some (a : Addr) (n cap : Nat) (f : Nat → Int) (w : World) (hn : n ≤ 1048576) (hc : ∀ i, i < n → w.cell? (a.add i) = some (.int .i64 (f i))) :
    Calls Try.prog 23 #[.slice (some a) n cap] w fun e w' => ∃ g, e = .returned (.slice (some ⟨g, 0, none⟩) n n) ∧ w.heap.size ≤ g ∧ At64 w' g n f ∧ Below w.heap.size w w' := by
  obtain ⟨i, hi, hz, hs, hb⟩ := info_parts info_i64
  go_enter Try.func23, Try.ntmps23
  go_wp2_with (first
    | (at_make; refine wpList_make_full _ rfl _ _ 23 rfl w.heap.size 2 i (.int .i64 0) 1 Try.underlying23 hi hz hs .i64 .i64 _ _ n rfl rfl rfl rfl (by rw [hb]; omega) (by unfold maxLen; omega) (Nat.le_refl _) ?_; intro w0 hown0 hgrow0)
    | go_in)
  have HB0 := Lib.hid ((Below.refl w.heap.size w).grown hgrow0 (Nat.le_refl _) (fun _ h => by cases h))
  go_loopw [4] (fun r wr => ∃ k : Nat, ∃ xs : List Value, k ≤ n ∧ r = .int .i64 k ∧ wr.ownsRow w.heap.size 2 1 (.slice (some ⟨w.heap.size, 0, none⟩) n n) n xs ∧ Hid (Below w.heap.size w wr) ∧ Hid (Part64 xs k f)) (fun r _ => n - (intOf r).toNat)
  case atStart => exact ⟨0, _, Nat.zero_le _, rfl, hown0, HB0, fun i hi => by omega⟩
  case round =>
    obtain ⟨k, xs, hk, rfl, hown, HB, HP⟩ := hrel
    have hxl : xs.length = n := by have := hown.1; omega
    by_cases hlt : k < n
    · have d1 : (k : Int) < n := by omega
      have hca := hc k hlt
      have hcw : wr.cell? (a.add k) = some (.int .i64 (f k)) := by rw [HB.out.cell (World.block_lt_of_cell? _ _ hca)]; exact hca
      obtain ⟨old, hcg⟩ : ∃ old, wr.cell? ⟨w.heap.size, k, none⟩ = some old := ⟨xs[k]'(by omega), by
        rw [hown.cellAt k (by omega)]
        exact List.getElem?_eq_getElem (by omega)⟩
      have hfg : wr.frozen? ⟨w.heap.size, k, none⟩ = false := hown.frozenAt k
      have hst := Lib.hid (hown.stored k (.int .i64 (f k)))
      have hP := Lib.hid (HP.out.step (show k < xs.length by omega))
      clear hown hca
      go_wp2
      exact ⟨⟨k + 1, _, by omega, by simp, hst.out.1, Lib.hid (HB.out.grown hst.out.2 HB.out.size (fun _ h => by cases h; exact Nat.le_refl _)), hP⟩, by simp [intOf]; omega⟩
    · have d1 : ¬ (k : Int) < n := by omega
      have e : k = n := by omega
      subst e
      have hG : At64 wr w.heap.size k f := by
        refine ⟨?_, fun i hi => ?_⟩
        · rcases hown.2 with ⟨h', _⟩ | ⟨g', cap', cur, h', _, hg, _⟩
          · cases h'
          · simp only [Value.slice.injEq, Option.some.injEq, Addr.mk.injEq, and_true] at h'
            rw [h'.1]
            exact (Array.getElem?_eq_some_iff.1 hg).1
        · rw [hown.cellAt i (by omega)]
          exact HP.out i hi
      have HG := Lib.hid hG
      clear hown hG HP
      go_wp2
      go_ret
      exact ⟨_, rfl, Nat.le_refl _, HG.out, HB.out⟩

theorem toI_nil (w : World) :
    Calls Try.prog 23 #[.slice none 0 0] w fun e w' => ∃ g, e = .returned (.slice (some ⟨g, 0, none⟩) 0 0) ∧ w.heap.size ≤ g ∧ g < w'.heap.size ∧ Below w.heap.size w w' := by
  obtain ⟨i, hi, hz, hs, hb⟩ := info_parts info_i64
  go_enter Try.func23, Try.ntmps23
  go_wp2_with (first
    | (at_make; refine wpList_make_full _ rfl _ _ 23 rfl w.heap.size 2 i (.int .i64 0) 1 Try.underlying23 hi hz hs .i64 .i64 _ _ 0 rfl rfl rfl rfl (by rw [hb]; omega) (by unfold maxLen; omega) (Nat.le_refl _) ?_; intro w0 hown0 hgrow0)
    | go_in)
  have HB0 := Lib.hid ((Below.refl w.heap.size w).grown hgrow0 (Nat.le_refl _) (fun _ h => by cases h))
  have hG : w.heap.size < w0.heap.size := by
    rcases hown0.2 with ⟨h', _⟩ | ⟨g', cap', cur, h', _, hg, _⟩
    · cases h'
    · simp only [Value.slice.injEq, Option.some.injEq, Addr.mk.injEq, and_true] at h'
      rw [h'.1]
      exact (Array.getElem?_eq_some_iff.1 hg).1
  clear hown0 hgrow0
  refine wp_loop_rounds 1 ?_
  rw [rounds_succ]
  go_wp2
  go_ret
  exact ⟨_, rfl, Nat.le_refl _, hG, HB0.out⟩

theorem eqI_any (g h n : Nat) (f : Nat → Int) (w : World) (hn : n ≤ 1048576) (hg : At64 w g n f) (hh : At64 w h n f) :
    Calls Try.prog 25 #[.slice (some ⟨g, 0, none⟩) n n, .slice (some ⟨h, 0, none⟩) n n] w fun e w' => e = .returned (.bool true) ∧ Below w.heap.size w w' := by
  go_enter Try.func25, Try.ntmps25
  go_wp2
  go_loopw [5] (fun r wr => ∃ k m : Nat, k ≤ n ∧ r = .int .i64 k ∧ Hid (wr = w.drewN m)) (fun r _ => n - (intOf r).toNat)
  case atStart => exact ⟨0, 0, Nat.zero_le _, rfl, rfl⟩
  case round =>
    obtain ⟨k, m, hk, rfl, hw⟩ := hrel
    by_cases hlt : k < n
    · have d1 : (k : Int) < n := by omega
      have hcg : wr.cell? ⟨g, k, none⟩ = some (.int .i64 (f k)) := by rw [hw.out]; exact hg.2 k hlt
      have hch : wr.cell? ⟨h, k, none⟩ = some (.int .i64 (f k)) := by rw [hw.out]; exact hh.2 k hlt
      generalize f k = v at *
      go_wp2_with fail
      go_region
      all_goals (go_wp2_with fail; refine ⟨⟨k + 1, m + 1, by omega, by simp, ?_⟩, by simp [intOf]; omega⟩; rw [hw.out]; exact rfl)
    · have d1 : ¬ (k : Int) < n := by omega
      go_wp2
      go_ret
      exact ⟨rfl, by rw [hw.out]; exact ⟨rfl, rfl, rfl, Nat.le_refl _, fun _ _ => rfl⟩⟩

/-- What a slice of floats shows of itself: nil, or its cells. -/
def V64 (w : World) (a : Option Addr) (n cap : Nat) (f : Nat → Int) : Prop :=
  (a = none ∧ n = 0 ∧ cap = 0) ∨ ∃ x : Addr, a = some x ∧ ∀ i, i < n → w.cell? (x.add i) = some (.int .i64 (f i))

theorem V64.below {w w' : World} {a : Option Addr} {n cap : Nat} {f : Nat → Int} (h : V64 w a n cap f) (b : Below w.heap.size w w') : V64 w' a n cap f := by
  rcases h with h | ⟨x, h1, h2⟩
  · exact .inl h
  · exact .inr ⟨x, h1, fun i hi => by rw [b.cell (World.block_lt_of_cell? _ _ (h2 i hi))]; exact h2 i hi⟩

theorem toI_any (a : Option Addr) (n cap : Nat) (f : Nat → Int) (w : World) (hn : n ≤ 1048576) (h : V64 w a n cap f) :
    Calls Try.prog 23 #[.slice a n cap] w fun e w' => ∃ g, e = .returned (.slice (some ⟨g, 0, none⟩) n n) ∧ w.heap.size ≤ g ∧ At64 w' g n f ∧ Below w.heap.size w w' := by
  rcases h with ⟨rfl, rfl, rfl⟩ | ⟨x, rfl, h⟩
  · exact (toI_nil w).mono fun e w' ⟨g, h1, h2, h3, h4⟩ => ⟨g, h1, h2, ⟨h3, fun i hi => by omega⟩, h4⟩
  · exact toI_some x n cap f w hn h

end Go.Proofs.Ytahlakhoocjkoaa
