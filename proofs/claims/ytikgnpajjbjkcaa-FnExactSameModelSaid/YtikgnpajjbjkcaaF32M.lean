/- Rows of floats in memory: copied, compared, marked, held. -/
import Derived.Test.YtikgnpajjbjkcaaOwn
import Derived.Test.YtikgnpajjbjkcaaSameF
import Derived.Laws.Cover2
set_option linter.unusedVariables false
namespace Go.Proofs.Ytikgnpajjbjkcaa
open Go.RowKit

theorem store_f32 {W : World} {a : Addr} {x : Nat} {old : Value} (h : W.cell? a = some old) (hf : W.frozen? a = false) : (store a (.float .f32 x)).run Try.prog W = .ok () (W.setCell a (.float .f32 x)) := by
  rw [run_store Try.prog W a _ _ rfl, h, hf]
  rfl
theorem infoF : (Try.prog.info? 36).map (fun i => (i.zero, i.size, i.bytes)) = some (some (.float .f32 0), 1, 4) := by kernel_rfl
/-- The row as far as it is copied. -/
def PartF (xs : List Value) (k : Nat) (f : Nat → Nat) : Prop := ∀ i, i < k → xs[i]? = some (.float .f32 (f i))
theorem PartF.step {xs : List Value} {k : Nat} {f : Nat → Nat} (h : PartF xs k f) (hk : k < xs.length) : PartF (xs.set k (.float .f32 (f k))) (k + 1) f := by
  intro i hi
  by_cases e : i = k
  · subst e
    simp [hk]
  · rw [List.getElem?_set_ne (by omega)]
    exact h i (by omega)
theorem toF_any (A : Option Addr) (n c : Nat) (f : Nat → Nat) (w : World) (hn : n ≤ 1048576) (h : Cells w A n (fun i => .float .f32 (f i))) :
    Calls Try.prog 54 #[.slice A n c] w fun e w' => e = .returned (.slice (some ⟨w.heap.size, 0, none⟩) n n) ∧ w.heap.size < w'.heap.size ∧ OwnC w' w.heap.size (some ⟨w.heap.size, 0, none⟩) n (fun i => .float .f32 (f i)) ∧ Below w.heap.size w w' := by
  obtain ⟨i, hi, hz, hs, hb⟩ := info_parts infoF
  go_enter Try.func54, Try.ntmps54
  go_wp2_with (first
    | (at_make; refine wpList_make_full _ rfl _ _ 22 rfl w.heap.size 36 i (.float .f32 0) 1 Try.underlying22 hi hz hs .i64 .i64 _ _ n rfl rfl rfl rfl (by rw [hb]; omega) (by unfold maxLen; omega) (Nat.le_refl _) ?_; intro w0 hown0 hgrow0)
    | go_in)
  have HB0 := Lib.hid ((Below.refl w.heap.size w).grown hgrow0 (Nat.le_refl _) (fun _ h => by cases h))
  go_loopw [4] (fun r wr => ∃ k : Nat, ∃ xs : List Value, k ≤ n ∧ r = .int .i64 k ∧ wr.ownsRow w.heap.size 36 1 (.slice (some ⟨w.heap.size, 0, none⟩) n n) n xs ∧ Hid (Below w.heap.size w wr) ∧ Hid (PartF xs k f)) (fun r _ => n - (intOf r).toNat)
  case atStart => exact ⟨0, _, Nat.zero_le _, rfl, hown0, HB0, fun i hi => by omega⟩
  case round =>
    obtain ⟨k, xs, hk, rfl, hown, HB, HP⟩ := hrel
    have hxl : xs.length = n := by have := hown.1; omega
    by_cases hlt : k < n
    · have d1 : (k : Int) < n := by omega
      obtain ⟨a, rfl, hca⟩ := h k hlt
      have hcw : wr.cell? (a.add k) = some (.float .f32 (f k)) := by rw [HB.out.cell (World.block_lt_of_cell? _ _ hca)]; exact hca
      obtain ⟨old, hcg⟩ : ∃ old, wr.cell? ⟨w.heap.size, k, none⟩ = some old := ⟨xs[k]'(by omega), by
        rw [hown.cellAt k (by omega)]
        exact List.getElem?_eq_getElem (by omega)⟩
      have hfg : wr.frozen? ⟨w.heap.size, k, none⟩ = false := hown.frozenAt k
      have hst := Lib.hid (hown.stored k (.float .f32 (f k)))
      have hP := Lib.hid (HP.out.step (show k < xs.length by omega))
      clear hown hca h
      have hsf := store_f32 (x := f k) hcg hfg
      go_wp2
      exact ⟨⟨k + 1, _, by omega, by simp, hst.out.1, Lib.hid (HB.out.grown hst.out.2 HB.out.size (fun _ h => by cases h; exact Nat.le_refl _)), hP⟩, by simp [intOf]; omega⟩
    · have d1 : ¬ (k : Int) < n := by omega
      have e : k = n := by omega
      subst e
      have hG : w.heap.size < wr.heap.size ∧ OwnC wr w.heap.size (some ⟨w.heap.size, 0, none⟩) k (fun i => .float .f32 (f i)) := by
        refine ⟨?_, fun i hi => ⟨_, rfl, rfl, by rw [add0]; exact hown.frozenAt i, ?_⟩⟩
        · rcases hown.2 with ⟨h', _⟩ | ⟨g', cap', cur, h', _, hg, _⟩
          · cases h'
          · simp only [Value.slice.injEq, Option.some.injEq, Addr.mk.injEq, and_true] at h'
            rw [h'.1]
            exact (Array.getElem?_eq_some_iff.1 hg).1
        · rw [add0, hown.cellAt i (by omega)]
          exact HP.out i hi
      have HG := Lib.hid hG
      clear hown hG HP h
      go_wp2
      go_ret
      exact ⟨rfl, HG.out.1, HG.out.2, HB.out⟩

theorem same_self {v : Nat} (h : nanB .f32 v = false) : Same64 (wide v) (wide v) := .inl ⟨rfl, (wide_some h).2⟩
set_option maxHeartbeats 8000000 in
/-- Equal rows compare as equal. -/
theorem eqF_any (A B : Option Addr) (n c d : Nat) (f : Nat → Nat) (w : World) (hn : n ≤ 4611686018427387904) (hg : Cells w A n (fun i => .float .f32 (f i))) (hh : Cells w B n (fun i => .float .f32 (f i))) :
    Calls Try.prog 31 #[.slice A n c, .slice B n d] w fun e w' => e = .returned (.bool true) ∧ ∃ m, w' = w.drewN m := by
  go_enter Try.func31, Try.ntmps31
  go_wp2
  go_loopw [5] (fun r wr => ∃ k m : Nat, k ≤ n ∧ r = .int .i64 k ∧ Hid (wr = w.drewN m)) (fun r _ => n - (intOf r).toNat)
  case atStart => exact ⟨0, 0, Nat.zero_le _, rfl, rfl⟩
  case round =>
    obtain ⟨k, m, hk, rfl, hw⟩ := hrel
    by_cases hlt : k < n
    · have d1 : (k : Int) < n := by omega
      obtain ⟨x, rfl, hx⟩ := hg k hlt
      obtain ⟨y, rfl, hy⟩ := hh k hlt
      have hcg : wr.cell? (x.add k) = some (.float .f32 (f k)) := by rw [hw.out]; exact hx
      have hch : wr.cell? (y.add k) = some (.float .f32 (f k)) := by rw [hw.out]; exact hy
      clear hx hy
      cases hnan : nanB .f32 (f k)
      · have c := cv_some hnan
        have HS := Lib.hid (same_self hnan)
        clear hnan
        generalize f k = v at *
        go_wp2_with fail
        go_quiet ((go_at_call 40; refine Calls.quiet_of_same ((sameFloat_any _ _ _ HS.out).mono fun e w' h => ⟨h.1, h.2.symm⟩)))
        go_wp2_with fail
        exact ⟨⟨k + 1, m + nq, by omega, by simp, by rw [hw.out]; exact World.drewN_drewN ..⟩, by simp [intOf]; omega⟩
      · have c := cv_nan hnan
        clear hnan
        generalize f k = v at *
        go_wp2_with fail
        go_region_with ((go_at_call 40; refine (sameFloat_any _ _ _ (.inr ⟨nanOf_conv _ _ _, nanOf_conv _ _ _⟩)).mono ?_; rintro e w' ⟨rfl, rfl⟩))
        all_goals (go_wp2_with fail; refine ⟨⟨k + 1, m + 3, by omega, by simp, ?_⟩, by simp [intOf]; omega⟩; rw [hw.out]; exact rfl)
    · have d1 : ¬ (k : Int) < n := by omega
      go_wp2
      go_ret
      exact ⟨rfl, _, hw.out⟩

/-- The mark k as a float. -/
def mkF (k : Int) : Nat := floatOfInt .f32 k
theorem mkF_num {k : Int} (h0 : 0 ≤ k) (h1 : k ≤ 4611686018427387904) : nanB .f32 (mkF k) = false := by
  have h : Fl.Bd Ieee.single 211 (mkF k) := by
    show Fl.Bd Ieee.single 211 (Ieee.single.nearest _ _ _)
    refine Fl.nearest_bd (by rw [top32]; omega) eb32 _ _ _ ?_
    rw [least32]
    unfold Fl.Le2
    have e1 : (0 - (((211 : Nat) : Int) + -149)).toNat = 0 := by omega
    have e2 : (((211 : Nat) : Int) + -149 - 0).toNat = 62 := by omega
    rw [e1, e2]
    omega
  obtain ⟨s, m, p, h, _⟩ := h
  unfold nanB
  rw [show FloatKind.f32.decode (mkF k) = _ from h]
  rfl
theorem cv_mark (k : Int) (w : World) : (convert 3 36 (.int .i64 k)).run Try.prog w = .ok (.float .f32 (mkF k)) w :=
  run_convert_int_float w _ _ _ _ _ (by rw [Try.underlying3]; rfl) Try.underlying36
/-- The marks on a row of floats: those that have been made, and what lies behind. -/
def markFV (V : Nat → Value) (k0 : Int) (k : Nat) (i : Nat) : Value := if i < k then .float .f32 (mkF (k0 + i)) else V i
theorem markFV_step (V : Nat → Value) (k0 : Int) (k : Nat) : (fun i => if i = k then .float .f32 (mkF (k0 + k)) else markFV V k0 k i) = markFV V k0 (k + 1) := by
  funext i
  unfold markFV
  by_cases e : i = k
  · subst e; simp
  · rw [if_neg e]
    by_cases h : i < k
    · rw [if_pos h, if_pos (by omega)]
    · rw [if_neg h, if_neg (by omega)]
theorem markF_any (A : Option Addr) (n c g : Nat) (V : Nat → Value) (k0 : Int) (w : World) (h0 : 0 ≤ k0) (h1 : k0 + n ≤ 4611686018427387904) (h : OwnC w g A n V) :
    Calls Try.prog 34 #[.slice A n c, .int .i64 k0] w fun e w' => e = .returned (.int .i64 (k0 + n)) ∧ OwnC w' g A n (fun i => .float .f32 (mkF (k0 + i))) ∧ ∀ lo hi, lo ≤ g → (0 < n → g < hi) → Within lo hi w w' := by
  go_enter Try.func34, Try.ntmps34
  go_wp2
  go_loopw [1, 5] (fun q r wr => ∃ k : Nat, k ≤ n ∧ r = .int .i64 k ∧ q = .int .i64 (k0 + k) ∧ Hid (OwnC wr g A n (markFV V k0 k)) ∧ Hid (∀ lo hi, lo ≤ g → (0 < n → g < hi) → Within lo hi w wr)) (fun _ r _ => n - (intOf r).toNat)
  case atStart => exact ⟨0, Nat.zero_le _, rfl, by simp, h.congr fun i _ => by unfold markFV; simp, fun lo hi _ _ => Within.refl _ _ _⟩
  case round =>
    obtain ⟨k, hk, rfl, rfl, HO, HW⟩ := hrel
    clear h
    by_cases hlt : k < n
    · have d1 : (k : Int) < n := by omega
      obtain ⟨x, rfl, hxg, hfg, hcg⟩ := HO.out k hlt
      have HS := Lib.hid (HO.out.set rfl hlt (.float .f32 (mkF (k0 + k))))
      have HW2 := Lib.hid (fun lo hi h2 h3 => (HW.out lo hi h2 h3).trans (Within.setCell wr (p := x.add k) (by rw [block_add, hxg]; exact h2) (by rw [block_add, hxg]; exact h3 (by omega)) (.float .f32 (mkF (k0 + k)))))
      have HG := Lib.hid hxg
      have c := cv_mark (k0 + k)
      clear hxg HO HW
      generalize markFV V k0 k k = old at *
      have hsf := store_f32 (x := mkF (k0 + k)) hcg hfg
      go_wp2
      exact ⟨⟨k + 1, by omega, by simp, by simp; omega, by rw [← markFV_step]; exact HS.out, HW2.out⟩, by simp [intOf]; omega⟩
    · have d1 : ¬ (k : Int) < n := by omega
      have e : k = n := by omega
      subst e
      go_wp2
      go_ret
      exact ⟨rfl, HO.out.congr fun i hi => by unfold markFV; rw [if_pos hi], HW.out⟩
theorem heldF_any (A : Option Addr) (n c : Nat) (k0 : Int) (w : World) (h0 : 0 ≤ k0) (h1 : k0 + n ≤ 4611686018427387904) (h : Cells w A n (fun i => .float .f32 (mkF (k0 + i)))) :
    Calls Try.prog 35 #[.slice A n c, .int .i64 k0] w fun e w' => e = .returned (.int .i64 (k0 + n)) ∧ ∃ m, w' = w.drewN m := by
  go_enter Try.func35, Try.ntmps35
  go_wp2
  go_loopw [1, 5] (fun q r wr => ∃ k m : Nat, k ≤ n ∧ r = .int .i64 k ∧ q = .int .i64 (k0 + k) ∧ Hid (wr = w.drewN m)) (fun _ r _ => n - (intOf r).toNat)
  case atStart => exact ⟨0, 0, Nat.zero_le _, rfl, by simp, rfl⟩
  case round =>
    obtain ⟨k, m, hk, rfl, rfl, hw⟩ := hrel
    by_cases hlt : k < n
    · have d1 : (k : Int) < n := by omega
      obtain ⟨x, rfl, hx⟩ := h k hlt
      have hcg : wr.cell? (x.add k) = some (.float .f32 (mkF (k0 + k))) := by rw [hw.out]; exact hx
      have hq : (FloatKind.f32.format.order (mkF (k0 + k)) (mkF (k0 + k)) != some .eq) = false := by rw [ne_self]; exact mkF_num (by omega) (by omega)
      have c := cv_mark (k0 + k)
      clear hx h
      go_wp2
      exact ⟨⟨k + 1, m, by omega, by simp, by simp; omega, hw⟩, by simp [intOf]; omega⟩
    · have d1 : ¬ (k : Int) < n := by omega
      have e : k = n := by omega
      subst e
      go_wp2
      go_ret
      exact ⟨rfl, _, hw.out⟩
end Go.Proofs.Ytikgnpajjbjkcaa
