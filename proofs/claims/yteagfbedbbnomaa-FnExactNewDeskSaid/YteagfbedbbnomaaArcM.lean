/- Rows of arcs: copied, compared. -/
import Derived.Test.YteagfbedbbnomaaOwn
import Derived.Test.YteagfbedbbnomaaBoxP
import Derived.Test.YteagfbedbbnomaaQuad
import Derived.Deep.CutRange
set_option linter.unusedVariables false
namespace Go.Proofs.Yteagfbedbbnomaa
open Go.RowKit

theorem toArc_any (a b c d : Int) (w : World) :
    Calls Try.prog 80 #[.agg #[.int .i64 a, .int .i64 b, .int .i64 c, .int .i64 d]] w fun e w' => e = .returned (.agg #[.int .i64 a, .int .i64 b, .int .i64 c, .int .i64 d]) ∧ Below w.heap.size w w' := by
  go_enter Try.func80, Try.ntmps80
  go_wp2_with fail
  refine bodyPost_ret (v := .agg #[.int .i64 a, .int .i64 b, .int .i64 c, .int .i64 d]) ?r1 rfl ?r2
  case r1 => simp [results, Try.results80, go_sem]
  case r2 => exact ⟨rfl, (by repeat (first | exact Below.refl _ _ | exact Hid.out (by assumption) | refine below_alloc ?_ _ | refine Below.setCell ?_ (by simp <;> omega) _ | refine Below.alloc ?_ (by simp <;> omega) _ | refine Below.drew ?_ | refine below_drewN ?_ _))⟩

theorem infoArc : (Try.prog.info? 77).map (fun i => (i.zero, i.size, i.bytes)) = some (some (.agg #[.int .i64 0, .int .i64 0, .int .i64 0, .int .i64 0]), 4, 32) := by kernel_rfl

set_option maxRecDepth 20000 in
theorem toArcS_any (A : Option Addr) (n c : Nat) (f : Nat → Int) (w : World) (hn : n ≤ 1048576) (h : Cells w A (n * 4) (fun i => .int .i64 (f i))) :
    Calls Try.prog 57 #[.slice A n c] w fun e w' => e = .returned (.slice (some ⟨w.heap.size, 0, none⟩) n n) ∧ w.heap.size < w'.heap.size ∧ OwnC w' w.heap.size (some ⟨w.heap.size, 0, none⟩) (n * 4) (fun i => .int .i64 (f i)) ∧ Below w.heap.size w w' := by
  obtain ⟨i, hi, hz, hs, hb⟩ := info_parts infoArc
  have H := Lib.hid h
  clear h
  go_enter Try.func57, Try.ntmps57
  go_wp2_with (first
    | (at_make; refine wpList_make_full _ rfl _ _ 36 rfl w.heap.size 77 i (.agg #[.int .i64 0, .int .i64 0, .int .i64 0, .int .i64 0]) 4 Try.underlying36 hi hz hs .i64 .i64 _ _ n rfl rfl rfl rfl (by rw [hb]; omega) (by unfold maxLen; omega) (Nat.le_refl _) ?_; intro w0 hown0 hgrow0)
    | go_in)
  have HB0 := Lib.hid ((Below.refl w.heap.size w).grown hgrow0 (Nat.le_refl _) (fun _ h => by cases h))
  have HO0 := Lib.hid (OwnC.made hown0)
  clear hown0 hgrow0
  generalize (fun i => (madeCells _ (n * 4)).toList.getD i undef) = V0 at *
  go_loopw [4] (fun r wr => ∃ k : Nat, ∃ V : Nat → Value, k ≤ n ∧ r = .int .i64 k ∧ Hid (w.heap.size < wr.heap.size ∧ OwnC wr w.heap.size (some ⟨w.heap.size, 0, none⟩) (n * 4) V) ∧ Hid (∀ i, i < k * 4 → V i = .int .i64 (f i)) ∧ Hid (Below w.heap.size w wr)) (fun r _ => n - (intOf r).toNat)
  case atStart => exact ⟨0, V0, Nat.zero_le _, rfl, HO0.out, fun i hi => by omega, HB0.out⟩
  case round =>
    obtain ⟨k, V, hk, rfl, HO, HV, HB⟩ := hrel
    by_cases hlt : k < n
    · have d1 : (k : Int) < n := by omega
      obtain ⟨x, rfl, -⟩ := H.out (k * 4) (by omega)
      have hr : ∀ j, j < 4 → wr.cell? (x.add (k * 4 + j)) = some (.int .i64 (f (k * 4 + j))) := fun j hj => by
        obtain ⟨y, hy, hc⟩ := H.out (k * 4 + j) (by omega)
        cases hy
        rw [HB.out.cell (World.block_lt_of_cell? _ _ hc)]
        exact hc
      have q0 : wr.cell? (x.add (k * 4)) = some (.int .i64 (f (k * 4))) := hr 0 (by omega)
      have q1 : wr.cell? ⟨(x.add (k * 4)).block, (x.add (k * 4)).off + 1, none⟩ = some (.int .i64 (f (k * 4 + 1))) := by rw [← add_pos (by omega), add_add']; exact hr 1 (by omega)
      have q2 : wr.cell? ⟨(x.add (k * 4)).block, (x.add (k * 4)).off + 2, none⟩ = some (.int .i64 (f (k * 4 + 2))) := by rw [← add_pos (by omega), add_add']; exact hr 2 (by omega)
      have q3 : wr.cell? ⟨(x.add (k * 4)).block, (x.add (k * 4)).off + 3, none⟩ = some (.int .i64 (f (k * 4 + 3))) := by rw [← add_pos (by omega), add_add']; exact hr 3 (by omega)
      have HF := Lib.hid (show ∀ j, j < 4 → (fun i => f (k * 4 + i)) j = f (k * 4 + j) from fun _ _ => rfl)
      clear hr
      go_wp2_with fail
      refine (toArc_any _ _ _ _ _).mono ?_
      rintro e w1 ⟨rfl, hb1⟩
      have HB1 := Lib.hid (HB.out.trans (hb1.mono HB.out.size))
      have HO1 := Lib.hid (show w.heap.size < w1.heap.size ∧ OwnC w1 w.heap.size (some ⟨w.heap.size, 0, none⟩) (n * 4) V from ⟨Nat.lt_of_lt_of_le HO.out.1 hb1.size, HO.out.2.below hb1⟩)
      have hd : ∀ j, j < 4 → w1.frozen? ⟨w.heap.size, k * 4 + j, none⟩ = false ∧ w1.cell? ⟨w.heap.size, k * 4 + j, none⟩ = some (V (k * 4 + j)) := fun j hj => by
        obtain ⟨y, hy, _, h3, h4⟩ := HO1.out.2 (k * 4 + j) (by omega)
        cases hy
        rw [add0] at h3 h4
        exact ⟨h3, h4⟩
      obtain ⟨f0, t0⟩ := hd 0 (by omega)
      obtain ⟨f1, t1⟩ := hd 1 (by omega)
      obtain ⟨f2, t2⟩ := hd 2 (by omega)
      obtain ⟨f3, t3⟩ := hd 3 (by omega)
      rw [Nat.add_zero] at f0 t0
      clear hd hb1 q0 q1 q2 q3
      go_wp2_with fail
      refine ⟨⟨k + 1, set4 V (k * 4) (.int .i64 (f (k * 4))) (.int .i64 (f (k * 4 + 1))) (.int .i64 (f (k * 4 + 2))) (.int .i64 (f (k * 4 + 3))), by omega, by simp, ⟨by simp only [World.size_setCell]; exact HO1.out.1, OwnC.set4 HO1.out.2 (by omega) _ _ _ _⟩, fun i hi => ?_, ?_⟩, by simp [intOf]; omega⟩
      · unfold set4
        by_cases e3 : i = k * 4 + 3
        · subst e3; simp
        · by_cases e2 : i = k * 4 + 2
          · subst e2; simp
          · by_cases e1 : i = k * 4 + 1
            · subst e1; simp
            · by_cases e0 : i = k * 4
              · subst e0; simp
              · simp only [if_neg e3, if_neg e2, if_neg e1, if_neg e0]
                exact HV.out i (by omega)
      · exact (by repeat (first | exact Below.refl _ _ | exact Hid.out (by assumption) | refine below_alloc ?_ _ | refine Below.setCell ?_ (by simp <;> omega) _ | refine Below.alloc ?_ (by simp <;> omega) _ | refine Below.drew ?_ | refine below_drewN ?_ _))
    · have d1 : ¬ (k : Int) < n := by omega
      have e : k = n := by omega
      subst e
      go_wp2_with fail
      go_ret
      exact ⟨rfl, HO.out.1, HO.out.2.congr fun i hi => HV.out i hi, HB.out⟩

theorem eqArc_any (a b c d : Int) (w : World) :
    Calls Try.prog 83 #[.agg #[.int .i64 a, .int .i64 b, .int .i64 c, .int .i64 d], .agg #[.int .i64 a, .int .i64 b, .int .i64 c, .int .i64 d]] w fun e w' => e = .returned (.bool true) ∧ Below w.heap.size w w' := by
  go_enter Try.func83, Try.ntmps83
  go_wp2_with fail
  go_ret
  exact ⟨rfl, (by repeat (first | exact Below.refl _ _ | exact Hid.out (by assumption) | refine below_alloc ?_ _ | refine Below.setCell ?_ (by simp <;> omega) _ | refine Below.alloc ?_ (by simp <;> omega) _ | refine Below.drew ?_ | refine below_drewN ?_ _))⟩

set_option maxRecDepth 20000 in
theorem eqArcS_any (A B : Option Addr) (n c d : Nat) (f : Nat → Int) (w : World) (hn : n ≤ 4611686018427387904) (hg : Cells w A (n * 4) (fun i => .int .i64 (f i))) (hh : Cells w B (n * 4) (fun i => .int .i64 (f i))) :
    Calls Try.prog 66 #[.slice A n c, .slice B n d] w fun e w' => e = .returned (.bool true) ∧ Below w.heap.size w w' := by
  have HG := Lib.hid hg
  have HH := Lib.hid hh
  clear hg hh
  go_enter Try.func66, Try.ntmps66
  go_wp2_with fail
  go_loopw [5] (fun r wr => ∃ k : Nat, k ≤ n ∧ r = .int .i64 k ∧ Hid (Below w.heap.size w wr)) (fun r _ => n - (intOf r).toNat)
  case atStart => exact ⟨0, Nat.zero_le _, rfl, Below.refl _ _⟩
  case round =>
    obtain ⟨k, hk, rfl, HB⟩ := hrel
    by_cases hlt : k < n
    · have d1 : (k : Int) < n := by omega
      obtain ⟨x, rfl, -⟩ := HG.out (k * 4) (by omega)
      obtain ⟨y, rfl, -⟩ := HH.out (k * 4) (by omega)
      obtain ⟨p0, p1, p2, p3⟩ := four (wr := wr) HG.out hlt fun p hp => HB.out.cell hp
      obtain ⟨q0, q1, q2, q3⟩ := four (wr := wr) HH.out hlt fun p hp => HB.out.cell hp
      generalize f (k * 4) = u0 at *
      generalize f (k * 4 + 1) = u1 at *
      generalize f (k * 4 + 2) = u2 at *
      generalize f (k * 4 + 3) = u3 at *
      go_upto_region 6 with fail
      go_region_with ((go_at_call 83; refine (eqArc_any _ _ _ _ _).mono ?_; rintro e w1 ⟨rfl, hb⟩; have HB1 := Lib.hid (show Below w.heap.size w w1 from Below.trans (by repeat (first | exact Below.refl _ _ | exact Hid.out (by assumption) | refine below_alloc ?_ _ | refine Below.setCell ?_ (by simp <;> omega) _ | refine Below.alloc ?_ (by simp <;> omega) _ | refine Below.drew ?_ | refine below_drewN ?_ _)) (hb.mono HB.out.size)); clear hb))
      all_goals (go_wp2_with fail; exact ⟨⟨k + 1, by omega, by simp, HB1.out⟩, by simp [intOf]; omega⟩)
    · have d1 : ¬ (k : Int) < n := by omega
      go_wp2_with fail
      go_ret
      exact ⟨rfl, HB.out⟩

set_option maxRecDepth 20000 in
set_option maxHeartbeats 1000000 in
theorem markArcS_any (A : Option Addr) (n c g : Nat) (V : Nat → Value) (k0 : Int) (w : World) (h0 : 0 ≤ k0) (h1 : k0 + 4 * n ≤ 4611686018427387904) (h : OwnC w g A (n * 4) V) :
    Calls Try.prog 72 #[.slice A n c, .int .i64 k0] w fun e w' => e = .returned (.int .i64 (k0 + 4 * n)) ∧ OwnC w' g A (n * 4) (fun i => .int .i64 (k0 + i)) ∧ ∀ lo hi, lo ≤ g → (0 < n → g < hi) → Within lo hi w w' := by
  go_enter Try.func72, Try.ntmps72
  go_wp2_with fail
  go_loopw [1, 5] (fun q r wr => ∃ k : Nat, k ≤ n ∧ r = .int .i64 k ∧ q = .int .i64 (k0 + 4 * k) ∧ Hid (OwnC wr g A (n * 4) (markV (Value.int .i64) V k0 (k * 4))) ∧ Hid (∀ lo hi, lo ≤ g → (0 < n → g < hi) → Within lo hi w wr)) (fun _ r _ => n - (intOf r).toNat)
  case atStart => exact ⟨0, Nat.zero_le _, rfl, by simp, h.congr fun i _ => by unfold markV; simp, fun lo hi _ _ => Within.refl _ _ _⟩
  case round =>
    obtain ⟨k, hk, rfl, rfl, HO, HW⟩ := hrel
    clear h
    by_cases hlt : k < n
    · have d1 : (k : Int) < n := by omega
      obtain ⟨x, rfl, hxg, -, -⟩ := HO.out (k * 4) (by omega)
      have hd : ∀ j, j < 4 → wr.frozen? (x.add (k * 4 + j)) = false ∧ ∃ o, wr.cell? (x.add (k * 4 + j)) = some o := fun j hj => by
        obtain ⟨y, hy, _, h3, h4⟩ := HO.out (k * 4 + j) (by omega)
        cases hy
        exact ⟨h3, _, h4⟩
      obtain ⟨f0, o0, t0⟩ := hd 0 (by omega)
      obtain ⟨f1, o1, t1⟩ := hd 1 (by omega)
      obtain ⟨f2, o2, t2⟩ := hd 2 (by omega)
      obtain ⟨f3, o3, t3⟩ := hd 3 (by omega)
      rw [Nat.add_zero] at f0 t0
      rw [← add_add', add_pos (by omega)] at f1 t1 f2 t2 f3 t3
      have HS := Lib.hid (OwnC.set4g HO.out (k := k * 4) (by omega) (.int .i64 (k0 + 4 * k)) (.int .i64 (k0 + 4 * k + 1)) (.int .i64 (k0 + 4 * k + 2)) (.int .i64 (k0 + 4 * k + 3)))
      have HW2 := Lib.hid (fun lo hi h2 h3 => (HW.out lo hi h2 h3).trans (Within.set4g wr x (k * 4) (by rw [hxg]; exact h2) (by rw [hxg]; exact h3 (by omega)) (.int .i64 (k0 + 4 * k)) (.int .i64 (k0 + 4 * k + 1)) (.int .i64 (k0 + 4 * k + 2)) (.int .i64 (k0 + 4 * k + 3))))
      have HG := Lib.hid hxg
      have n1 : ∀ j, j ≠ 0 → ¬ (x.add (k * 4) = (⟨(x.add (k * 4)).block, (x.add (k * 4)).off + j, none⟩ : Addr)) := fun j hj e => by have := congrArg Addr.off e; simp at this; omega
      have n2 : ∀ j, j ≠ 0 → ¬ ((⟨(x.add (k * 4)).block, (x.add (k * 4)).off + j, none⟩ : Addr) = x.add (k * 4)) := fun j hj e => n1 j hj e.symm
      have m1 := n1 1 (by omega)
      have m2 := n1 2 (by omega)
      have m3 := n1 3 (by omega)
      have l1 := n2 1 (by omega)
      have l2 := n2 2 (by omega)
      have l3 := n2 3 (by omega)
      clear hxg HO HW hd n1 n2
      go_wp2_with fail
      refine ⟨⟨k + 1, by omega, by simp, by simp; omega, ?_, ?_⟩, by simp [intOf]; omega⟩
      · rw [← markV_set4]
        have := HS.out
        simp only [show k0 + 4 * (k : Int) + 1 + 1 = k0 + 4 * k + 2 by omega, show k0 + 4 * (k : Int) + 2 + 1 = k0 + 4 * k + 3 by omega] at *
        exact this
      · have := HW2.out
        simp only [show k0 + 4 * (k : Int) + 1 + 1 = k0 + 4 * k + 2 by omega, show k0 + 4 * (k : Int) + 2 + 1 = k0 + 4 * k + 3 by omega] at *
        exact this
    · have d1 : ¬ (k : Int) < n := by omega
      have e : k = n := by omega
      subst e
      go_wp2_with fail
      go_ret
      exact ⟨rfl, HO.out.congr fun i hi => by unfold markV; rw [if_pos hi], HW.out⟩

set_option maxRecDepth 20000 in
set_option maxHeartbeats 1000000 in
theorem heldArcS_any (A : Option Addr) (n c : Nat) (k0 : Int) (w : World) (h0 : 0 ≤ k0) (h1 : k0 + 4 * n ≤ 4611686018427387904) (h : Cells w A (n * 4) (fun i => .int .i64 (k0 + i))) :
    Calls Try.prog 75 #[.slice A n c, .int .i64 k0] w fun e w' => e = .returned (.int .i64 (k0 + 4 * n)) ∧ ∃ m, w' = w.drewN m := by
  have H := Lib.hid h
  clear h
  go_enter Try.func75, Try.ntmps75
  go_wp2_with fail
  go_loopw [1, 5] (fun q r wr => ∃ k m : Nat, k ≤ n ∧ r = .int .i64 k ∧ q = .int .i64 (k0 + 4 * k) ∧ Hid (wr = w.drewN m)) (fun _ r _ => n - (intOf r).toNat)
  case atStart => exact ⟨0, 0, Nat.zero_le _, rfl, by simp, rfl⟩
  case round =>
    obtain ⟨k, m, hk, rfl, rfl, hw⟩ := hrel
    by_cases hlt : k < n
    · have d1 : (k : Int) < n := by omega
      obtain ⟨x, rfl, -⟩ := H.out (k * 4) (by omega)
      obtain ⟨q0, q1, q2, q3⟩ := four (wr := wr) (f := fun i => k0 + i) H.out hlt fun p hp => by rw [hw.out]; rfl
      have e0 : k0 + ((k * 4 : Nat) : Int) = k0 + 4 * k := by omega
      have e1 : k0 + ((k * 4 + 1 : Nat) : Int) = k0 + 4 * k + 1 := by omega
      have e2 : k0 + ((k * 4 + 2 : Nat) : Int) = k0 + 4 * k + 1 + 1 := by omega
      have e3 : k0 + ((k * 4 + 3 : Nat) : Int) = k0 + 4 * k + 1 + 1 + 1 := by omega
      simp only [e0, e1, e2, e3] at q0 q1 q2 q3
      clear e0 e1 e2 e3
      go_wp2_with fail
      exact ⟨⟨k + 1, m, by omega, by simp, by simp; omega, hw⟩, by simp [intOf]; omega⟩
    · have d1 : ¬ (k : Int) < n := by omega
      have e : k = n := by omega
      subst e
      go_wp2_with fail
      go_ret
      exact ⟨rfl, _, hw.out⟩
end Go.Proofs.Yteagfbedbbnomaa
