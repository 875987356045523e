/- Whether a tree is read, on both sides. -/
import Derived.Test.YtgbiablibfbilaaStateI
set_option linter.unusedVariables false
namespace Go.Proofs.Ytgbiablibfbilaa
open Go.RowKit
def readsT (s l : Int) (n m o : Nat) (f g : Nat → Int) (h : Nat → Bool) (L : List Int) : Bool := stateOk s l n m o f g L && h (stateV s l n m o f g L).toNat
theorem stateOk_lt {s l : Int} {n m o : Nat} {f g : Nat → Int} {L : List Int} (h : stateOk s l n m o f g L = true) : ∃ k : Nat, k < o ∧ stateV s l n m o f g L = (k : Int) := by
  unfold stateOk at h
  obtain ⟨hv, ht⟩ := (Bool.and_eq_true _ _ ▸ h : _ ∧ _)
  obtain ⟨vt, hs, ho⟩ := validT_VT hv
  cases hT : trOf l L with
  | none => rw [hT] at ht; cases ht
  | some t =>
    refine ⟨stN s.toNat f g t, ?_, ?_⟩
    · rw [ho]; exact stN_lt vt (trOf_some.1 hT).2.1
    · unfold stateV; rw [if_pos hv, hT]
set_option maxHeartbeats 1000000 in
theorem specReadsTree_any
  (s l : Int) (A B C : Option Addr) (n c m d o q : Nat) (f g : Nat → Int) (h : Nat → Bool) (A1 : Option Addr) (n1 c1 : Nat) (u : Nat → Int) (w : World) (hn : n ≤ 1048576) (hm : m ≤ 1048576) (ho : o ≤ 1048576)
  (hA : Cells w A n (fun i => .int .i64 (f i))) (hB : Cells w B m (fun i => .int .i64 (g i))) (hC : Cells w C o (fun i => .bool (h i))) (hn1 : n1 ≤ 1048576) (hc1 : n1 ≤ c1 ∧ c1 ≤ 1048576) (hU : Cells w A1 n1 (fun i => .int .i64 (u i)))
  : Calls Try.prog 42 #[.agg #[.int .i64 s, .int .i64 l, .slice A n c, .slice B m d, .slice C o q], .slice A1 n1 c1] w fun e w' => e = .returned (.tuple #[.bool (readsT s l n m o f g h (rowL u n1)), .bool (stateOk s l n m o f g (rowL u n1))]) ∧ Below w.heap.size w w' := by
  have HS := Lib.hid (fun W h1 h2 h3 h4 => specStateOfTree_any s l A B C n c m d o q f g h A1 n1 c1 u W hn hm ho h1 h2 h3 hn1 hc1 h4)
  have HA := Lib.hid hA
  have HB := Lib.hid hB
  have HC := Lib.hid hC
  have HU := Lib.hid hU
  have X := Lib.hid (Box5.new w 28 (.int .i64 s) (.int .i64 l) (.slice A n c) (.slice B m d) (.slice C o q))
  cases hk : stateOk s l n m o f g (rowL u n1)
  · have HR := Lib.hid (show readsT s l n m o f g h (rowL u n1) = false by unfold readsT; rw [hk]; rfl)
    rw [hk] at HS
    clear hA hB hC hU hk
    generalize stateV s l n m o f g (rowL u n1) = sv at *
    go_enter Try.func42, Try.ntmps42
    go_wp2_with fail
    refine (HS.out _ (HA.out.below (by repeat (first | with_reducible exact Below.refl _ _ | exact Hid.out (by with_reducible assumption) | refine Below.setCell ?_ (by simp <;> omega) _ | refine below_alloc ?_ _ | refine Below.alloc ?_ (by simp <;> omega) _ | refine Below.drew ?_ | refine below_drewN ?_ _ | exact Below.refl _ _))) (HB.out.below (by repeat (first | with_reducible exact Below.refl _ _ | exact Hid.out (by with_reducible assumption) | refine Below.setCell ?_ (by simp <;> omega) _ | refine below_alloc ?_ _ | refine Below.alloc ?_ (by simp <;> omega) _ | refine Below.drew ?_ | refine below_drewN ?_ _ | exact Below.refl _ _))) (HC.out.below (by repeat (first | with_reducible exact Below.refl _ _ | exact Hid.out (by with_reducible assumption) | refine Below.setCell ?_ (by simp <;> omega) _ | refine below_alloc ?_ _ | refine Below.alloc ?_ (by simp <;> omega) _ | refine Below.drew ?_ | refine below_drewN ?_ _ | exact Below.refl _ _))) (HU.out.below (by repeat (first | with_reducible exact Below.refl _ _ | exact Hid.out (by with_reducible assumption) | refine Below.setCell ?_ (by simp <;> omega) _ | refine below_alloc ?_ _ | refine Below.alloc ?_ (by simp <;> omega) _ | refine Below.drew ?_ | refine below_drewN ?_ _ | exact Below.refl _ _)))).mono ?_
    rintro e w1 ⟨rfl, hb⟩
    have N1 := Lib.hid (show Below w.heap.size w w1 from Below.trans (by repeat (first | with_reducible exact Below.refl _ _ | exact Hid.out (by with_reducible assumption) | refine Below.setCell ?_ (by simp <;> omega) _ | refine below_alloc ?_ _ | refine Below.alloc ?_ (by simp <;> omega) _ | refine Below.drew ?_ | refine below_drewN ?_ _ | exact Below.refl _ _)) (hb.mono (by simp)))
    clear hb
    go_wp2_with fail
    refine bodyPost_ret (v := .tuple #[.bool false, .bool false]) (by simp [results, Try.results42, go_sem]) rfl ?_
    exact ⟨by rw [HR.out], N1.out⟩
  · obtain ⟨k, hko, hkv⟩ := stateOk_lt hk
    have HR := Lib.hid (show readsT s l n m o f g h (rowL u n1) = h k by unfold readsT; rw [hk, hkv]; simp)
    rw [hk, hkv] at HS
    obtain ⟨z, rfl, hz⟩ := hC k hko
    have HZ := Lib.hid (show w.cell? (z.add k) = some (.bool (h k)) from hz)
    have hk1 : (k : Int) < o := by omega
    clear hA hB hC hU hk hkv hz
    generalize h k = hv at *
    go_enter Try.func42, Try.ntmps42
    go_wp2_with fail
    refine (HS.out _ (HA.out.below (by repeat (first | with_reducible exact Below.refl _ _ | exact Hid.out (by with_reducible assumption) | refine Below.setCell ?_ (by simp <;> omega) _ | refine below_alloc ?_ _ | refine Below.alloc ?_ (by simp <;> omega) _ | refine Below.drew ?_ | refine below_drewN ?_ _ | exact Below.refl _ _))) (HB.out.below (by repeat (first | with_reducible exact Below.refl _ _ | exact Hid.out (by with_reducible assumption) | refine Below.setCell ?_ (by simp <;> omega) _ | refine below_alloc ?_ _ | refine Below.alloc ?_ (by simp <;> omega) _ | refine Below.drew ?_ | refine below_drewN ?_ _ | exact Below.refl _ _))) (HC.out.below (by repeat (first | with_reducible exact Below.refl _ _ | exact Hid.out (by with_reducible assumption) | refine Below.setCell ?_ (by simp <;> omega) _ | refine below_alloc ?_ _ | refine Below.alloc ?_ (by simp <;> omega) _ | refine Below.drew ?_ | refine below_drewN ?_ _ | exact Below.refl _ _))) (HU.out.below (by repeat (first | with_reducible exact Below.refl _ _ | exact Hid.out (by with_reducible assumption) | refine Below.setCell ?_ (by simp <;> omega) _ | refine below_alloc ?_ _ | refine Below.alloc ?_ (by simp <;> omega) _ | refine Below.drew ?_ | refine below_drewN ?_ _ | exact Below.refl _ _)))).mono ?_
    rintro e w1 ⟨rfl, hb⟩
    have N1 := Lib.hid (show Below w.heap.size w w1 from Below.trans (by repeat (first | with_reducible exact Below.refl _ _ | exact Hid.out (by with_reducible assumption) | refine Below.setCell ?_ (by simp <;> omega) _ | refine below_alloc ?_ _ | refine Below.alloc ?_ (by simp <;> omega) _ | refine Below.drew ?_ | refine below_drewN ?_ _ | exact Below.refl _ _)) (hb.mono (by simp)))
    obtain ⟨x0, x1, x2, x3, x4⟩ := X.out.below hb
    have hz : w1.cell? (z.add k) = some (.bool hv) := (N1.out.cell (World.block_lt_of_cell? _ _ HZ.out)).trans HZ.out
    clear hb
    go_wp2_with fail
    refine bodyPost_ret (v := .tuple #[.bool hv, .bool true]) (by simp [results, Try.results42, go_sem]) rfl ?_
    exact ⟨by rw [HR.out], N1.out⟩
set_option maxHeartbeats 1000000 in
theorem implReadsTree_any
  (s l : Int) (A B C : Option Addr) (n c m d o q : Nat) (f g : Nat → Int) (h : Nat → Bool) (A1 : Option Addr) (n1 c1 : Nat) (u : Nat → Int) (w : World) (hn : n ≤ 1048576) (hm : m ≤ 1048576) (ho : o ≤ 1048576)
  (hA : Cells w A n (fun i => .int .i64 (f i))) (hB : Cells w B m (fun i => .int .i64 (g i))) (hC : Cells w C o (fun i => .bool (h i))) (hn1 : n1 ≤ 1048576) (hc1 : n1 ≤ c1 ∧ c1 ≤ 1048576) (hU : Cells w A1 n1 (fun i => .int .i64 (u i)))
  : Calls Try.prog 43 #[.agg #[.int .i64 s, .int .i64 l, .slice A n c, .slice B m d, .slice C o q], .slice A1 n1 c1] w fun e w' => e = .returned (.tuple #[.bool (readsT s l n m o f g h (rowL u n1)), .bool (stateOk s l n m o f g (rowL u n1))]) ∧ Below w.heap.size w w' := by
  have HS := Lib.hid (fun W h1 h2 h3 h4 => implStateOfTree_any s l A B C n c m d o q f g h A1 n1 c1 u W hn hm ho h1 h2 h3 hn1 hc1 h4)
  have HA := Lib.hid hA
  have HB := Lib.hid hB
  have HC := Lib.hid hC
  have HU := Lib.hid hU
  have X := Lib.hid (Box5.new w 28 (.int .i64 s) (.int .i64 l) (.slice A n c) (.slice B m d) (.slice C o q))
  cases hk : stateOk s l n m o f g (rowL u n1)
  · have HR := Lib.hid (show readsT s l n m o f g h (rowL u n1) = false by unfold readsT; rw [hk]; rfl)
    rw [hk] at HS
    clear hA hB hC hU hk
    generalize stateV s l n m o f g (rowL u n1) = sv at *
    go_enter Try.func43, Try.ntmps43
    go_wp2_with fail
    refine (HS.out _ (HA.out.below (by repeat (first | with_reducible exact Below.refl _ _ | exact Hid.out (by with_reducible assumption) | refine Below.setCell ?_ (by simp <;> omega) _ | refine below_alloc ?_ _ | refine Below.alloc ?_ (by simp <;> omega) _ | refine Below.drew ?_ | refine below_drewN ?_ _ | exact Below.refl _ _))) (HB.out.below (by repeat (first | with_reducible exact Below.refl _ _ | exact Hid.out (by with_reducible assumption) | refine Below.setCell ?_ (by simp <;> omega) _ | refine below_alloc ?_ _ | refine Below.alloc ?_ (by simp <;> omega) _ | refine Below.drew ?_ | refine below_drewN ?_ _ | exact Below.refl _ _))) (HC.out.below (by repeat (first | with_reducible exact Below.refl _ _ | exact Hid.out (by with_reducible assumption) | refine Below.setCell ?_ (by simp <;> omega) _ | refine below_alloc ?_ _ | refine Below.alloc ?_ (by simp <;> omega) _ | refine Below.drew ?_ | refine below_drewN ?_ _ | exact Below.refl _ _))) (HU.out.below (by repeat (first | with_reducible exact Below.refl _ _ | exact Hid.out (by with_reducible assumption) | refine Below.setCell ?_ (by simp <;> omega) _ | refine below_alloc ?_ _ | refine Below.alloc ?_ (by simp <;> omega) _ | refine Below.drew ?_ | refine below_drewN ?_ _ | exact Below.refl _ _)))).mono ?_
    rintro e w1 ⟨rfl, hb⟩
    have N1 := Lib.hid (show Below w.heap.size w w1 from Below.trans (by repeat (first | with_reducible exact Below.refl _ _ | exact Hid.out (by with_reducible assumption) | refine Below.setCell ?_ (by simp <;> omega) _ | refine below_alloc ?_ _ | refine Below.alloc ?_ (by simp <;> omega) _ | refine Below.drew ?_ | refine below_drewN ?_ _ | exact Below.refl _ _)) (hb.mono (by simp)))
    clear hb
    go_wp2_with fail
    refine bodyPost_ret (v := .tuple #[.bool false, .bool false]) (by simp [results, Try.results43, go_sem]) rfl ?_
    exact ⟨by rw [HR.out], N1.out⟩
  · obtain ⟨k, hko, hkv⟩ := stateOk_lt hk
    have HR := Lib.hid (show readsT s l n m o f g h (rowL u n1) = h k by unfold readsT; rw [hk, hkv]; simp)
    rw [hk, hkv] at HS
    obtain ⟨z, rfl, hz⟩ := hC k hko
    have HZ := Lib.hid (show w.cell? (z.add k) = some (.bool (h k)) from hz)
    have hk1 : (k : Int) < o := by omega
    clear hA hB hC hU hk hkv hz
    generalize h k = hv at *
    go_enter Try.func43, Try.ntmps43
    go_wp2_with fail
    refine (HS.out _ (HA.out.below (by repeat (first | with_reducible exact Below.refl _ _ | exact Hid.out (by with_reducible assumption) | refine Below.setCell ?_ (by simp <;> omega) _ | refine below_alloc ?_ _ | refine Below.alloc ?_ (by simp <;> omega) _ | refine Below.drew ?_ | refine below_drewN ?_ _ | exact Below.refl _ _))) (HB.out.below (by repeat (first | with_reducible exact Below.refl _ _ | exact Hid.out (by with_reducible assumption) | refine Below.setCell ?_ (by simp <;> omega) _ | refine below_alloc ?_ _ | refine Below.alloc ?_ (by simp <;> omega) _ | refine Below.drew ?_ | refine below_drewN ?_ _ | exact Below.refl _ _))) (HC.out.below (by repeat (first | with_reducible exact Below.refl _ _ | exact Hid.out (by with_reducible assumption) | refine Below.setCell ?_ (by simp <;> omega) _ | refine below_alloc ?_ _ | refine Below.alloc ?_ (by simp <;> omega) _ | refine Below.drew ?_ | refine below_drewN ?_ _ | exact Below.refl _ _))) (HU.out.below (by repeat (first | with_reducible exact Below.refl _ _ | exact Hid.out (by with_reducible assumption) | refine Below.setCell ?_ (by simp <;> omega) _ | refine below_alloc ?_ _ | refine Below.alloc ?_ (by simp <;> omega) _ | refine Below.drew ?_ | refine below_drewN ?_ _ | exact Below.refl _ _)))).mono ?_
    rintro e w1 ⟨rfl, hb⟩
    have N1 := Lib.hid (show Below w.heap.size w w1 from Below.trans (by repeat (first | with_reducible exact Below.refl _ _ | exact Hid.out (by with_reducible assumption) | refine Below.setCell ?_ (by simp <;> omega) _ | refine below_alloc ?_ _ | refine Below.alloc ?_ (by simp <;> omega) _ | refine Below.drew ?_ | refine below_drewN ?_ _ | exact Below.refl _ _)) (hb.mono (by simp)))
    obtain ⟨x0, x1, x2, x3, x4⟩ := X.out.below hb
    have hz : w1.cell? (z.add k) = some (.bool hv) := (N1.out.cell (World.block_lt_of_cell? _ _ HZ.out)).trans HZ.out
    clear hb
    go_wp2_with fail
    refine bodyPost_ret (v := .tuple #[.bool hv, .bool true]) (by simp [results, Try.results43, go_sem]) rfl ?_
    exact ⟨by rw [HR.out], N1.out⟩
end Go.Proofs.Ytgbiablibfbilaa
