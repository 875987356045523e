/- The machine that reads all other trees: the program's. -/
import Derived.Test.YtgbiablibfbilaaTreeV
import Derived.Test.YtgbiablibfbilaaTreeMachineR
import Derived.Test.YtgbiablibfbilaaClone
import Derived.Deep.RegionHeldLaw
import Derived.Deep.CutRange
import Derived.Deep.RegionHeld3
import Derived.Test.YtgbiablibfbilaaDropS
set_option linter.unusedVariables false
set_option linter.unusedSimpArgs false
namespace Go.Proofs.Ytgbiablibfbilaa
open Go.RowKit
/-- The marks that have been turned. -/
def partNot (g : Nat → Bool) (k i : Nat) : Value := .bool (if i < k then !g i else g i)
theorem partNot_step (g : Nat → Bool) (k : Nat) : (fun i => if i = k then Value.bool (!g k) else partNot g k i) = partNot g (k + 1) := by
  funext i
  unfold partNot
  by_cases h : i = k
  · subst h; rw [if_pos rfl, if_pos (by omega)]
  · rw [if_neg h]
    by_cases h2 : i < k
    · rw [if_pos h2, if_pos (by omega)]
    · rw [if_neg h2, if_neg (by omega)]
set_option maxRecDepth 20000 in
set_option maxHeartbeats 8000000 in
theorem implOtherTrees_any (s l : Int) (A B C : Option Addr) (n c m d o q : Nat) (f g : Nat → Int) (h : Nat → Bool) (w : World) (hn : n ≤ 1048576) (hm : m ≤ 1048576) (ho : o ≤ 1048576) (hA : Cells w A n (fun i => .int .i64 (f i))) (hB : Cells w B m (fun i => .int .i64 (g i))) (hC : Cells w C o (fun i => .bool (h i))) :
    Calls Try.prog 23 #[.agg #[.int .i64 s, .int .i64 l, .slice A n c, .slice B m d, .slice C o q]] w fun e w' =>
      TreeMachineRes w w' e (validT s l n m o f g) (ifI (validT s l n m o f g) s) (ifI (validT s l n m o f g) l) (ifN (validT s l n m o f g) n) (ifN (validT s l n m o f g) m) (ifN (validT s l n m o f g) o) f g (fun i => !h i) := by
  have HA := Lib.hid hA
  have HB := Lib.hid hB
  have HC := Lib.hid hC
  have HV := Lib.hid (fun W h1 h2 h3 => implValidTrees_any s l A B C n c m d o q f g h W hn hm ho h1 h2 h3)
  have HF := Lib.hid (fun W (h1 : Cells W A n (fun i => .int .i64 (f i))) => cloneI_any A n c f W hn (by rw [Nat.mul_one]; exact h1))
  have HG := Lib.hid (fun W (h1 : Cells W B m (fun i => .int .i64 (g i))) => cloneI_any B m d g W hm (by rw [Nat.mul_one]; exact h1))
  have HH := Lib.hid (fun W (h1 : Cells W C o (fun i => .bool (h i))) => cloneB_any C o q h W ho (by rw [Nat.mul_one]; exact h1))
  clear hA hB hC
  generalize validT s l n m o f g = v at *
  go_enter Try.func23, Try.ntmps23
  go_wp2_with fail
  refine (HV.out _ (HA.out.below (by repeat (first | with_reducible exact Below.refl _ _ | exact Hid.out (by with_reducible assumption) | refine Below.setCell ?_ (by simp <;> omega) _ | refine below_alloc ?_ _ | refine Below.alloc ?_ (by simp <;> omega) _ | refine Below.drew ?_ | refine below_drewN ?_ _ | exact Below.refl _ _))) (HB.out.below (by repeat (first | with_reducible exact Below.refl _ _ | exact Hid.out (by with_reducible assumption) | refine Below.setCell ?_ (by simp <;> omega) _ | refine below_alloc ?_ _ | refine Below.alloc ?_ (by simp <;> omega) _ | refine Below.drew ?_ | refine below_drewN ?_ _ | exact Below.refl _ _))) (HC.out.below (by repeat (first | with_reducible exact Below.refl _ _ | exact Hid.out (by with_reducible assumption) | refine Below.setCell ?_ (by simp <;> omega) _ | refine below_alloc ?_ _ | refine Below.alloc ?_ (by simp <;> omega) _ | refine Below.drew ?_ | refine below_drewN ?_ _ | exact Below.refl _ _)))).mono ?_
  rintro e w1 ⟨rfl, hb1⟩
  have N1 := Lib.hid (show Below w.heap.size w w1 from Below.trans (by repeat (first | with_reducible exact Below.refl _ _ | exact Hid.out (by with_reducible assumption) | refine Below.setCell ?_ (by simp <;> omega) _ | refine below_alloc ?_ _ | refine Below.alloc ?_ (by simp <;> omega) _ | refine Below.drew ?_ | refine below_drewN ?_ _ | exact Below.refl _ _)) (hb1.mono (by simp <;> omega)))
  have hz1 : w.heap.size + 2 ≤ w1.heap.size := by have := hb1.size; simp at this; omega
  have X1 := Lib.hid (BoxF5.below (BoxF5.alloc (BoxF5.new w 28 (.int .i64 s) (.int .i64 l) (.slice A n c) (.slice B m d) (.slice C o q)) _) hb1)
  have Z1 := Lib.hid (BoxF5.below (show BoxF5 _ (w.heap.size + 1) _ _ _ _ _ from by simpa using (BoxF5.new (w.alloc (.cells #[.int .i64 s, .int .i64 l, .slice A n c, .slice B m d, .slice C o q] 28)) 28 (.int .i64 0) (.int .i64 0) (.slice none 0 0) (.slice none 0 0) (.slice none 0 0))) hb1)
  clear hb1
  obtain ⟨x0, x1, x2, x3, x4⟩ := X1.out.box
  cases v
  · obtain ⟨k0, k1, k2, k3, k4⟩ := Z1.out.box
    have hfz := Z1.out.fz
    go_wp2_with fail
    refine bodyPost_ret (v := .tuple #[.agg #[.int .i64 0, .int .i64 0, .slice none 0 0, .slice none 0 0, .slice none 0 0], .bool false]) ?r1 rfl ?r2
    case r1 => simp [results, Try.results23, go_sem, k0, k1, k2, k3, k4]
    case r2 => exact TreeMachineRes.none_ rfl (by repeat (first | with_reducible exact Below.refl _ _ | exact Hid.out (by with_reducible assumption) | refine Below.setCell ?_ (by simp <;> omega) _ | refine below_alloc ?_ _ | refine Below.alloc ?_ (by simp <;> omega) _ | refine Below.drew ?_ | refine below_drewN ?_ _ | exact Below.refl _ _))
  · have hfz := X1.out.fz
    go_upto_region 3 with fail
    go_cut [] from 10 to 22 (fun wx => ∃ (T1 : Option Addr) (c1 g1 : Nat) (T2 : Option Addr) (c2 g2 : Nat) (T3 : Option Addr) (c3 g3 : Nat), BoxF5 wx w.heap.size (.int .i64 s) (.int .i64 l) (.slice T1 n c1) (.slice T2 m c2) (.slice T3 o c3) ∧
      BoxF5 wx (w.heap.size + 1) (.int .i64 0) (.int .i64 0) (.slice none 0 0) (.slice none 0 0) (.slice none 0 0) ∧ (w1.heap.size ≤ g1 ∧ w1.heap.size ≤ g2 ∧ w1.heap.size ≤ g3 ∧ (0 < n → 0 < m → g1 ≠ g2) ∧ (0 < n → 0 < o → g1 ≠ g3) ∧ (0 < m → 0 < o → g2 ≠ g3)) ∧
      OwnC wx g1 T1 n (fun i => .int .i64 (f i)) ∧ OwnC wx g2 T2 m (fun i => .int .i64 (g i)) ∧ OwnC wx g3 T3 o (fun i => .bool (h i)) ∧ Below w.heap.size w wx)
    case first =>
      have HKeep := Lib.hid (show ∀ W, Below w1.heap.size w1 W → (W.cell? ⟨w.heap.size, 2, none⟩ = some (.slice A n c) ∧ W.cell? ⟨w.heap.size, 3, none⟩ = some (.slice B m d) ∧ W.cell? ⟨w.heap.size, 4, none⟩ = some (.slice C o q)) from fun W hW => by
        have X := (X1.out.below hW).box
        exact ⟨X.c2, X.c3, X.c4⟩)
      refine wp_region_noPanic ?_
      refine wp_region_S (fun W => W.cell? ⟨w.heap.size, 2, none⟩ = some (.slice A n c) ∧ W.cell? ⟨w.heap.size, 3, none⟩ = some (.slice B m d) ∧ W.cell? ⟨w.heap.size, 4, none⟩ = some (.slice C o q)) 10 (by kernel_rfl) ?_ (fun hHeld => ?_)
      · (try dsimp only)
        exact HKeep.out _ (by repeat (first | with_reducible exact Below.refl _ _ | exact Hid.out (by with_reducible assumption) | refine Below.setCell ?_ (by simp <;> omega) _ | refine below_alloc ?_ _ | refine Below.alloc ?_ (by simp <;> omega) _ | refine Below.drew ?_ | refine below_drewN ?_ _ | exact Below.refl _ _))
      (refine wpAnyS_take (i := 0) (v := ?_) rfl (by kernel_rfl) (by kernel_rfl) (by kernel_rfl) (fun _ _ _ h => h) (by kernel_rfl) (by kernel_rfl) (Or.inl ⟨by rfl, ?_⟩) (by assumption) ?_; rotate_left 1; focus ((intro w hSw; (try dsimp only at hSw); (try simp only [Act.put, List.getElem_toArray, List.getElem_cons_succ, List.getElem_cons_zero, List.setIfInBounds_toArray, List.set_cons_zero, List.set_cons_succ]); go_simp; (try with_reducible rfl)); done); (try simp only [Act.put, List.getElem_toArray, List.getElem_cons_succ, List.getElem_cons_zero, List.setIfInBounds_toArray, List.set_cons_zero, List.set_cons_succ]))
      (refine wpAnyS_take (i := 1) (v := ?_) rfl (by kernel_rfl) (by kernel_rfl) (by kernel_rfl) (fun _ _ _ h => h) (by kernel_rfl) (by kernel_rfl) (Or.inl ⟨by rfl, ?_⟩) (by assumption) ?_; rotate_left 1; focus ((intro w hSw; (try dsimp only at hSw); (try simp only [Act.put, List.getElem_toArray, List.getElem_cons_succ, List.getElem_cons_zero, List.setIfInBounds_toArray, List.set_cons_zero, List.set_cons_succ]); go_simp; (try with_reducible rfl)); done); (try simp only [Act.put, List.getElem_toArray, List.getElem_cons_succ, List.getElem_cons_zero, List.setIfInBounds_toArray, List.set_cons_zero, List.set_cons_succ]))
      (refine wpAnyS_take (i := 3) (v := ?_) rfl (by kernel_rfl) (by kernel_rfl) (by kernel_rfl) (fun _ _ _ h => h) (by kernel_rfl) (by kernel_rfl) (Or.inl ⟨by rfl, ?_⟩) (by assumption) ?_; rotate_left 1; focus ((intro w hSw; (try dsimp only at hSw); (try simp only [Act.put, List.getElem_toArray, List.getElem_cons_succ, List.getElem_cons_zero, List.setIfInBounds_toArray, List.set_cons_zero, List.set_cons_succ]); go_simp; (try with_reducible rfl)); done); (try simp only [Act.put, List.getElem_toArray, List.getElem_cons_succ, List.getElem_cons_zero, List.setIfInBounds_toArray, List.set_cons_zero, List.set_cons_succ]))
      (refine wpAnyS_take (i := 4) (v := ?_) rfl (by kernel_rfl) (by kernel_rfl) (by kernel_rfl) (fun _ _ _ h => h) (by kernel_rfl) (by kernel_rfl) (Or.inl ⟨by rfl, ?_⟩) (by assumption) ?_; rotate_left 1; focus ((intro w hSw; (try dsimp only at hSw); (try simp only [Act.put, List.getElem_toArray, List.getElem_cons_succ, List.getElem_cons_zero, List.setIfInBounds_toArray, List.set_cons_zero, List.set_cons_succ]); go_simp; (try with_reducible rfl)); done); (try simp only [Act.put, List.getElem_toArray, List.getElem_cons_succ, List.getElem_cons_zero, List.setIfInBounds_toArray, List.set_cons_zero, List.set_cons_succ]))
      (refine wpAnyS_take (i := 6) (v := ?_) rfl (by kernel_rfl) (by kernel_rfl) (by kernel_rfl) (fun _ _ _ h => h) (by kernel_rfl) (by kernel_rfl) (Or.inl ⟨by rfl, ?_⟩) (by assumption) ?_; rotate_left 1; focus ((intro w hSw; (try dsimp only at hSw); (try simp only [Act.put, List.getElem_toArray, List.getElem_cons_succ, List.getElem_cons_zero, List.setIfInBounds_toArray, List.set_cons_zero, List.set_cons_succ]); go_simp; (try with_reducible rfl)); done); (try simp only [Act.put, List.getElem_toArray, List.getElem_cons_succ, List.getElem_cons_zero, List.setIfInBounds_toArray, List.set_cons_zero, List.set_cons_succ]))
      (refine wpAnyS_take (i := 7) (v := ?_) rfl (by kernel_rfl) (by kernel_rfl) (by kernel_rfl) (fun _ _ _ h => h) (by kernel_rfl) (by kernel_rfl) (Or.inl ⟨by rfl, ?_⟩) (by assumption) ?_; rotate_left 1; focus ((intro w hSw; (try dsimp only at hSw); (try simp only [Act.put, List.getElem_toArray, List.getElem_cons_succ, List.getElem_cons_zero, List.setIfInBounds_toArray, List.set_cons_zero, List.set_cons_succ]); go_simp; (try with_reducible rfl)); done); (try simp only [Act.put, List.getElem_toArray, List.getElem_cons_succ, List.getElem_cons_zero, List.setIfInBounds_toArray, List.set_cons_zero, List.set_cons_succ]))
      refine wpAnyS_one (i := 2) (by kernel_rfl) rfl (fun K hK => ?_)
      try simp only [Act.put, List.getElem_toArray, List.getElem_cons_succ, List.getElem_cons_zero, List.setIfInBounds_toArray, List.set_cons_zero, List.set_cons_succ]
      go_simp
      refine (HF.out _ (HA.out.below (by repeat (first | with_reducible exact Below.refl _ _ | exact Hid.out (by with_reducible assumption) | refine Below.setCell ?_ (by simp <;> omega) _ | refine below_alloc ?_ _ | refine Below.alloc ?_ (by simp <;> omega) _ | refine Below.drew ?_ | refine below_drewN ?_ _ | exact Below.refl _ _)))).mono ?_
      rintro e u1 ⟨T1, c1, g1, rfl, hg1, ho1, hb⟩
      have N3 := Lib.hid (show Below w.heap.size w u1 from Below.trans (by repeat (first | with_reducible exact Below.refl _ _ | exact Hid.out (by with_reducible assumption) | refine Below.setCell ?_ (by simp <;> omega) _ | refine below_alloc ?_ _ | refine Below.alloc ?_ (by simp <;> omega) _ | refine Below.drew ?_ | refine below_drewN ?_ _ | exact Below.refl _ _)) (hb.mono (by have := N1.out.size; simp <;> omega)))
      have hy1 : w1.heap.size ≤ g1 := by first | exact hg1 | (simp at hg1; omega)
      have hz3 : w1.heap.size ≤ u1.heap.size := by have := hb.size; first | exact this | (simp at this; omega)
      have K1 := Lib.hid (show Below w1.heap.size w1 u1 from Below.trans (by repeat (first | with_reducible exact Below.refl _ _ | exact Hid.out (by with_reducible assumption) | refine Below.setCell ?_ (by simp <;> omega) _ | refine below_alloc ?_ _ | refine Below.alloc ?_ (by simp <;> omega) _ | refine Below.drew ?_ | refine below_drewN ?_ _ | exact Below.refl _ _)) (hb.mono (by first | exact Nat.le_refl _ | simp)))
      have O1 := Lib.hid (by have := ho1; rw [Nat.mul_one] at this; exact this)
      have L1 := Lib.hid (fun hq => O1.out.lt hq)
      have X3 := Lib.hid (X1.out.below (show Below w1.heap.size w1 u1 from Below.trans (by repeat (first | with_reducible exact Below.refl _ _ | exact Hid.out (by with_reducible assumption) | refine Below.setCell ?_ (by simp <;> omega) _ | refine below_alloc ?_ _ | refine Below.alloc ?_ (by simp <;> omega) _ | refine Below.drew ?_ | refine below_drewN ?_ _ | exact Below.refl _ _)) (hb.mono (by first | exact Nat.le_refl _ | simp))))
      have Z3 := Lib.hid (Z1.out.below (show Below w1.heap.size w1 u1 from Below.trans (by repeat (first | with_reducible exact Below.refl _ _ | exact Hid.out (by with_reducible assumption) | refine Below.setCell ?_ (by simp <;> omega) _ | refine below_alloc ?_ _ | refine Below.alloc ?_ (by simp <;> omega) _ | refine Below.drew ?_ | refine below_drewN ?_ _ | exact Below.refl _ _)) (hb.mono (by first | exact Nat.le_refl _ | simp))))
      obtain ⟨r0, r1, r2, r3, r4⟩ := X3.out.box
      have hfz3 := X3.out.fz
      clear hb hg1 ho1
      go_wp2_with fail
      refine hK.out _ _ (fun _ => ?_) ?_
      · (try dsimp only)
        exact HKeep.out _ (by repeat (first | with_reducible exact Below.refl _ _ | exact Hid.out (by with_reducible assumption) | refine Below.setCell ?_ (by simp <;> omega) _ | refine below_alloc ?_ _ | refine Below.alloc ?_ (by simp <;> omega) _ | refine Below.drew ?_ | refine below_drewN ?_ _ | exact Below.refl _ _))
      clear hK K
      try simp only [Act.put, List.getElem_toArray, List.getElem_cons_succ, List.getElem_cons_zero, List.setIfInBounds_toArray, List.set_cons_zero, List.set_cons_succ]
      (refine wpAnyS_take (i := 9) (v := ?_) rfl (by kernel_rfl) (by kernel_rfl) (by kernel_rfl) (fun _ _ _ h => h) (by kernel_rfl) (by kernel_rfl) (Or.inl ⟨by rfl, ?_⟩) (HKeep.out _ (by repeat (first | with_reducible exact Below.refl _ _ | exact Hid.out (by with_reducible assumption) | refine Below.setCell ?_ (by simp <;> omega) _ | refine below_alloc ?_ _ | refine Below.alloc ?_ (by simp <;> omega) _ | refine Below.drew ?_ | refine below_drewN ?_ _ | exact Below.refl _ _))) ?_; rotate_left 1; focus ((intro w hSw; (try dsimp only at hSw); (try simp only [Act.put, List.getElem_toArray, List.getElem_cons_succ, List.getElem_cons_zero, List.setIfInBounds_toArray, List.set_cons_zero, List.set_cons_succ]); go_simp; (try with_reducible rfl)); done); (try simp only [Act.put, List.getElem_toArray, List.getElem_cons_succ, List.getElem_cons_zero, List.setIfInBounds_toArray, List.set_cons_zero, List.set_cons_succ]))
      refine wpAnyS_one (i := 5) (by kernel_rfl) rfl (fun K hK => ?_)
      try simp only [Act.put, List.getElem_toArray, List.getElem_cons_succ, List.getElem_cons_zero, List.setIfInBounds_toArray, List.set_cons_zero, List.set_cons_succ]
      go_simp
      refine (HG.out _ (HB.out.below (by repeat (first | with_reducible exact Below.refl _ _ | exact Hid.out (by with_reducible assumption) | refine Below.setCell ?_ (by simp <;> omega) _ | refine below_alloc ?_ _ | refine Below.alloc ?_ (by simp <;> omega) _ | refine Below.drew ?_ | refine below_drewN ?_ _ | exact Below.refl _ _)))).mono ?_
      rintro e u2 ⟨T2, c2, g2, rfl, hg2, ho2, hb⟩
      have N4 := Lib.hid (show Below w.heap.size w u2 from Below.trans (by repeat (first | with_reducible exact Below.refl _ _ | exact Hid.out (by with_reducible assumption) | refine Below.setCell ?_ (by simp <;> omega) _ | refine below_alloc ?_ _ | refine Below.alloc ?_ (by simp <;> omega) _ | refine Below.drew ?_ | refine below_drewN ?_ _ | exact Below.refl _ _)) (hb.mono (by first | exact N3.out.size | (simp; exact N3.out.size))))
      have hz4 : u1.heap.size ≤ u2.heap.size := by have := hb.size; first | exact this | (simp at this; omega)
      have hy2 : u1.heap.size ≤ g2 := by first | exact hg2 | (simp at hg2; omega)
      have O2 := Lib.hid (by have := ho2; rw [Nat.mul_one] at this; exact this)
      have L2 := Lib.hid (fun hq => O2.out.lt hq)
      have K2 := Lib.hid (show Below u1.heap.size u1 u2 from Below.trans (by repeat (first | with_reducible exact Below.refl _ _ | exact Hid.out (by with_reducible assumption) | refine Below.setCell ?_ (by simp <;> omega) _ | refine below_alloc ?_ _ | refine Below.alloc ?_ (by simp <;> omega) _ | refine Below.drew ?_ | refine below_drewN ?_ _ | exact Below.refl _ _)) (hb.mono (by first | exact Nat.le_refl _ | simp)))
      have J2 := Lib.hid (K1.out.trans (K2.out.mono K1.out.size))
      have O1b := Lib.hid (OwnC.below O1.out K2.out)
      have X4 := Lib.hid (X3.out.below K2.out)
      have Z4 := Lib.hid (Z3.out.below K2.out)
      obtain ⟨s0, s1, s2, s3, s4⟩ := X4.out.box
      have hfz4 := X4.out.fz
      clear hb hg2 ho2
      go_wp2_with fail
      refine hK.out _ _ (fun _ => ?_) ?_
      · (try dsimp only)
        exact HKeep.out _ (by repeat (first | with_reducible exact Below.refl _ _ | exact Hid.out (by with_reducible assumption) | refine Below.setCell ?_ (by simp <;> omega) _ | refine below_alloc ?_ _ | refine Below.alloc ?_ (by simp <;> omega) _ | refine Below.drew ?_ | refine below_drewN ?_ _ | exact Below.refl _ _))
      clear hK K
      try simp only [Act.put, List.getElem_toArray, List.getElem_cons_succ, List.getElem_cons_zero, List.setIfInBounds_toArray, List.set_cons_zero, List.set_cons_succ]
      refine wpAnyS_one (i := 8) (by kernel_rfl) rfl (fun K hK => ?_)
      try simp only [Act.put, List.getElem_toArray, List.getElem_cons_succ, List.getElem_cons_zero, List.setIfInBounds_toArray, List.set_cons_zero, List.set_cons_succ]
      go_simp
      refine (HH.out _ (HC.out.below (by repeat (first | with_reducible exact Below.refl _ _ | exact Hid.out (by with_reducible assumption) | refine Below.setCell ?_ (by simp <;> omega) _ | refine below_alloc ?_ _ | refine Below.alloc ?_ (by simp <;> omega) _ | refine Below.drew ?_ | refine below_drewN ?_ _ | exact Below.refl _ _)))).mono ?_
      rintro e u3 ⟨T3, c3, g3, rfl, hg3, ho3, hb⟩
      have N5 := Lib.hid (show Below w.heap.size w u3 from Below.trans (by repeat (first | with_reducible exact Below.refl _ _ | exact Hid.out (by with_reducible assumption) | refine Below.setCell ?_ (by simp <;> omega) _ | refine below_alloc ?_ _ | refine Below.alloc ?_ (by simp <;> omega) _ | refine Below.drew ?_ | refine below_drewN ?_ _ | exact Below.refl _ _)) (hb.mono (by first | exact N4.out.size | (simp; exact N4.out.size))))
      have hz5 : u2.heap.size ≤ u3.heap.size := by have := hb.size; first | exact this | (simp at this; omega)
      have hy3 : u2.heap.size ≤ g3 := by first | exact hg3 | (simp at hg3; omega)
      have O3 := Lib.hid (by have := ho3; rw [Nat.mul_one] at this; exact this)
      have K3 := Lib.hid (show Below u2.heap.size u2 u3 from Below.trans (by repeat (first | with_reducible exact Below.refl _ _ | exact Hid.out (by with_reducible assumption) | refine Below.setCell ?_ (by simp <;> omega) _ | refine below_alloc ?_ _ | refine Below.alloc ?_ (by simp <;> omega) _ | refine Below.drew ?_ | refine below_drewN ?_ _ | exact Below.refl _ _)) (hb.mono (by first | exact Nat.le_refl _ | simp)))
      have J3 := Lib.hid (J2.out.trans (K3.out.mono J2.out.size))
      have O1c := Lib.hid (OwnC.below O1b.out K3.out)
      have O2c := Lib.hid (OwnC.below O2.out K3.out)
      have X5 := Lib.hid (X4.out.below K3.out)
      have Z5 := Lib.hid (Z4.out.below K3.out)
      obtain ⟨t0, t1, t2, t3, t4⟩ := X5.out.box
      have hfz5 := X5.out.fz
      clear hb hg3 ho3
      go_wp2_with fail
      refine hK.out _ _ (fun _ => ?_) ?_
      · (try dsimp only)
        exact HKeep.out _ (by repeat (first | with_reducible exact Below.refl _ _ | exact Hid.out (by with_reducible assumption) | refine Below.setCell ?_ (by simp <;> omega) _ | refine below_alloc ?_ _ | refine Below.alloc ?_ (by simp <;> omega) _ | refine Below.drew ?_ | refine below_drewN ?_ _ | exact Below.refl _ _))
      clear hK K
      try simp only [Act.put, List.getElem_toArray, List.getElem_cons_succ, List.getElem_cons_zero, List.setIfInBounds_toArray, List.set_cons_zero, List.set_cons_succ]
      refine wpAnyS_one (i := 10) (by kernel_rfl) rfl (fun K hK => ?_)
      go_simp
      refine hK.out _ _ (fun hf => Bool.noConfusion (show (true : Bool) = false from hf)) ?_
      clear hK K
      try simp only [Act.put, List.getElem_toArray, List.getElem_cons_succ, List.getElem_cons_zero, List.setIfInBounds_toArray, List.set_cons_zero, List.set_cons_succ]
      have X6 := Lib.hid (X5.out.set2 (u := .slice T1 n c1))
      obtain ⟨e0, e1, e2, e3, e4⟩ := X6.out.box
      have hfz6 := X6.out.fz
      refine wpAnyS_one (i := 11) (by kernel_rfl) rfl (fun K hK => ?_)
      go_simp
      refine hK.out _ _ (fun hf => Bool.noConfusion (show (true : Bool) = false from hf)) ?_
      clear hK K
      try simp only [Act.put, List.getElem_toArray, List.getElem_cons_succ, List.getElem_cons_zero, List.setIfInBounds_toArray, List.set_cons_zero, List.set_cons_succ]
      refine wpAnyS_one (i := 12) (by kernel_rfl) rfl (fun K hK => ?_)
      go_simp
      refine hK.out _ _ (fun hf => Bool.noConfusion (show (true : Bool) = false from hf)) ?_
      clear hK K
      try simp only [Act.put, List.getElem_toArray, List.getElem_cons_succ, List.getElem_cons_zero, List.setIfInBounds_toArray, List.set_cons_zero, List.set_cons_succ]
      have X7 := Lib.hid (X6.out.set3 (u := .slice T2 m c2))
      obtain ⟨v0, v1, v2, v3, v4⟩ := X7.out.box
      have hfz7 := X7.out.fz
      refine wpAnyS_one (i := 13) (by kernel_rfl) rfl (fun K hK => ?_)
      go_simp
      refine hK.out _ _ (fun hf => Bool.noConfusion (show (true : Bool) = false from hf)) ?_
      clear hK K
      try simp only [Act.put, List.getElem_toArray, List.getElem_cons_succ, List.getElem_cons_zero, List.setIfInBounds_toArray, List.set_cons_zero, List.set_cons_succ]
      refine wpAnyS_one (i := 14) (by kernel_rfl) rfl (fun K hK => ?_)
      go_simp
      refine hK.out _ _ (fun hf => Bool.noConfusion (show (true : Bool) = false from hf)) ?_
      clear hK K
      try simp only [Act.put, List.getElem_toArray, List.getElem_cons_succ, List.getElem_cons_zero, List.setIfInBounds_toArray, List.set_cons_zero, List.set_cons_succ]
      refine wpAnyS_done (by kernel_rfl) ?_ _
      refine NoPanic.normal ?_
      try go_wp2_with fail
      go_meet
      exact ⟨T1, c1, g1, T2, c2, g2, T3, c3, g3, (X7.out.set4), ((Z5.out.far (by omega)).far (by omega)).far (by omega), ⟨by omega, by omega, by omega, fun q1 q2 e => by have := L1.out q1; omega, fun q1 q2 e => by have := L1.out q1; omega, fun q1 q2 e => by have := L2.out q1; omega⟩,
      own_setP' (own_setP' (own_setP' O1c.out (fun _ => by omega)) (fun _ => by omega)) (fun _ => by omega), own_setP' (own_setP' (own_setP' O2c.out (fun _ => by omega)) (fun _ => by omega)) (fun _ => by omega), own_setP' (own_setP' (own_setP' O3.out (fun _ => by omega)) (fun _ => by omega)) (fun _ => by omega), (by repeat (first | with_reducible exact Below.refl _ _ | exact Hid.out (by with_reducible assumption) | refine Below.setCell ?_ (by simp <;> omega) _ | refine below_alloc ?_ _ | refine Below.alloc ?_ (by simp <;> omega) _ | refine Below.drew ?_ | refine below_drewN ?_ _ | exact Below.refl _ _))⟩
    case rest =>
    obtain ⟨T1, c1, g1, T2, c2, g2, T3, c3, g3, hbx, hzz, hgg, o1, o2, o3, hbb⟩ := hcut
    have BX := Lib.hid hbx
    have ZX := Lib.hid hzz
    have GG := Lib.hid hgg
    have O1 := Lib.hid o1
    have O2 := Lib.hid o2
    have O3 := Lib.hid (show OwnC wc g3 T3 o (partNot h 0) from o3.congr fun i hi => by unfold partNot; rw [if_neg (by omega)])
    have NB := Lib.hid hbb
    clear hbx hzz hgg o1 o2 o3 hbb x0 x1 x2 x3 x4 hfz X1 Z1 N1
    obtain ⟨y0, y1, y2, y3, y4⟩ := BX.out.box
    have hfy := BX.out.fz
    go_wp2_with fail
    go_loopw [4, 5, 25] (fun _ _ i wr => ∃ k : Nat, k ≤ o ∧ i = .int .i64 k ∧ Hid (Below w.heap.size w wr) ∧ Hid (BoxF5 wr w.heap.size (.int .i64 s) (.int .i64 l) (.slice T1 n c1) (.slice T2 m c2) (.slice T3 o c3)) ∧ Hid (BoxF5 wr (w.heap.size + 1) (.int .i64 0) (.int .i64 0) (.slice none 0 0) (.slice none 0 0) (.slice none 0 0)) ∧
      Hid (OwnC wr g1 T1 n (fun i => .int .i64 (f i))) ∧ Hid (OwnC wr g2 T2 m (fun i => .int .i64 (g i))) ∧ Hid (OwnC wr g3 T3 o (partNot h k))) (fun _ _ i _ => o - (intOf i).toNat)
    case atStart => exact ⟨0, Nat.zero_le _, rfl, NB.out, BX.out, ZX.out, O1.out, O2.out, O3.out⟩
    case round =>
      obtain ⟨k, hk, rfl, HB0, CX, CZ, R1, R2, R3⟩ := hrel
      clear y0 y1 y2 y3 y4 hfy
      obtain ⟨y0, y1, y2, y3, y4⟩ := CX.out.box
      by_cases hlt : k < o
      · have d1 : (k : Int) < o := by omega
        obtain ⟨x, rfl, hxg, hxf, hxc0⟩ := R3.out k hlt
        have hxc : wr.cell? (x.add k) = some (.bool (h k)) := by rw [hxc0]; unfold partNot; rw [if_neg (by omega)]
        have HS := Lib.hid (by have := R3.out.set rfl hlt (.bool (!h k)); rw [partNot_step] at this; exact this)
        obtain ⟨q1, q2, q3, q4, q5, q6⟩ := GG.out
        have HW := Lib.hid (show Within g3 (g3 + 1) wr (wr.setCell (x.add k) (.bool (!h k))) from Within.setCell wr (p := x.add k) (by rw [block_add, hxg]; exact Nat.le_refl _) (by rw [block_add, hxg]; exact Nat.lt_succ_self _) _)
        have Q5 := Lib.hid q5
        have Q6 := Lib.hid q6
        have nb : (x.add k).block ≠ w.heap.size := by rw [block_add, hxg]; omega
        have nb3 : (x.add k).block ≠ w.heap.size + 1 := by rw [block_add, hxg]; omega
        clear hxc0 hxg q4 q5 q6
        generalize h k = hk' at *
        go_wp2_with fail
        exact ⟨⟨k + 1, by omega, by simp, HB0.out.trans (HW.out.below (by omega) HB0.out.size), CX.out.keep (Below.heap_setCell _ _ _ _ (fun e => nb e.symm)), CZ.out.keep (Below.heap_setCell _ _ _ _ (fun e => nb3 e.symm)),
          R1.out.within HW.out (fun hn0 => by have := Q5.out hn0 (by omega); omega), R2.out.within HW.out (fun hn0 => by have := Q6.out hn0 (by omega); omega), HS.out⟩, by simp [intOf]; omega⟩
      · have d1 : ¬ (k : Int) < o := by omega
        have e : k = o := by omega
        subst e
        have P3 := Lib.hid (show OwnC wr g3 T3 k (fun i => .bool (!h i)) from R3.out.congr fun i hi => by unfold partNot; rw [if_pos hi])
        obtain ⟨k0, k1, k2, k3, k4⟩ := CZ.out.box
        have hfz := CZ.out.fz
        go_wp2_with fail
        refine bodyPost_ret (v := .tuple #[.agg #[.int .i64 s, .int .i64 l, .slice T1 n c1, .slice T2 m c2, .slice T3 k c3], .bool true]) ?r1 rfl ?r2
        case r1 => simp [results, Try.results23, go_sem, k0, k1, k2, k3, k4]
        case r2 =>
          obtain ⟨q1, q2, q3, q4, q5, q6⟩ := GG.out
          exact TreeMachineRes.make (lo := w1.heap.size) (by omega) q1 q2 q3 q4 q5 q6
            (own_setP' (own_setP' (own_setP' (own_setP' (own_setP' R1.out (fun _ => by omega)) (fun _ => by omega)) (fun _ => by omega)) (fun _ => by omega)) (fun _ => by omega))
            (own_setP' (own_setP' (own_setP' (own_setP' (own_setP' R2.out (fun _ => by omega)) (fun _ => by omega)) (fun _ => by omega)) (fun _ => by omega)) (fun _ => by omega))
            (own_setP' (own_setP' (own_setP' (own_setP' (own_setP' P3.out (fun _ => by omega)) (fun _ => by omega)) (fun _ => by omega)) (fun _ => by omega)) (fun _ => by omega)) (by repeat (first | with_reducible exact Below.refl _ _ | exact Hid.out (by with_reducible assumption) | refine Below.setCell ?_ (by simp <;> omega) _ | refine below_alloc ?_ _ | refine Below.alloc ?_ (by simp <;> omega) _ | refine Below.drew ?_ | refine below_drewN ?_ _ | exact Below.refl _ _))
end Go.Proofs.Ytgbiablibfbilaa
