/- The machine that reads all other trees: the reference's. -/
import Derived.Test.YtgbiablibfbilaaOwnT
set_option linter.unusedVariables false
namespace Go.Proofs.Ytgbiablibfbilaa
open Go.RowKit
theorem BoxF5.drew {w : World} {p : Nat} {v0 v1 v2 v3 v4 : Value} (h : BoxF5 w p v0 v1 v2 v3 v4) : BoxF5 w.drew p v0 v1 v2 v3 v4 := h.below (Below.drew (Below.refl _ _))
set_option maxRecDepth 20000 in
set_option maxHeartbeats 8000000 in
theorem specOtherTrees_any (s l : Int) (A B C : Option Addr) (n c m d o q : Nat) (f g : Nat → Int) (h : Nat → Bool) (w : World) (hn : n ≤ 1048576) (hm : m ≤ 1048576) (ho : o ≤ 1048576) (hA : Cells w A n (fun i => .int .i64 (f i))) (hB : Cells w B m (fun i => .int .i64 (g i))) (hC : Cells w C o (fun i => .bool (h i))) :
    Calls Try.prog 22 #[.agg #[.int .i64 s, .int .i64 l, .slice A n c, .slice B m d, .slice C o q]] w fun e w' =>
      TreeMachineRes w w' e (validT s l n m o f g) (ifI (validT s l n m o f g) s) (ifI (validT s l n m o f g) l) (ifN (validT s l n m o f g) n) (ifN (validT s l n m o f g) m) (ifN (validT s l n m o f g) o) f g (fun i => !h i) := by
  have HA := Lib.hid hA
  have HB := Lib.hid hB
  have HC := Lib.hid hC
  have HP := Lib.hid (fun P W h1 h2 b => l06Trees_any P s l A B C n c m d o q f g W hn hm h1 h2 b)
  have HO := Lib.hid (fun P W h1 h2 h3 b => l06OwnTrees_any P s l A B C n c m d o q f g h W hn hm ho h1 h2 h3 b)
  clear hA hB hC
  generalize validT s l n m o f g = v at *
  go_enter Try.func22, Try.ntmps22
  obtain ⟨w1, hw1⟩ : ∃ W, W = (w.alloc (.cells #[.int .i64 s, .int .i64 l, .slice A n c, .slice B m d, .slice C o q] 28)).alloc (.cells #[.int .i64 0, .int .i64 0, .slice none 0 0, .slice none 0 0, .slice none 0 0] 28) := ⟨_, rfl⟩
  have N1 := Lib.hid (show Below w.heap.size w w1 by rw [hw1]; exact (by repeat (first | with_reducible exact Below.refl _ _ | exact Hid.out (by with_reducible assumption) | refine Below.setCell ?_ (by simp <;> omega) _ | refine below_alloc ?_ _ | refine Below.alloc ?_ (by simp <;> omega) _ | refine Below.drew ?_ | refine below_drewN ?_ _ | exact Below.refl _ _)))
  have X1 := Lib.hid (show BoxF5 w1 w.heap.size (.int .i64 s) (.int .i64 l) (.slice A n c) (.slice B m d) (.slice C o q) by rw [hw1]; exact BoxF5.alloc (BoxF5.new w 28 _ _ _ _ _) _)
  have Z1 := Lib.hid (show BoxF5 w1 (w.heap.size + 1) (.int .i64 0) (.int .i64 0) (.slice none 0 0) (.slice none 0 0) (.slice none 0 0) by
    rw [hw1]
    have := BoxF5.new (w.alloc (.cells #[.int .i64 s, .int .i64 l, .slice A n c, .slice B m d, .slice C o q] 28)) 28 (.int .i64 0) (.int .i64 0) (.slice none 0 0) (.slice none 0 0) (.slice none 0 0)
    rw [World.size_alloc] at this
    exact this)
  have hz1 : w.heap.size + 2 ≤ w1.heap.size := by rw [hw1]; simp
  go_wp2_with fail
  rw [← hw1]
  clear hw1
  refine (HP.out _ _ (HA.out.below N1.out) (HB.out.below N1.out) X1.out.box).mono ?_
  rintro e w2 ⟨rfl, u, rfl⟩
  have N2 := Lib.hid (show Below w.heap.size w (w1.drewN u) from (by repeat (first | with_reducible exact Below.refl _ _ | exact Hid.out (by with_reducible assumption) | refine Below.setCell ?_ (by simp <;> omega) _ | refine below_alloc ?_ _ | refine Below.alloc ?_ (by simp <;> omega) _ | refine Below.drew ?_ | refine below_drewN ?_ _ | exact Below.refl _ _)))
  have X2 := Lib.hid (X1.out.drewN u)
  have Z2 := Lib.hid (Z1.out.drewN u)
  have hz2 : w.heap.size + 2 ≤ (w1.drewN u).heap.size := hz1
  generalize w1.drewN u = w2 at *
  cases v
  · obtain ⟨k0, k1, k2, k3, k4⟩ := Z2.out.box
    have hfz := Z2.out.fz
    go_wp2_with fail
    refine bodyPost_ret (v := .tuple #[.agg #[.int .i64 0, .int .i64 0, .slice none 0 0, .slice none 0 0, .slice none 0 0], .bool false]) ?r1 rfl ?r2
    case r1 => simp [results, Try.results22, go_sem, k0, k1, k2, k3, k4]
    case r2 => exact TreeMachineRes.none_ rfl (by repeat (first | with_reducible exact Below.refl _ _ | exact Hid.out (by with_reducible assumption) | refine Below.setCell ?_ (by simp <;> omega) _ | refine below_alloc ?_ _ | refine Below.alloc ?_ (by simp <;> omega) _ | refine Below.drew ?_ | refine below_drewN ?_ _ | exact Below.refl _ _))
  · go_wp2_with fail
    refine (HO.out _ _ (HA.out.below N2.out) (HB.out.below N2.out) (HC.out.below N2.out) X2.out.box).mono ?_
    rintro e w3 ⟨T1, c1, g1, T2, c2, g2, T3, c3, g3, rfl, hg, ho1, ho2, ho3, hb⟩
    have N3 := Lib.hid (N2.out.trans (hb.mono N2.out.size))
    have X3 := Lib.hid (X2.out.below hb)
    have Z3 := Lib.hid (Z2.out.below hb)
    have GG := Lib.hid hg
    have O1 := Lib.hid ho1
    have O2 := Lib.hid ho2
    have O3 := Lib.hid (show OwnC w3 g3 T3 o (partNot h 0) from ho3.congr fun i hi => by unfold partNot; rw [if_neg (by omega)])
    have L3 := Lib.hid (show 0 < o → g3 < w3.heap.size from ho3.lt)
    have hz3 : w2.heap.size ≤ w3.heap.size := hb.size
    have Y3 := Lib.hid (BoxF5.new w3 28 (.int .i64 s) (.int .i64 l) (.slice T1 n c1) (.slice T2 m c2) (.slice T3 o c3))
    clear hb hg ho1 ho2 ho3
    go_wp2_with fail
    go_loopw [5] (fun i wr => ∃ k : Nat, k ≤ o ∧ i = .int .i64 k ∧ Hid (Below w.heap.size w wr) ∧ Hid (BoxF5 wr w.heap.size (.int .i64 s) (.int .i64 l) (.slice A n c) (.slice B m d) (.slice C o q)) ∧ Hid (BoxF5 wr w3.heap.size (.int .i64 s) (.int .i64 l) (.slice T1 n c1) (.slice T2 m c2) (.slice T3 o c3)) ∧
      Hid (BoxF5 wr (w.heap.size + 1) (.int .i64 0) (.int .i64 0) (.slice none 0 0) (.slice none 0 0) (.slice none 0 0)) ∧ Hid (OwnC wr g1 T1 n (fun i => .int .i64 (f i))) ∧ Hid (OwnC wr g2 T2 m (fun i => .int .i64 (g i))) ∧ Hid (OwnC wr g3 T3 o (partNot h k))) (fun i _ => o - (intOf i).toNat)
    case atStart =>
      have K := (Below.refl w3.heap.size w3).alloc (Nat.le_refl _) (.cells #[.int .i64 s, .int .i64 l, .slice T1 n c1, .slice T2 m c2, .slice T3 o c3] 28)
      exact ⟨0, Nat.zero_le _, rfl, (by repeat (first | with_reducible exact Below.refl _ _ | exact Hid.out (by with_reducible assumption) | refine Below.setCell ?_ (by simp <;> omega) _ | refine below_alloc ?_ _ | refine Below.alloc ?_ (by simp <;> omega) _ | refine Below.drew ?_ | refine below_drewN ?_ _ | exact Below.refl _ _)), X3.out.below K, Y3.out, Z3.out.below K, O1.out.below K, O2.out.below K, O3.out.below K⟩
    case round =>
      obtain ⟨k, hk, rfl, NB, BP, BY, BZ, R1, R2, R3⟩ := hrel
      obtain ⟨x0, x1, x2, x3, x4⟩ := BP.out.box
      obtain ⟨y0, y1, y2, y3, y4⟩ := BY.out.box
      by_cases hlt : k < o
      · have d1 : (k : Int) < o := by omega
        obtain ⟨y, rfl, hy0⟩ := HC.out k hlt
        have hy : wr.cell? (y.add k) = some (.bool (h k)) := by rw [NB.out.cell (World.block_lt_of_cell? _ _ hy0)]; exact hy0
        obtain ⟨x, rfl, hxg, hxf, hxc0⟩ := R3.out k hlt
        have hxc : wr.cell? (x.add k) = some (.bool (h k)) := by rw [hxc0]; unfold partNot; rw [if_neg (by omega)]
        have HS := Lib.hid (by have := R3.out.set rfl hlt (.bool (!h k)); rw [partNot_step] at this; exact this)
        have hl3 := L3.out (by omega)
        obtain ⟨q1, q2, q3, q4, q5, q6⟩ := GG.out
        have HW := Lib.hid (show Within g3 (g3 + 1) wr (wr.setCell (x.add k) (.bool (!h k))) from Within.setCell wr (p := x.add k) (by rw [block_add, hxg]; exact Nat.le_refl _) (by rw [block_add, hxg]; exact Nat.lt_succ_self _) _)
        have Q5 := Lib.hid q5
        have Q6 := Lib.hid q6
        have nb : (x.add k).block ≠ w.heap.size := by rw [block_add, hxg]; omega
        have nb2 : (x.add k).block ≠ w3.heap.size := by rw [block_add, hxg]; omega
        have nb3 : (x.add k).block ≠ w.heap.size + 1 := by rw [block_add, hxg]; omega
        clear hxc0 hy0 hxg q4 q5 q6
        generalize h k = gk at *
        go_wp2_with fail
        go_region
        all_goals (
          go_wp2_with fail
          exact ⟨⟨k + 1, by omega, by simp, (NB.out.trans (HW.out.below (by omega) NB.out.size)).drew, (BP.out.keep (Below.heap_setCell _ _ _ _ (fun e => nb e.symm))).drew, (BY.out.keep (Below.heap_setCell _ _ _ _ (fun e => nb2 e.symm))).drew, (BZ.out.keep (Below.heap_setCell _ _ _ _ (fun e => nb3 e.symm))).drew,
            OwnC.below (R1.out.within HW.out (fun hn0 => by have := Q5.out hn0 (by omega); omega)) (Below.drew (Below.refl _ _)), OwnC.below (R2.out.within HW.out (fun hn0 => by have := Q6.out hn0 (by omega); omega)) (Below.drew (Below.refl _ _)), HS.out.below (Below.drew (Below.refl _ _))⟩, by simp [intOf]; omega⟩)
      · have d1 : ¬ (k : Int) < o := by omega
        have e : k = o := by omega
        subst e
        have P3 := Lib.hid (show OwnC wr g3 T3 k (fun i => .bool (!h i)) from R3.out.congr fun i hi => by unfold partNot; rw [if_pos hi])
        obtain ⟨k0, k1, k2, k3, k4⟩ := BZ.out.box
        have hfz := BZ.out.fz
        go_wp2_with fail
        refine bodyPost_ret (v := .tuple #[.agg #[.int .i64 s, .int .i64 l, .slice T1 n c1, .slice T2 m c2, .slice T3 k c3], .bool true]) ?r1 rfl ?r2
        case r1 => simp [results, Try.results22, go_sem, k0, k1, k2, k3, k4]
        case r2 =>
          obtain ⟨q1, q2, q3, q4, q5, q6⟩ := GG.out
          exact TreeMachineRes.make (lo := w2.heap.size) (by omega) q1 q2 q3 q4 q5 q6
            (own_setP' (own_setP' (own_setP' (own_setP' (own_setP' R1.out (fun _ => by omega)) (fun _ => by omega)) (fun _ => by omega)) (fun _ => by omega)) (fun _ => by omega))
            (own_setP' (own_setP' (own_setP' (own_setP' (own_setP' R2.out (fun _ => by omega)) (fun _ => by omega)) (fun _ => by omega)) (fun _ => by omega)) (fun _ => by omega))
            (own_setP' (own_setP' (own_setP' (own_setP' (own_setP' P3.out (fun _ => by omega)) (fun _ => by omega)) (fun _ => by omega)) (fun _ => by omega)) (fun _ => by omega)) (by repeat (first | with_reducible exact Below.refl _ _ | exact Hid.out (by with_reducible assumption) | refine Below.setCell ?_ (by simp <;> omega) _ | refine below_alloc ?_ _ | refine Below.alloc ?_ (by simp <;> omega) _ | refine Below.drew ?_ | refine below_drewN ?_ _ | exact Below.refl _ _))
end Go.Proofs.Ytgbiablibfbilaa
