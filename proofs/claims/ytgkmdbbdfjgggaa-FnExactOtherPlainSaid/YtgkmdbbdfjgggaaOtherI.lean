/- The plain machine that reads all others: the program's. -/
import Derived.Test.YtgkmdbbdfjgggaaOtherS
set_option linter.unusedVariables false
namespace Go.Proofs.Ytgkmdbbdfjgggaa
open Go.RowKit

theorem box4_set2 {w : World} {p : Nat} {v0 v1 v2 v3 : Value} (h : Box4 w p v0 v1 v2 v3) (u : Value) : Box4 (w.setCell ⟨p, 2, none⟩ u) p v0 v1 u v3 :=
  ⟨by rw [World.cell?_setCell_other _ _ _ _ (by simp)]; exact h.c0, by rw [World.cell?_setCell_other _ _ _ _ (by simp)]; exact h.c1, World.cell?_setCell_same _ _ _ h.c2, by rw [World.cell?_setCell_other _ _ _ _ (by simp)]; exact h.c3⟩
theorem box4_set3 {w : World} {p : Nat} {v0 v1 v2 v3 : Value} (h : Box4 w p v0 v1 v2 v3) (u : Value) : Box4 (w.setCell ⟨p, 3, none⟩ u) p v0 v1 v2 u :=
  ⟨by rw [World.cell?_setCell_other _ _ _ _ (by simp)]; exact h.c0, by rw [World.cell?_setCell_other _ _ _ _ (by simp)]; exact h.c1, by rw [World.cell?_setCell_other _ _ _ _ (by simp)]; exact h.c2, World.cell?_setCell_same _ _ _ h.c3⟩

set_option maxRecDepth 20000 in
set_option maxHeartbeats 4000000 in
theorem implOtherPlain_any (s l : Int) (A B : Option Addr) (n c m d : Nat) (f : Nat → Int) (g : Nat → Bool) (w : World) (hn : n ≤ 1048576) (hm : m ≤ 1048576) (hA : Cells w A n (fun i => .int .i64 (f i))) (hB : Cells w B m (fun i => .bool (g i))) :
    Calls Try.prog 25 #[.agg #[.int .i64 s, .int .i64 l, .slice A n c, .slice B m d]] w fun e w' =>
      PlainRes w w' e (validP s l n m f) (ifI (validP s l n m f) s) (ifI (validP s l n m f) l) (ifN (validP s l n m f) n) (ifN (validP s l n m f) m) f (fun i => !g i) := by
  have HA := Lib.hid hA
  have HB := Lib.hid hB
  have HV := Lib.hid (fun W h1 => implValidPlain_any s l A B n c m d f W (by omega) (by omega) h1)
  have HG := Lib.hid (fun W (h1 : Cells W A n (fun i => .int .i64 (f i))) => cloneI_any A n c f W hn (by rw [Nat.mul_one]; exact h1))
  have HH := Lib.hid (fun W (h1 : Cells W B m (fun i => .bool (g i))) => cloneB_any B m d g W hm (by rw [Nat.mul_one]; exact h1))
  clear hA hB
  generalize validP s l n m f = v at *
  go_enter Try.func25, Try.ntmps25
  go_wp2_with fail
  refine (HV.out _ (HA.out.below (by repeat (first | exact Below.refl _ _ | exact Hid.out (by assumption) | refine below_alloc ?_ _ | refine Below.setCell ?_ (by simp <;> omega) _ | refine Below.alloc ?_ (by simp <;> omega) _ | refine Below.drew ?_ | refine below_drewN ?_ _)))).mono ?_
  rintro e w1 ⟨rfl, hb1⟩
  have N1 := Lib.hid (show Below w.heap.size w w1 from Below.trans (by repeat (first | exact Below.refl _ _ | exact Hid.out (by assumption) | refine below_alloc ?_ _ | refine Below.setCell ?_ (by simp <;> omega) _ | refine Below.alloc ?_ (by simp <;> omega) _ | refine Below.drew ?_ | refine below_drewN ?_ _)) (hb1.mono (by simp <;> omega)))
  obtain ⟨hc1, hf1⟩ := bcellK hb1 (w.heap.size + 1) (by simp <;> omega)
  have hz1 : w.heap.size + 2 ≤ w1.heap.size := by have := hb1.size; simp at this; omega
  have X1 := Lib.hid (Box4.below (Box4.alloc (Box4.new w 28 (.int .i64 s) (.int .i64 l) (.slice A n c) (.slice B m d)) _) hb1)
  have Z1 := Lib.hid (Box4.below (show Box4 _ (w.heap.size + 1) _ _ _ _ from by simpa using (Box4.new (w.alloc (.cells #[.int .i64 s, .int .i64 l, .slice A n c, .slice B m d] 28)) 28 (.int .i64 0) (.int .i64 0) (.slice none 0 0) (.slice none 0 0))) hb1)
  clear hb1
  cases v
  · obtain ⟨k0, k1, k2, k3⟩ := Z1.out
    go_wp2_with fail
    clear hc1 hf1
    refine bodyPost_ret (v := .tuple #[.agg #[.int .i64 0, .int .i64 0, .slice none 0 0, .slice none 0 0], .bool false]) ?r1 rfl ?r2
    case r1 => simp [results, Try.results25, go_sem, k0, k1, k2, k3]
    case r2 => exact PlainRes.none_ rfl (by repeat (first | exact Below.refl _ _ | exact Hid.out (by assumption) | refine below_alloc ?_ _ | refine Below.setCell ?_ (by simp <;> omega) _ | refine Below.alloc ?_ (by simp <;> omega) _ | refine Below.drew ?_ | refine below_drewN ?_ _))
  · go_upto_region 3 with fail
    go_cut [] from 10 to 17 (fun wx => ∃ (T2 : Option Addr) (c2 g2 : Nat) (T3 : Option Addr) (c3 g3 : Nat), Box4 wx w.heap.size (.int .i64 s) (.int .i64 l) (.slice T2 n c2) (.slice T3 m c3) ∧
      Box4 wx (w.heap.size + 1) (.int .i64 0) (.int .i64 0) (.slice none 0 0) (.slice none 0 0) ∧ (∀ j, wx.frozen? ⟨w.heap.size + 1, j, none⟩ = false) ∧ (∀ j, wx.frozen? ⟨w.heap.size, j, none⟩ = false) ∧
      (w1.heap.size ≤ g2 ∧ w1.heap.size ≤ g3 ∧ (0 < n → 0 < m → g2 ≠ g3)) ∧ OwnC wx g2 T2 n (fun i => .int .i64 (f i)) ∧ OwnC wx g3 T3 m (fun i => .bool (g i)) ∧ Below w.heap.size w wx)
    case first =>
      go_region_with (first
        | (go_at_call 60
           refine (HG.out _ (HA.out.below (by repeat (first | exact Below.refl _ _ | exact Hid.out (by assumption) | refine below_alloc ?_ _ | refine Below.setCell ?_ (by simp <;> omega) _ | refine Below.alloc ?_ (by simp <;> omega) _ | refine Below.drew ?_ | refine below_drewN ?_ _)))).mono ?_
           rintro e u1 ⟨T2, c2, g2, rfl, hg2, ho2, hb⟩
           have N3 := Lib.hid (show Below w.heap.size w u1 from Below.trans (by repeat (first | exact Below.refl _ _ | exact Hid.out (by assumption) | refine below_alloc ?_ _ | refine Below.setCell ?_ (by simp <;> omega) _ | refine Below.alloc ?_ (by simp <;> omega) _ | refine Below.drew ?_ | refine below_drewN ?_ _)) (hb.mono (by have := N1.out.size; simp <;> omega)))
           obtain ⟨hc3, hf3⟩ := bcellK hb (w.heap.size + 1) (by simp <;> omega)
           have hz3 : w1.heap.size ≤ u1.heap.size := by have := hb.size; simp at this; omega
           have hy2 : w1.heap.size ≤ g2 := by simp at hg2; omega
           have O2 := Lib.hid (by have := ho2; rw [Nat.mul_one] at this; exact this)
           have X3 := Lib.hid (X1.out.below (Below.trans (by repeat (first | exact Below.refl _ _ | exact Hid.out (by assumption) | refine below_alloc ?_ _ | refine Below.setCell ?_ (by simp <;> omega) _ | refine Below.alloc ?_ (by simp <;> omega) _ | refine Below.drew ?_ | refine below_drewN ?_ _)) (hb.mono (by simp))))
           have Z3 := Lib.hid (Z1.out.below (Below.trans (by repeat (first | exact Below.refl _ _ | exact Hid.out (by assumption) | refine below_alloc ?_ _ | refine Below.setCell ?_ (by simp <;> omega) _ | refine Below.alloc ?_ (by simp <;> omega) _ | refine Below.drew ?_ | refine below_drewN ?_ _)) (hb.mono (by simp))))
           clear hb hg2 ho2)
        | (go_at_call 61
           refine (HH.out _ (HB.out.below (by repeat (first | exact Below.refl _ _ | exact Hid.out (by assumption) | refine below_alloc ?_ _ | refine Below.setCell ?_ (by simp <;> omega) _ | refine Below.alloc ?_ (by simp <;> omega) _ | refine Below.drew ?_ | refine below_drewN ?_ _)))).mono ?_
           rintro e u2 ⟨T3, c3, g3, rfl, hg3, ho3, hb⟩
           have N4 := Lib.hid (show Below w.heap.size w u2 from Below.trans (by repeat (first | exact Below.refl _ _ | exact Hid.out (by assumption) | refine below_alloc ?_ _ | refine Below.setCell ?_ (by simp <;> omega) _ | refine Below.alloc ?_ (by simp <;> omega) _ | refine Below.drew ?_ | refine below_drewN ?_ _)) (hb.mono (by first | exact N3.out.size | (simp; exact N3.out.size))))
           obtain ⟨hc4, hf4⟩ := bcellK hb (w.heap.size + 1) (by first | omega | (simp <;> omega))
           have hz4 : u1.heap.size ≤ u2.heap.size := by have := hb.size; first | exact this | (simp at this; omega)
           have hy3 : u1.heap.size ≤ g3 := by first | exact hg3 | (simp at hg3; omega)
           have O3 := Lib.hid (by have := ho3; rw [Nat.mul_one] at this; exact this)
           have O2b := Lib.hid (OwnC.below O2.out (show Below u1.heap.size u1 u2 from Below.trans (by repeat (first | exact Below.refl _ _ | exact Hid.out (by assumption) | refine below_alloc ?_ _ | refine Below.setCell ?_ (by simp <;> omega) _ | refine Below.alloc ?_ (by simp <;> omega) _ | refine Below.drew ?_ | refine below_drewN ?_ _)) (hb.mono (by first | exact Nat.le_refl _ | simp))))
           have L2 := Lib.hid (fun hq => O2.out.lt hq)
           have X4 := Lib.hid (X3.out.below (show Below u1.heap.size u1 u2 from Below.trans (by repeat (first | exact Below.refl _ _ | exact Hid.out (by assumption) | refine below_alloc ?_ _ | refine Below.setCell ?_ (by simp <;> omega) _ | refine Below.alloc ?_ (by simp <;> omega) _ | refine Below.drew ?_ | refine below_drewN ?_ _)) (hb.mono (by first | exact Nat.le_refl _ | simp))))
           have Z4 := Lib.hid (Z3.out.below (show Below u1.heap.size u1 u2 from Below.trans (by repeat (first | exact Below.refl _ _ | exact Hid.out (by assumption) | refine below_alloc ?_ _ | refine Below.setCell ?_ (by simp <;> omega) _ | refine Below.alloc ?_ (by simp <;> omega) _ | refine Below.drew ?_ | refine below_drewN ?_ _)) (hb.mono (by first | exact Nat.le_refl _ | simp))))
           clear hb hg3 ho3))
      all_goals (
        go_wp2_with fail
        go_meet
        refine ⟨T2, c2, g2, T3, c3, g3, box4_set3 (box4_set2 X4.out _) _, (Z4.out.far (by omega)).far (by omega), fun j => ?fz, fun j => ?fy, ⟨hy2, by omega, fun q1 q2 e => ?ne⟩,
          own_setP' (own_setP' O2b.out (fun _ => by omega)) (fun _ => by omega), own_setP' (own_setP' O3.out (fun _ => by omega)) (fun _ => by omega), (by repeat (first | exact Below.refl _ _ | exact Hid.out (by assumption) | refine below_alloc ?_ _ | refine Below.setCell ?_ (by simp <;> omega) _ | refine Below.alloc ?_ (by simp <;> omega) _ | refine Below.drew ?_ | refine below_drewN ?_ _))⟩
        case fz => simp [World.frozen?_setCell, hf4, hf3, hf1, go_sem]
        case fy => simp [World.frozen?_setCell, hf4, hf3, hf1, go_sem]
        case ne => have := L2.out q1; omega)
    case rest =>
    obtain ⟨T2, c2, g2, T3, c3, g3, hbx, hbz, hfz, hfy, hgg, o2, o3, hbb⟩ := hcut
    have NN := Lib.hid hbb
    have BX := Lib.hid hbx
    have BZ := Lib.hid hbz
    have FZ := Lib.hid hfz
    have O2 := Lib.hid o2
    have O3 := Lib.hid o3
    have GG := Lib.hid hgg
    clear o2 o3 hbb hgg hc1 hf1 hbz hfz hfy
    obtain ⟨b0, b1, b2, b3⟩ := hbx
    go_wp2_with fail
    go_loopw [4, 5, 21] (fun _ _ i wr => ∃ k : Nat, k ≤ m ∧ i = .int .i64 k ∧ Hid (Below w.heap.size w wr) ∧ Hid (Box4 wr w.heap.size (.int .i64 s) (.int .i64 l) (.slice T2 n c2) (.slice T3 m c3)) ∧
      Hid (Box4 wr (w.heap.size + 1) (.int .i64 0) (.int .i64 0) (.slice none 0 0) (.slice none 0 0)) ∧ Hid (∀ j, wr.frozen? ⟨w.heap.size + 1, j, none⟩ = false) ∧ Hid (OwnC wr g2 T2 n (fun i => .int .i64 (f i))) ∧ Hid (OwnC wr g3 T3 m (partNot g k))) (fun _ _ i _ => m - (intOf i).toNat)
    case atStart =>
      exact ⟨0, Nat.zero_le _, rfl, NN.out, BX.out, BZ.out, FZ.out, O2.out, O3.out.congr fun i hi => by unfold partNot; rw [if_neg (by omega)]⟩
    case round =>
      obtain ⟨k, hk, rfl, NB, BP, BZ, FZ, R1, R2⟩ := hrel
      clear b0 b1 b2 b3
      obtain ⟨x0, x1, x2, x3⟩ := BP.out
      by_cases hlt : k < m
      · have d1 : (k : Int) < m := by omega
        obtain ⟨x, rfl, hxg, hxf, hxc0⟩ := R2.out k hlt
        have hxc : wr.cell? (x.add k) = some (.bool (g k)) := by rw [hxc0]; unfold partNot; rw [if_neg (by omega)]
        have HS := Lib.hid (by have := R2.out.set rfl hlt (.bool (!g k)); rw [partNot_step] at this; exact this)
        obtain ⟨q1, q2, q3⟩ := GG.out
        have HW := Lib.hid (show Within g3 (g3 + 1) wr (wr.setCell (x.add k) (.bool (!g k))) from Within.setCell wr (p := x.add k) (by rw [block_add, hxg]; exact Nat.le_refl _) (by rw [block_add, hxg]; exact Nat.lt_succ_self _) _)
        have HX := Lib.hid hxg
        have Q3 := Lib.hid q3
        clear hxc0 hxg q3
        generalize g k = gk at *
        go_wp2_with fail
        exact ⟨⟨k + 1, by omega, by simp, NB.out.trans (HW.out.below (by omega) NB.out.size), BP.out.within HW.out (by omega), BZ.out.within HW.out (by omega),
          fun j => (HW.out.frozen (p := ⟨w.heap.size + 1, j, none⟩) BZ.out.lt (by simp; omega)).trans (FZ.out j), R1.out.within HW.out (fun hn0 => by have := Q3.out hn0 (by omega); omega), HS.out⟩, by simp [intOf]; omega⟩
      · have d1 : ¬ (k : Int) < m := by omega
        have e : k = m := by omega
        subst e
        obtain ⟨z0, z1, z2, z3⟩ := BZ.out
        have f0 := FZ.out 0
        have f1 := FZ.out 1
        have f2 := FZ.out 2
        have f3 := FZ.out 3
        go_wp2_with fail
        refine bodyPost_ret (v := .tuple #[.agg #[.int .i64 s, .int .i64 l, .slice T2 n c2, .slice T3 k c3], .bool true]) ?r1 rfl ?r2
        case r1 => simp [results, Try.results25, go_sem, z0, z1, z2, z3]
        case r2 =>
          obtain ⟨q1, q2, q3⟩ := GG.out
          obtain ⟨a, b, h1, h2, r1, r2⟩ := rows_apart2 (lo := w.heap.size + 2) (W := wr.heap.size) (g1 := g2) (g2 := g3) (n1 := n) (n2 := k) (by have := BZ.out.lt; omega) (by omega) (by omega) R1.out.lt R2.out.lt q3 R1.out R2.out (Nat.le_refl _)
          exact ⟨T2, c2, T3, c3, a, b, rfl, ⟨by omega, by omega⟩, h2, own_set4P r1 (fun _ => by omega), (own_set4P r2 (fun _ => by omega)).congr fun i hi => by unfold partNot; rw [if_pos hi], (by repeat (first | exact Below.refl _ _ | exact Hid.out (by assumption) | refine below_alloc ?_ _ | refine Below.setCell ?_ (by simp <;> omega) _ | refine Below.alloc ?_ (by simp <;> omega) _ | refine Below.drew ?_ | refine below_drewN ?_ _))⟩
end Go.Proofs.Ytgkmdbbdfjgggaa
