/- A machine of trees of its own: spec.l06OwnTrees. -/
import Derived.Test.YtgbiablibfbilaaOthT
import Derived.Test.YtgbiablibfbilaaStep
set_option linter.unusedVariables false
namespace Go.Proofs.Ytgbiablibfbilaa
open Go.RowKit
set_option maxRecDepth 20000 in
set_option maxHeartbeats 8000000 in
theorem l06OwnTrees_any (P : Nat) (s l : Int) (A B C : Option Addr) (n c m d o q : Nat) (f g : Nat → Int) (h : Nat → Bool) (w : World) (hn : n ≤ 1048576) (hm : m ≤ 1048576) (ho : o ≤ 1048576) (hA : Cells w A n (fun i => .int .i64 (f i))) (hB : Cells w B m (fun i => .int .i64 (g i))) (hC : Cells w C o (fun i => .bool (h i)))
    (b : Box5 w P (.int .i64 s) (.int .i64 l) (.slice A n c) (.slice B m d) (.slice C o q)) :
    Calls Try.prog 60 #[.pointer (some ⟨P, 0, none⟩)] w fun e w' => ∃ (T1 : Option Addr) (c1 g1 : Nat) (T2 : Option Addr) (c2 g2 : Nat) (T3 : Option Addr) (c3 g3 : Nat), e = .returned (.agg #[.int .i64 s, .int .i64 l, .slice T1 n c1, .slice T2 m c2, .slice T3 o c3]) ∧
      (w.heap.size ≤ g1 ∧ w.heap.size ≤ g2 ∧ w.heap.size ≤ g3 ∧ (0 < n → 0 < m → g1 ≠ g2) ∧ (0 < n → 0 < o → g1 ≠ g3) ∧ (0 < m → 0 < o → g2 ≠ g3)) ∧ OwnC w' g1 T1 n (fun i => .int .i64 (f i)) ∧ OwnC w' g2 T2 m (fun i => .int .i64 (g i)) ∧ OwnC w' g3 T3 o (fun i => .bool (h i)) ∧ Below w.heap.size w w' := by
  obtain ⟨ii, hii, hzi, hsi, hbi⟩ := info_parts infoCI
  obtain ⟨ib, hib, hzb, hsb, hbb⟩ := info_parts infoCB
  go_enter Try.func60, Try.ntmps60
  go_upto_region 1 with fail
  obtain ⟨w1, hw1⟩ : ∃ W, W = w.alloc (.cells #[.int .i64 0, .int .i64 0, .slice none 0 0, .slice none 0 0, .slice none 0 0] 28) := ⟨_, rfl⟩
  rw [← hw1]
  have N1 := Lib.hid (show Below w.heap.size w w1 by rw [hw1]; exact (Below.refl _ _).alloc (Nat.le_refl _) _)
  have RZ := Lib.hid (show BoxF5 w1 w.heap.size (.int .i64 0) (.int .i64 0) (.slice none 0 0) (.slice none 0 0) (.slice none 0 0) by rw [hw1]; exact BoxF5.new w 28 _ _ _ _ _)
  have hlt1 : w.heap.size < w1.heap.size := RZ.out.lt
  have X := Lib.hid (b.below N1.out)
  have HA := Lib.hid (hA.below N1.out)
  have HB := Lib.hid (hB.below N1.out)
  have HC := Lib.hid (hC.below N1.out)
  have hP : P < w.heap.size := b.lt
  clear hA hB hC b hw1
  obtain ⟨x0, x1, x2, x3, x4⟩ := X.out
  have HKeep := Lib.hid (show ∀ W, Below w1.heap.size w1 W → (W.cell? ⟨P, 0, none⟩ = some (.int .i64 s) ∧ W.cell? ⟨P, 1, none⟩ = some (.int .i64 l) ∧ W.cell? ⟨P, 2, none⟩ = some (.slice A n c)) from fun W hW => by
    have X := X.out.below hW
    exact ⟨X.c0, X.c1, X.c2⟩)
  go_cut [3] from 4 to 19 (fun s3 wx => ∃ (p : Nat) (A2 : Option Addr) (c2 ga : Nat), s3 = .pointer (some ⟨p, 0, none⟩) ∧ w1.heap.size ≤ p ∧ BoxF5 wx p (.int .i64 s) (.int .i64 l) (.slice A2 n c2) (.slice none 0 0) (.slice none 0 0) ∧
    w1.heap.size ≤ ga ∧ (0 < n → ga ≠ p) ∧ OwnC wx ga A2 n (fun i => .int .i64 (f i)) ∧ Below w1.heap.size w1 wx)
  case first =>
    go_region_held3 (fun W => W.cell? ⟨P, 0, none⟩ = some (.int .i64 s) ∧ W.cell? ⟨P, 1, none⟩ = some (.int .i64 l) ∧ W.cell? ⟨P, 2, none⟩ = some (.slice A n c))
      (exact HKeep.out _ (by repeat (first | with_reducible exact Below.refl _ _ | exact Hid.out (by with_reducible assumption) | refine Below.setCell ?_ (by simp <;> omega) _ | refine below_alloc ?_ _ | refine Below.alloc ?_ (by simp <;> omega) _ | refine Below.drew ?_ | refine below_drewN ?_ _ | exact Below.refl _ _)))
      (first
        |
          (refine step_append_cells _ rfl (.tmp 12) (.tmp 16) 22 rfl w1.heap.size 2 ii (.int .i64 0) 1 8 Try.underlying22 hii hzi hsi hbi rfl (by decide) (.slice (some ⟨w1.heap.size, 0, none⟩) 0 0) 0 [] rfl (lit0 (by first | exact lit_last (by simp) | exact lit_prev (by simp)) (by omega))
             A n c (fun i => .int .i64 (f i)) rfl (by rw [Nat.mul_one]; exact HA.out.below (by repeat (first | with_reducible exact Below.refl _ _ | exact Hid.out (by with_reducible assumption) | refine Below.setCell ?_ (by simp <;> omega) _ | refine below_alloc ?_ _ | refine Below.alloc ?_ (by simp <;> omega) _ | refine Below.drew ?_ | refine below_drewN ?_ _ | exact Below.refl _ _))) (fun _ _ => rfl) (by unfold maxLen; omega) (by omega) (by simp <;> omega) ?_
           intro v2 w2 hown hgrow hwhere
           have N2 := Lib.hid (show Below w1.heap.size w1 w2 from Below.grown (by repeat (first | with_reducible exact Below.refl _ _ | exact Hid.out (by with_reducible assumption) | refine Below.setCell ?_ (by simp <;> omega) _ | refine below_alloc ?_ _ | refine Below.alloc ?_ (by simp <;> omega) _ | refine Below.drew ?_ | refine below_drewN ?_ _ | exact Below.refl _ _)) hgrow (by simp <;> omega) (fun j hj => by cases hj; first | omega | (simp; done) | (simp; omega)))
           obtain ⟨A2, c2, ga, rfl, hga, hgb, ho⟩ := OwnC.of_rowB hown
           have O2 := Lib.hid (show OwnC w2 ga A2 n (fun i => .int .i64 (f i)) by
             rw [Nat.zero_add, Nat.mul_one] at ho
             exact ho.congr fun j hj => by simp only [List.nil_append]; exact listV_getD _ (by omega))
           have HG := Lib.hid hga
           have HW := Lib.hid (And.intro hgb hwhere)
           have hs2 := hgrow.size
           have HB2 := Lib.hid (show 0 < n → ga < w2.heap.size from O2.out.lt)
           (first | (have BB := Lib.hid (show BoxF5 w2 (w1.heap.size + 1) (.int .i64 0) (.int .i64 0) (.slice none 0 0) (.slice none 0 0) (.slice none 0 0) from by simpa using BoxF5.grown (BoxF5.below (BoxF5.new (w1.alloc (.cells #[] 2)) 28 _ _ _ _ _) (Below.drew (Below.refl _ _))) hgrow (by simp [Value.ownBlock])); obtain ⟨y0, y1, y2, y3, y4⟩ := BB.out.box; have yf := BB.out.fz) | skip)
           rw [Nat.zero_add]
           clear hown hgrow hga ho hgb hwhere)
        |
          (refine step_append_cells _ rfl (.tmp 12) (.tmp 16) 22 rfl w1.heap.size 2 ii (.int .i64 0) 1 8 Try.underlying22 hii hzi hsi hbi rfl (by decide) (.slice (some ⟨(w1.heap.size + 1), 0, none⟩) 0 0) 0 [] rfl (lit0 (by first | exact lit_last (by simp) | exact lit_prev (by simp)) (by omega))
             A n c (fun i => .int .i64 (f i)) rfl (by rw [Nat.mul_one]; exact HA.out.below (by repeat (first | with_reducible exact Below.refl _ _ | exact Hid.out (by with_reducible assumption) | refine Below.setCell ?_ (by simp <;> omega) _ | refine below_alloc ?_ _ | refine Below.alloc ?_ (by simp <;> omega) _ | refine Below.drew ?_ | refine below_drewN ?_ _ | exact Below.refl _ _))) (fun _ _ => rfl) (by unfold maxLen; omega) (by omega) (by simp <;> omega) ?_
           intro v2 w2 hown hgrow hwhere
           have N2 := Lib.hid (show Below w1.heap.size w1 w2 from Below.grown (by repeat (first | with_reducible exact Below.refl _ _ | exact Hid.out (by with_reducible assumption) | refine Below.setCell ?_ (by simp <;> omega) _ | refine below_alloc ?_ _ | refine Below.alloc ?_ (by simp <;> omega) _ | refine Below.drew ?_ | refine below_drewN ?_ _ | exact Below.refl _ _)) hgrow (by simp <;> omega) (fun j hj => by cases hj; first | omega | (simp; done) | (simp; omega)))
           obtain ⟨A2, c2, ga, rfl, hga, hgb, ho⟩ := OwnC.of_rowB hown
           have O2 := Lib.hid (show OwnC w2 ga A2 n (fun i => .int .i64 (f i)) by
             rw [Nat.zero_add, Nat.mul_one] at ho
             exact ho.congr fun j hj => by simp only [List.nil_append]; exact listV_getD _ (by omega))
           have HG := Lib.hid hga
           have HW := Lib.hid (And.intro hgb hwhere)
           have hs2 := hgrow.size
           have HB2 := Lib.hid (show 0 < n → ga < w2.heap.size from O2.out.lt)
           (have BB := Lib.hid (show BoxF5 w2 w1.heap.size (.int .i64 0) (.int .i64 0) (.slice none 0 0) (.slice none 0 0) (.slice none 0 0) from BoxF5.grown (BoxF5.below (BoxF5.alloc (BoxF5.new w1 28 _ _ _ _ _) (.cells #[] 2)) (Below.drew (Below.refl _ _))) hgrow (by simp [Value.ownBlock])); obtain ⟨y0, y1, y2, y3, y4⟩ := BB.out.box; have yf := BB.out.fz)
           rw [Nat.zero_add]
           clear hown hgrow hga ho hgb hwhere)
      )
    all_goals (
      go_wp2_with fail
      go_meet
      have hw2 := N2.out.size
      have hg1 : w1.heap.size ≤ ga := HG.out
      first
        | exact ⟨w2.heap.size, A2, c2, ga, rfl, hw2, BoxF5.new w2 _ _ _ _ _ _, hg1, fun hn0 => (by have := HB2.out hn0; omega), O2.out.below ((Below.refl _ _).alloc (Nat.le_refl _) _), (by repeat (first | with_reducible exact Below.refl _ _ | exact Hid.out (by with_reducible assumption) | refine Below.setCell ?_ (by simp <;> omega) _ | refine below_alloc ?_ _ | refine Below.alloc ?_ (by simp <;> omega) _ | refine Below.drew ?_ | refine below_drewN ?_ _ | exact Below.refl _ _))⟩
        | (have hne : 0 < n → ga ≠ w1.heap.size + 1 := fun hn0 => by
             obtain ⟨q1, q2⟩ := HW.out
             rw [q1 (by omega)] at q2
             simp [Value.ownBlock] at q2
             omega
           exact ⟨w1.heap.size + 1, A2, c2, ga, rfl, Nat.le_succ _, ((((BB.out.set0).set1).set2).set3).set4, hg1, hne, own_setP' (own_setP' (own_setP' (own_setP' (own_setP' O2.out hne) hne) hne) hne) hne, (by repeat (first | with_reducible exact Below.refl _ _ | exact Hid.out (by with_reducible assumption) | refine Below.setCell ?_ (by simp <;> omega) _ | refine below_alloc ?_ _ | refine Below.alloc ?_ (by simp <;> omega) _ | refine Below.drew ?_ | refine below_drewN ?_ _ | exact Below.refl _ _))⟩)
        | (have hne : 0 < n → ga ≠ w1.heap.size := fun hn0 => by
             obtain ⟨q1, q2⟩ := HW.out
             rw [q1 (by omega)] at q2
             simp [Value.ownBlock] at q2
             omega
           exact ⟨w1.heap.size, A2, c2, ga, rfl, Nat.le_refl _, ((((BB.out.set0).set1).set2).set3).set4, hg1, hne, own_setP' (own_setP' (own_setP' (own_setP' (own_setP' O2.out hne) hne) hne) hne) hne, (by repeat (first | with_reducible exact Below.refl _ _ | exact Hid.out (by with_reducible assumption) | refine Below.setCell ?_ (by simp <;> omega) _ | refine below_alloc ?_ _ | refine Below.alloc ?_ (by simp <;> omega) _ | refine Below.drew ?_ | refine below_drewN ?_ _ | exact Below.refl _ _))⟩))
  case rest =>
  obtain ⟨p, T1, c1, g1, rfl, hp1, hbox, hg1, hgp, ho1, hb⟩ := hcut
  have NB := Lib.hid hb
  have O1 := Lib.hid ho1
  have BX := Lib.hid hbox
  have RZc := Lib.hid (RZ.out.below hb)
  have XC := Lib.hid (X.out.below hb)
  have GP := Lib.hid hgp
  have hpl : p < wc.heap.size := hbox.lt
  have a3 := fun o => (Box5.alloc XC.out o).c3
  clear hb ho1 hbox hgp x0 x1 x2 x3 x4
  go_upto_region 3 with (first
    | (at_builtin
       refine wpList_append_cells _ rfl _ _ 22 rfl wc.heap.size 2 ii (.int .i64 0) 1 8 Try.underlying22 hii hzi hsi hbi rfl (by decide) (.slice (some ⟨wc.heap.size, 0, none⟩) 0 0) 0 [] rfl (World.ownsRow_lit wc #[] 0 (Nat.le_refl _) (by unfold maxLen; omega) rfl)
         B m d (fun i => .int .i64 (g i)) rfl (by rw [Nat.mul_one]; exact HB.out.below (Below.alloc NB.out NB.out.size _)) (fun _ _ => rfl) (by unfold maxLen; omega) (by omega) (by simp) ?_
       intro v2 w2 hown hgrow hwhere
       have N2 := Lib.hid (show Below wc.heap.size wc w2 from ((Below.refl _ _).alloc (Nat.le_refl _) _).grown hgrow (by simp) (fun j hj => by cases hj; exact Nat.le_refl _))
       obtain ⟨T2, c2, g2, rfl, hg2, ho2⟩ := OwnC.of_rowV hown
       have O2 := Lib.hid (show OwnC w2 g2 T2 m (fun i => .int .i64 (g i)) by
         rw [Nat.zero_add, Nat.mul_one] at ho2
         exact ho2.congr fun j hj => by simp only [List.nil_append]; exact listV_getD _ (by omega))
       have B2 := Lib.hid (BX.out.below N2.out)
       obtain ⟨y0, y1, y2, y3, y4⟩ := B2.out.box
       have yf := B2.out.fz
       rw [Nat.zero_add]
       clear hown hgrow hwhere ho2)
    | go_in)
  obtain ⟨w3, hw3⟩ : ∃ W, W = w2.setCell ⟨p, 3, none⟩ (.slice T2 m c2) := ⟨_, rfl⟩
  rw [← hw3]
  have L1 := Lib.hid (show 0 < n → g1 < wc.heap.size from O1.out.lt)
  have NB2 := Lib.hid (show Below w1.heap.size w1 w2 from NB.out.trans (N2.out.mono NB.out.size))
  have NB3 := Lib.hid (show Below w1.heap.size w1 w3 by rw [hw3]; exact NB2.out.setCell (by exact hp1) _)
  have B3 := Lib.hid (show BoxF5 w3 p _ _ _ _ _ by rw [hw3]; exact B2.out.set3)
  have R3 := Lib.hid (RZ.out.below NB3.out)
  have P1 := Lib.hid (show OwnC w3 g1 T1 n (fun i => .int .i64 (f i)) by rw [hw3]; exact own_setP' (O1.out.below N2.out) GP.out)
  have P2 := Lib.hid (show OwnC w3 g2 T2 m (fun i => .int .i64 (g i)) by rw [hw3]; exact own_setP' O2.out (fun _ => by omega))
  have L2 := Lib.hid (show 0 < m → g2 < w3.heap.size from P2.out.lt)
  have hwc3 : wc.heap.size ≤ w3.heap.size := by have := N2.out.size; rw [hw3]; simpa using this
  have XD := Lib.hid (X.out.below NB3.out)
  have a4 := fun o => (Box5.alloc XD.out o).c4
  clear hw3 y0 y1 y2 y3 y4 yf a3
  go_wp2_with (first
    | (at_builtin
       refine wpList_append_cells _ rfl _ _ 23 rfl w3.heap.size 4 ib (.bool false) 1 1 Try.underlying23 hib hzb hsb hbb rfl (by decide) (.slice (some ⟨w3.heap.size, 0, none⟩) 0 0) 0 [] rfl (World.ownsRow_lit w3 #[] 0 (Nat.le_refl _) (by unfold maxLen; omega) rfl)
         C o q (fun i => .bool (h i)) rfl (by rw [Nat.mul_one]; exact HC.out.below (Below.alloc NB3.out NB3.out.size _)) (fun _ _ => rfl) (by unfold maxLen; omega) (by omega) (by simp) ?_
       intro v4 w4 hown hgrow hwhere
       have N4 := Lib.hid (show Below w3.heap.size w3 w4 from ((Below.refl _ _).alloc (Nat.le_refl _) _).grown hgrow (by simp) (fun j hj => by cases hj; exact Nat.le_refl _))
       obtain ⟨T3, c3, g3, rfl, hg3, ho3⟩ := OwnC.of_rowV hown
       have P3 := Lib.hid (show OwnC w4 g3 T3 o (fun i => .bool (h i)) by
         rw [Nat.zero_add, Nat.mul_one] at ho3
         exact ho3.congr fun j hj => by simp only [List.nil_append]; exact listV_getD _ (by omega))
       have B4 := Lib.hid (B3.out.below N4.out)
       have R4 := Lib.hid (R3.out.below N4.out)
       obtain ⟨y0, y1, y2, y3, y4⟩ := B4.out.box
       have yf := B4.out.fz
       obtain ⟨k0, k1, k2, k3, k4⟩ := R4.out.box
       have kf := R4.out.fz
       have n1 : ¬ p = w.heap.size := by omega
       have n2 : ¬ w.heap.size = p := by omega
       rw [Nat.zero_add]
       clear hown hgrow hwhere ho3)
    | go_in)
  refine bodyPost_ret (v := .agg #[.int .i64 s, .int .i64 l, .slice T1 n c1, .slice T2 m c2, .slice T3 o c3]) ?r1 rfl ?r2
  case r1 => simp [results, Try.results60, go_sem, k0, k1, k2, k3, k4]
  case r2 =>
    have hs1 := NB.out.size
    exact ⟨T1, c1, g1, T2, c2, g2, T3, c3, g3, rfl, ⟨by omega, by omega, by omega, fun q1 q2 e => by have := L1.out q1; omega, fun q1 q2 e => by have := L1.out q1; omega, fun q1 q2 e => by have := L2.out q1; omega⟩,
      own_setP' (own_setP' (own_setP' (own_setP' (own_setP' (own_setP' (P1.out.below N4.out) GP.out) (fun _ => by omega)) (fun _ => by omega)) (fun _ => by omega)) (fun _ => by omega)) (fun _ => by omega),
      own_setP' (own_setP' (own_setP' (own_setP' (own_setP' (own_setP' (P2.out.below N4.out) (fun _ => by omega)) (fun _ => by omega)) (fun _ => by omega)) (fun _ => by omega)) (fun _ => by omega)) (fun _ => by omega),
      own_setP' (own_setP' (own_setP' (own_setP' (own_setP' (own_setP' P3.out (fun _ => by omega)) (fun _ => by omega)) (fun _ => by omega)) (fun _ => by omega)) (fun _ => by omega)) (fun _ => by omega), (show Below w.heap.size w w4 from N1.out.trans ((NB3.out.trans (N4.out.mono NB3.out.size)).mono N1.out.size)).setCell (by exact Nat.le_trans (Nat.le_of_lt hlt1) hp1) _ |>.setCell (Nat.le_refl _) _ |>.setCell (Nat.le_refl _) _ |>.setCell (Nat.le_refl _) _ |>.setCell (Nat.le_refl _) _ |>.setCell (Nat.le_refl _) _⟩
end Go.Proofs.Ytgbiablibfbilaa
