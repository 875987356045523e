/- The mirrored tree: the program's. -/
import Derived.Test.YtgbiablibfbilaaMirS
import Derived.Test.YtgbiablibfbilaaConc
import Derived.Handy
set_option linter.unusedVariables false
namespace Go.Proofs.Ytgbiablibfbilaa
open Go.RowKit
def sel3 {α : Type} (a b c : α) (i : Nat) : α := if i = 0 then a else if i = 1 then b else c
theorem cells_three {w : World} {t : TypeId} {a b c : Value} {N : Nat} (h : w.heap.size = N) : Cells (w.alloc (.cells #[a, b, c] t)) (some ⟨N, 0, none⟩) 3 (sel3 a b c) := by
  subst h
  intro k hk
  have : k = 0 ∨ k = 1 ∨ k = 2 := by omega
  rcases this with rfl | rfl | rfl <;> exact ⟨_, rfl, by rw [add0]; simp [go_sem, sel3]⟩
theorem cells_drew {w : World} {A : Option Addr} {n : Nat} {V : Nat → Value} (h : Cells w A n V) : Cells w.drew A n V := fun k hk => h k hk
theorem conc3 (X : World) (M : Nat) (hM : X.heap.size = M) (N ga ca gb cb : Nat) (La Lb : List Int) (T : TypeId) (h0 : Cells X (some ⟨N, 0, none⟩) (1 * 1) (fun _ => .int .i64 (-1))) (hA : Cells X (some ⟨ga, 0, none⟩) (La.length * 1) (fun i => (valsI La).getD i undef))
    (hB : Cells X (some ⟨gb, 0, none⟩) (Lb.length * 1) (fun i => (valsI Lb).getD i undef)) (hl : 1 + La.length + Lb.length ≤ 1048576) :
    Calls Try.prog 118 #[.slice (some ⟨M, 0, none⟩) 3 3] (X.alloc (.cells #[.slice (some ⟨N, 0, none⟩) 1 1, .slice (some ⟨ga, 0, none⟩) La.length ca, .slice (some ⟨gb, 0, none⟩) Lb.length cb] T)) fun e w' =>
      ∃ g cp, e = .returned (.slice (some ⟨g, 0, none⟩) (1 + La.length + Lb.length) cp) ∧ w'.ownsRow X.heap.size 2 1 (.slice (some ⟨g, 0, none⟩) (1 + La.length + Lb.length) cp) (1 + La.length + Lb.length) (valsI ([-1] ++ La ++ Lb)) ∧ Below X.heap.size X w' := by
  subst hM
  have hb0 : Below X.heap.size X (X.alloc (.cells #[.slice (some ⟨N, 0, none⟩) 1 1, .slice (some ⟨ga, 0, none⟩) La.length ca, .slice (some ⟨gb, 0, none⟩) Lb.length cb] T)) := (Below.refl _ _).alloc (Nat.le_refl _) _
  refine (I_any (some ⟨X.heap.size, 0, none⟩) 3 3 (sel3 1 La.length Lb.length) (sel3 (some ⟨N, 0, none⟩) (some ⟨ga, 0, none⟩) (some ⟨gb, 0, none⟩)) (sel3 1 ca cb)
    (sel3 (fun _ => .int .i64 (-1)) (fun i => (valsI La).getD i undef) (fun i => (valsI Lb).getD i undef)) _ (by omega) (by simp [sumN, sel3]; omega) (fun k hk => ?_) (fun i hi => ?_) (fun i hi k hk => ?_)).mono ?_
  · obtain ⟨x, hx, hc⟩ := (cells_three (w := X) (t := T) (a := .slice (some ⟨N, 0, none⟩) 1 1) (b := .slice (some ⟨ga, 0, none⟩) La.length ca) (c := .slice (some ⟨gb, 0, none⟩) Lb.length cb) rfl) k hk
    refine ⟨x, hx, hc.trans ?_⟩
    have : k = 0 ∨ k = 1 ∨ k = 2 := by omega
    rcases this with rfl | rfl | rfl <;> rfl
  · have : i = 0 ∨ i = 1 ∨ i = 2 := by omega
    rcases this with rfl | rfl | rfl
    · exact h0.below hb0
    · exact hA.below hb0
    · exact hB.below hb0
  · have : i = 0 ∨ i = 1 ∨ i = 2 := by omega
    rcases this with rfl | rfl | rfl
    · rfl
    · exact oneL rfl k hk
    · exact oneL rfl k hk
  · rintro e w' ⟨⟨v, rfl, ho⟩, hb⟩
    have hs : sumN (sel3 1 La.length Lb.length) 3 = 1 + La.length + Lb.length := by simp [sumN, sel3]
    have hv : catV (sel3 1 La.length Lb.length) 1 (sel3 (fun _ => .int .i64 (-1)) (fun i => (valsI La).getD i undef) (fun i => (valsI Lb).getD i undef)) 3 = valsI ([-1] ++ La ++ Lb) := by
      rw [← vals_cat, ← vals_cat]
      rfl
    rw [hs, hv] at ho
    obtain ⟨g, cp, rfl⟩ := ownsRow_succ (k := La.length + Lb.length) (by rw [show La.length + Lb.length + 1 = 1 + La.length + Lb.length by omega]; exact ho)
    rw [show La.length + Lb.length + 1 = 1 + La.length + Lb.length by omega] at ho ⊢
    exact ⟨g, cp, rfl, own_base ho (by simp), hb0.trans (hb.mono (by simp))⟩
theorem listLeaf_any (x : Int) (w : World) : Calls Try.prog 116 #[.int .i64 x] w fun e w' => OwnL w w' (Tr.leaf x).enc e := by
  go_enter Try.func116, Try.ntmps116
  go_wp2_with fail
  go_ret
  exact ⟨_, _, rfl, World.ownsRow_lit w #[.int .i64 x] 1 (Nat.le_refl _) (by unfold maxLen; omega) rfl, (Below.refl _ _).alloc (Nat.le_refl _) _⟩
set_option maxRecDepth 20000 in
set_option maxHeartbeats 16000000 in
theorem listLL (va vb : Value) (La Lb : List Int) (w : World) (hA : ∀ W, Calls Try.prog 116 #[va] W fun e w' => OwnL W w' La e) (hB : ∀ W, Calls Try.prog 116 #[vb] W fun e w' => OwnL W w' Lb e) (hl : 1 + La.length + Lb.length ≤ 1048576) :
    Calls Try.prog 117 #[.agg #[.iface 72 va, .iface 72 vb]] w fun e w' => OwnL w w' ([-1] ++ La ++ Lb) e := by
  have IA := Lib.hid hA
  have IB := Lib.hid hB
  have H3 := Lib.hid (fun X M hM N ga ca gb cb T h0 h1 h2 => conc3 X M hM N ga ca gb cb La Lb T h0 h1 h2 hl)
  have HL := Lib.hid (show ([-1] ++ La ++ Lb).length = 1 + La.length + Lb.length by simp; omega)
  clear hA hB hl
  generalize [-1] ++ La ++ Lb = L at *
  go_enter Try.func117, Try.ntmps117
  go_wp2_with fail
  obtain ⟨w1, hw1⟩ : ∃ W, W = w.alloc (.cells #[.iface 72 va, .iface 72 vb] 75) := ⟨_, rfl⟩
  rw [← hw1]
  have BX := Lib.hid (show Box2 w1 w.heap.size (.iface 72 va) (.iface 72 vb) by rw [hw1]; exact Box2.new w 75 (.iface 72 va) (.iface 72 vb))
  have NW := Lib.hid (show Below w.heap.size w w1 by rw [hw1]; exact (Below.refl _ _).alloc (Nat.le_refl _) _)
  clear hw1
  have HKeep := Lib.hid (show ∀ W, Below w1.heap.size w1 W → (W.cell? ⟨w.heap.size, 0, none⟩ = some (.iface 72 va) ∧ W.cell? ⟨w.heap.size, 1, none⟩ = some (.iface 72 vb)) from fun W hW => by
    have X := BX.out.below hW
    exact ⟨X.c0, X.c1⟩)
  go_region_held3 (fun W => W.cell? ⟨w.heap.size, 0, none⟩ = some (.iface 72 va) ∧ W.cell? ⟨w.heap.size, 1, none⟩ = some (.iface 72 vb))
    (exact HKeep.out _ (by repeat (first | with_reducible exact Below.refl _ _ | exact Hid.out (by with_reducible assumption) | refine Below.setCell ?_ (by simp <;> omega) _ | refine below_alloc ?_ _ | refine Below.alloc ?_ (by simp <;> omega) _ | refine Below.drew ?_ | refine below_drewN ?_ _ | exact Below.refl _ _)))
    (first
      | (go_at_call_of 116 va
         refine (IA.out _).mono ?_
         rintro e ua ⟨ga, ca, rfl, hoa, hb⟩
         have PA := Lib.hid (stepB (w := w1) (lo := w1.heap.size) (by repeat (first | with_reducible exact Below.refl _ _ | exact Hid.out (by with_reducible assumption) | refine Below.setCell ?_ (by simp <;> omega) _ | refine below_alloc ?_ _ | refine Below.alloc ?_ (by simp <;> omega) _ | refine Below.drew ?_ | refine below_drewN ?_ _ | exact Below.refl _ _)) (Nat.le_refl _) hb)
         have CA := Lib.hid (cells_ofL hoa)
         (first
           | with_reducible (have Lit := Lib.hid (Cells.below (cells_drew (cells_lit1 (N := w1.heap.size) (a := .int .i64 (-1)) (t := 2) rfl)) hb))
           | with_reducible (have Lit := Lib.hid (Cells.below (cells_lit1 (N := (w1).heap.size) (a := .int .i64 (-1)) (t := 2) rfl) hb))
           | with_reducible (have Lit := Lib.hid (Cells.below (cells_lit1 (N := (ub).heap.size) (a := .int .i64 (-1)) (t := 2) rfl) hb))
           | with_reducible (have Lit := Lib.hid (Lit.out.below hb))
           | skip)
         (first
           | with_reducible (have CB := Lib.hid (CB.out.below hb))
           | with_reducible (have CB := Lib.hid ((CB.out.below ((Below.refl _ _).alloc (Nat.le_refl _) _)).below hb))
           | skip)
         clear hb hoa)
      | (go_at_call_of 116 vb
         refine (IB.out _).mono ?_
         rintro e ub ⟨gb, cb, rfl, hob, hb⟩
         have PB := Lib.hid (stepB (w := w1) (lo := w1.heap.size) (by repeat (first | with_reducible exact Below.refl _ _ | exact Hid.out (by with_reducible assumption) | refine Below.setCell ?_ (by simp <;> omega) _ | refine below_alloc ?_ _ | refine Below.alloc ?_ (by simp <;> omega) _ | refine Below.drew ?_ | refine below_drewN ?_ _ | exact Below.refl _ _)) (Nat.le_refl _) hb)
         have CB := Lib.hid (cells_ofL hob)
         (first
           | with_reducible (have Lit := Lib.hid (Cells.below (cells_drew (cells_lit1 (N := w1.heap.size) (a := .int .i64 (-1)) (t := 2) rfl)) hb))
           | with_reducible (have Lit := Lib.hid (Cells.below (cells_lit1 (N := (w1).heap.size) (a := .int .i64 (-1)) (t := 2) rfl) hb))
           | with_reducible (have Lit := Lib.hid (Cells.below (cells_lit1 (N := (ua).heap.size) (a := .int .i64 (-1)) (t := 2) rfl) hb))
           | with_reducible (have Lit := Lib.hid (Lit.out.below hb))
           | skip)
         (first
           | with_reducible (have CA := Lib.hid (CA.out.below hb))
           | with_reducible (have CA := Lib.hid ((CA.out.below ((Below.refl _ _).alloc (Nat.le_refl _) _)).below hb))
           | skip)
         clear hb hob)
      | (go_at_call 118
         refine (H3.out _ _ (by first | with_reducible rfl | simp) _ _ _ _ _ _ (by first | with_reducible exact Lit.out | with_reducible exact cells_lit1 rfl) (by first | with_reducible exact CA.out | with_reducible exact CA.out.below ((Below.refl _ _).alloc (Nat.le_refl _) _)) (by first | with_reducible exact CB.out | with_reducible exact CB.out.below ((Below.refl _ _).alloc (Nat.le_refl _) _))).mono ?_
         rintro e uc ⟨gc, cc, rfl, hoc, hb⟩
         have PC := Lib.hid (stepB (w := w1) (lo := w1.heap.size) (by repeat (first | with_reducible exact Below.refl _ _ | exact Hid.out (by with_reducible assumption) | refine Below.setCell ?_ (by simp <;> omega) _ | refine below_alloc ?_ _ | refine Below.alloc ?_ (by simp <;> omega) _ | refine Below.drew ?_ | refine below_drewN ?_ _ | exact Below.refl _ _)) (Nat.le_refl _) hb)
         have OC := Lib.hid (own_base (b := w1.heap.size) hoc (Below.size (B := w1.heap.size) (by repeat (first | with_reducible exact Below.refl _ _ | exact Hid.out (by with_reducible assumption) | refine Below.setCell ?_ (by simp <;> omega) _ | refine below_alloc ?_ _ | refine Below.alloc ?_ (by simp <;> omega) _ | refine Below.drew ?_ | refine below_drewN ?_ _ | exact Below.refl _ _))))
         clear hb hoc))
  all_goals (
    go_wp2_with fail
    go_ret
    exact ⟨_, _, by rw [HL.out]; rfl, by rw [HL.out]; exact own_base OC.out NW.out.size, NW.out.trans (PC.out.mono NW.out.size)⟩)
set_option maxRecDepth 20000 in
set_option maxHeartbeats 16000000 in
theorem listLB (va vb : Value) (La Lb : List Int) (w : World) (hA : ∀ W, Calls Try.prog 116 #[va] W fun e w' => OwnL W w' La e) (hB : ∀ W, Calls Try.prog 117 #[vb] W fun e w' => OwnL W w' Lb e) (hl : 1 + La.length + Lb.length ≤ 1048576) :
    Calls Try.prog 117 #[.agg #[.iface 72 va, .iface 75 vb]] w fun e w' => OwnL w w' ([-1] ++ La ++ Lb) e := by
  have IA := Lib.hid hA
  have IB := Lib.hid hB
  have H3 := Lib.hid (fun X M hM N ga ca gb cb T h0 h1 h2 => conc3 X M hM N ga ca gb cb La Lb T h0 h1 h2 hl)
  have HL := Lib.hid (show ([-1] ++ La ++ Lb).length = 1 + La.length + Lb.length by simp; omega)
  clear hA hB hl
  generalize [-1] ++ La ++ Lb = L at *
  go_enter Try.func117, Try.ntmps117
  go_wp2_with fail
  obtain ⟨w1, hw1⟩ : ∃ W, W = w.alloc (.cells #[.iface 72 va, .iface 75 vb] 75) := ⟨_, rfl⟩
  rw [← hw1]
  have BX := Lib.hid (show Box2 w1 w.heap.size (.iface 72 va) (.iface 75 vb) by rw [hw1]; exact Box2.new w 75 (.iface 72 va) (.iface 75 vb))
  have NW := Lib.hid (show Below w.heap.size w w1 by rw [hw1]; exact (Below.refl _ _).alloc (Nat.le_refl _) _)
  clear hw1
  have HKeep := Lib.hid (show ∀ W, Below w1.heap.size w1 W → (W.cell? ⟨w.heap.size, 0, none⟩ = some (.iface 72 va) ∧ W.cell? ⟨w.heap.size, 1, none⟩ = some (.iface 75 vb)) from fun W hW => by
    have X := BX.out.below hW
    exact ⟨X.c0, X.c1⟩)
  go_region_held3 (fun W => W.cell? ⟨w.heap.size, 0, none⟩ = some (.iface 72 va) ∧ W.cell? ⟨w.heap.size, 1, none⟩ = some (.iface 75 vb))
    (exact HKeep.out _ (by repeat (first | with_reducible exact Below.refl _ _ | exact Hid.out (by with_reducible assumption) | refine Below.setCell ?_ (by simp <;> omega) _ | refine below_alloc ?_ _ | refine Below.alloc ?_ (by simp <;> omega) _ | refine Below.drew ?_ | refine below_drewN ?_ _ | exact Below.refl _ _)))
    (first
      | (go_at_call_of 116 va
         refine (IA.out _).mono ?_
         rintro e ua ⟨ga, ca, rfl, hoa, hb⟩
         have PA := Lib.hid (stepB (w := w1) (lo := w1.heap.size) (by repeat (first | with_reducible exact Below.refl _ _ | exact Hid.out (by with_reducible assumption) | refine Below.setCell ?_ (by simp <;> omega) _ | refine below_alloc ?_ _ | refine Below.alloc ?_ (by simp <;> omega) _ | refine Below.drew ?_ | refine below_drewN ?_ _ | exact Below.refl _ _)) (Nat.le_refl _) hb)
         have CA := Lib.hid (cells_ofL hoa)
         (first
           | with_reducible (have Lit := Lib.hid (Cells.below (cells_drew (cells_lit1 (N := w1.heap.size) (a := .int .i64 (-1)) (t := 2) rfl)) hb))
           | with_reducible (have Lit := Lib.hid (Cells.below (cells_lit1 (N := (w1).heap.size) (a := .int .i64 (-1)) (t := 2) rfl) hb))
           | with_reducible (have Lit := Lib.hid (Cells.below (cells_lit1 (N := (ub).heap.size) (a := .int .i64 (-1)) (t := 2) rfl) hb))
           | with_reducible (have Lit := Lib.hid (Lit.out.below hb))
           | skip)
         (first
           | with_reducible (have CB := Lib.hid (CB.out.below hb))
           | with_reducible (have CB := Lib.hid ((CB.out.below ((Below.refl _ _).alloc (Nat.le_refl _) _)).below hb))
           | skip)
         clear hb hoa)
      | (go_at_call_of 117 vb
         refine (IB.out _).mono ?_
         rintro e ub ⟨gb, cb, rfl, hob, hb⟩
         have PB := Lib.hid (stepB (w := w1) (lo := w1.heap.size) (by repeat (first | with_reducible exact Below.refl _ _ | exact Hid.out (by with_reducible assumption) | refine Below.setCell ?_ (by simp <;> omega) _ | refine below_alloc ?_ _ | refine Below.alloc ?_ (by simp <;> omega) _ | refine Below.drew ?_ | refine below_drewN ?_ _ | exact Below.refl _ _)) (Nat.le_refl _) hb)
         have CB := Lib.hid (cells_ofL hob)
         (first
           | with_reducible (have Lit := Lib.hid (Cells.below (cells_drew (cells_lit1 (N := w1.heap.size) (a := .int .i64 (-1)) (t := 2) rfl)) hb))
           | with_reducible (have Lit := Lib.hid (Cells.below (cells_lit1 (N := (w1).heap.size) (a := .int .i64 (-1)) (t := 2) rfl) hb))
           | with_reducible (have Lit := Lib.hid (Cells.below (cells_lit1 (N := (ua).heap.size) (a := .int .i64 (-1)) (t := 2) rfl) hb))
           | with_reducible (have Lit := Lib.hid (Lit.out.below hb))
           | skip)
         (first
           | with_reducible (have CA := Lib.hid (CA.out.below hb))
           | with_reducible (have CA := Lib.hid ((CA.out.below ((Below.refl _ _).alloc (Nat.le_refl _) _)).below hb))
           | skip)
         clear hb hob)
      | (go_at_call 118
         refine (H3.out _ _ (by first | with_reducible rfl | simp) _ _ _ _ _ _ (by first | with_reducible exact Lit.out | with_reducible exact cells_lit1 rfl) (by first | with_reducible exact CA.out | with_reducible exact CA.out.below ((Below.refl _ _).alloc (Nat.le_refl _) _)) (by first | with_reducible exact CB.out | with_reducible exact CB.out.below ((Below.refl _ _).alloc (Nat.le_refl _) _))).mono ?_
         rintro e uc ⟨gc, cc, rfl, hoc, hb⟩
         have PC := Lib.hid (stepB (w := w1) (lo := w1.heap.size) (by repeat (first | with_reducible exact Below.refl _ _ | exact Hid.out (by with_reducible assumption) | refine Below.setCell ?_ (by simp <;> omega) _ | refine below_alloc ?_ _ | refine Below.alloc ?_ (by simp <;> omega) _ | refine Below.drew ?_ | refine below_drewN ?_ _ | exact Below.refl _ _)) (Nat.le_refl _) hb)
         have OC := Lib.hid (own_base (b := w1.heap.size) hoc (Below.size (B := w1.heap.size) (by repeat (first | with_reducible exact Below.refl _ _ | exact Hid.out (by with_reducible assumption) | refine Below.setCell ?_ (by simp <;> omega) _ | refine below_alloc ?_ _ | refine Below.alloc ?_ (by simp <;> omega) _ | refine Below.drew ?_ | refine below_drewN ?_ _ | exact Below.refl _ _))))
         clear hb hoc))
  all_goals (
    go_wp2_with fail
    go_ret
    exact ⟨_, _, by rw [HL.out]; rfl, by rw [HL.out]; exact own_base OC.out NW.out.size, NW.out.trans (PC.out.mono NW.out.size)⟩)
set_option maxRecDepth 20000 in
set_option maxHeartbeats 16000000 in
theorem listBL (va vb : Value) (La Lb : List Int) (w : World) (hA : ∀ W, Calls Try.prog 117 #[va] W fun e w' => OwnL W w' La e) (hB : ∀ W, Calls Try.prog 116 #[vb] W fun e w' => OwnL W w' Lb e) (hl : 1 + La.length + Lb.length ≤ 1048576) :
    Calls Try.prog 117 #[.agg #[.iface 75 va, .iface 72 vb]] w fun e w' => OwnL w w' ([-1] ++ La ++ Lb) e := by
  have IA := Lib.hid hA
  have IB := Lib.hid hB
  have H3 := Lib.hid (fun X M hM N ga ca gb cb T h0 h1 h2 => conc3 X M hM N ga ca gb cb La Lb T h0 h1 h2 hl)
  have HL := Lib.hid (show ([-1] ++ La ++ Lb).length = 1 + La.length + Lb.length by simp; omega)
  clear hA hB hl
  generalize [-1] ++ La ++ Lb = L at *
  go_enter Try.func117, Try.ntmps117
  go_wp2_with fail
  obtain ⟨w1, hw1⟩ : ∃ W, W = w.alloc (.cells #[.iface 75 va, .iface 72 vb] 75) := ⟨_, rfl⟩
  rw [← hw1]
  have BX := Lib.hid (show Box2 w1 w.heap.size (.iface 75 va) (.iface 72 vb) by rw [hw1]; exact Box2.new w 75 (.iface 75 va) (.iface 72 vb))
  have NW := Lib.hid (show Below w.heap.size w w1 by rw [hw1]; exact (Below.refl _ _).alloc (Nat.le_refl _) _)
  clear hw1
  have HKeep := Lib.hid (show ∀ W, Below w1.heap.size w1 W → (W.cell? ⟨w.heap.size, 0, none⟩ = some (.iface 75 va) ∧ W.cell? ⟨w.heap.size, 1, none⟩ = some (.iface 72 vb)) from fun W hW => by
    have X := BX.out.below hW
    exact ⟨X.c0, X.c1⟩)
  go_region_held3 (fun W => W.cell? ⟨w.heap.size, 0, none⟩ = some (.iface 75 va) ∧ W.cell? ⟨w.heap.size, 1, none⟩ = some (.iface 72 vb))
    (exact HKeep.out _ (by repeat (first | with_reducible exact Below.refl _ _ | exact Hid.out (by with_reducible assumption) | refine Below.setCell ?_ (by simp <;> omega) _ | refine below_alloc ?_ _ | refine Below.alloc ?_ (by simp <;> omega) _ | refine Below.drew ?_ | refine below_drewN ?_ _ | exact Below.refl _ _)))
    (first
      | (go_at_call_of 117 va
         refine (IA.out _).mono ?_
         rintro e ua ⟨ga, ca, rfl, hoa, hb⟩
         have PA := Lib.hid (stepB (w := w1) (lo := w1.heap.size) (by repeat (first | with_reducible exact Below.refl _ _ | exact Hid.out (by with_reducible assumption) | refine Below.setCell ?_ (by simp <;> omega) _ | refine below_alloc ?_ _ | refine Below.alloc ?_ (by simp <;> omega) _ | refine Below.drew ?_ | refine below_drewN ?_ _ | exact Below.refl _ _)) (Nat.le_refl _) hb)
         have CA := Lib.hid (cells_ofL hoa)
         (first
           | with_reducible (have Lit := Lib.hid (Cells.below (cells_drew (cells_lit1 (N := w1.heap.size) (a := .int .i64 (-1)) (t := 2) rfl)) hb))
           | with_reducible (have Lit := Lib.hid (Cells.below (cells_lit1 (N := (w1).heap.size) (a := .int .i64 (-1)) (t := 2) rfl) hb))
           | with_reducible (have Lit := Lib.hid (Cells.below (cells_lit1 (N := (ub).heap.size) (a := .int .i64 (-1)) (t := 2) rfl) hb))
           | with_reducible (have Lit := Lib.hid (Lit.out.below hb))
           | skip)
         (first
           | with_reducible (have CB := Lib.hid (CB.out.below hb))
           | with_reducible (have CB := Lib.hid ((CB.out.below ((Below.refl _ _).alloc (Nat.le_refl _) _)).below hb))
           | skip)
         clear hb hoa)
      | (go_at_call_of 116 vb
         refine (IB.out _).mono ?_
         rintro e ub ⟨gb, cb, rfl, hob, hb⟩
         have PB := Lib.hid (stepB (w := w1) (lo := w1.heap.size) (by repeat (first | with_reducible exact Below.refl _ _ | exact Hid.out (by with_reducible assumption) | refine Below.setCell ?_ (by simp <;> omega) _ | refine below_alloc ?_ _ | refine Below.alloc ?_ (by simp <;> omega) _ | refine Below.drew ?_ | refine below_drewN ?_ _ | exact Below.refl _ _)) (Nat.le_refl _) hb)
         have CB := Lib.hid (cells_ofL hob)
         (first
           | with_reducible (have Lit := Lib.hid (Cells.below (cells_drew (cells_lit1 (N := w1.heap.size) (a := .int .i64 (-1)) (t := 2) rfl)) hb))
           | with_reducible (have Lit := Lib.hid (Cells.below (cells_lit1 (N := (w1).heap.size) (a := .int .i64 (-1)) (t := 2) rfl) hb))
           | with_reducible (have Lit := Lib.hid (Cells.below (cells_lit1 (N := (ua).heap.size) (a := .int .i64 (-1)) (t := 2) rfl) hb))
           | with_reducible (have Lit := Lib.hid (Lit.out.below hb))
           | skip)
         (first
           | with_reducible (have CA := Lib.hid (CA.out.below hb))
           | with_reducible (have CA := Lib.hid ((CA.out.below ((Below.refl _ _).alloc (Nat.le_refl _) _)).below hb))
           | skip)
         clear hb hob)
      | (go_at_call 118
         refine (H3.out _ _ (by first | with_reducible rfl | simp) _ _ _ _ _ _ (by first | with_reducible exact Lit.out | with_reducible exact cells_lit1 rfl) (by first | with_reducible exact CA.out | with_reducible exact CA.out.below ((Below.refl _ _).alloc (Nat.le_refl _) _)) (by first | with_reducible exact CB.out | with_reducible exact CB.out.below ((Below.refl _ _).alloc (Nat.le_refl _) _))).mono ?_
         rintro e uc ⟨gc, cc, rfl, hoc, hb⟩
         have PC := Lib.hid (stepB (w := w1) (lo := w1.heap.size) (by repeat (first | with_reducible exact Below.refl _ _ | exact Hid.out (by with_reducible assumption) | refine Below.setCell ?_ (by simp <;> omega) _ | refine below_alloc ?_ _ | refine Below.alloc ?_ (by simp <;> omega) _ | refine Below.drew ?_ | refine below_drewN ?_ _ | exact Below.refl _ _)) (Nat.le_refl _) hb)
         have OC := Lib.hid (own_base (b := w1.heap.size) hoc (Below.size (B := w1.heap.size) (by repeat (first | with_reducible exact Below.refl _ _ | exact Hid.out (by with_reducible assumption) | refine Below.setCell ?_ (by simp <;> omega) _ | refine below_alloc ?_ _ | refine Below.alloc ?_ (by simp <;> omega) _ | refine Below.drew ?_ | refine below_drewN ?_ _ | exact Below.refl _ _))))
         clear hb hoc))
  all_goals (
    go_wp2_with fail
    go_ret
    exact ⟨_, _, by rw [HL.out]; rfl, by rw [HL.out]; exact own_base OC.out NW.out.size, NW.out.trans (PC.out.mono NW.out.size)⟩)
set_option maxRecDepth 20000 in
set_option maxHeartbeats 16000000 in
theorem listBB (va vb : Value) (La Lb : List Int) (w : World) (hA : ∀ W, Calls Try.prog 117 #[va] W fun e w' => OwnL W w' La e) (hB : ∀ W, Calls Try.prog 117 #[vb] W fun e w' => OwnL W w' Lb e) (hl : 1 + La.length + Lb.length ≤ 1048576) :
    Calls Try.prog 117 #[.agg #[.iface 75 va, .iface 75 vb]] w fun e w' => OwnL w w' ([-1] ++ La ++ Lb) e := by
  have IA := Lib.hid hA
  have IB := Lib.hid hB
  have H3 := Lib.hid (fun X M hM N ga ca gb cb T h0 h1 h2 => conc3 X M hM N ga ca gb cb La Lb T h0 h1 h2 hl)
  have HL := Lib.hid (show ([-1] ++ La ++ Lb).length = 1 + La.length + Lb.length by simp; omega)
  clear hA hB hl
  generalize [-1] ++ La ++ Lb = L at *
  go_enter Try.func117, Try.ntmps117
  go_wp2_with fail
  obtain ⟨w1, hw1⟩ : ∃ W, W = w.alloc (.cells #[.iface 75 va, .iface 75 vb] 75) := ⟨_, rfl⟩
  rw [← hw1]
  have BX := Lib.hid (show Box2 w1 w.heap.size (.iface 75 va) (.iface 75 vb) by rw [hw1]; exact Box2.new w 75 (.iface 75 va) (.iface 75 vb))
  have NW := Lib.hid (show Below w.heap.size w w1 by rw [hw1]; exact (Below.refl _ _).alloc (Nat.le_refl _) _)
  clear hw1
  have HKeep := Lib.hid (show ∀ W, Below w1.heap.size w1 W → (W.cell? ⟨w.heap.size, 0, none⟩ = some (.iface 75 va) ∧ W.cell? ⟨w.heap.size, 1, none⟩ = some (.iface 75 vb)) from fun W hW => by
    have X := BX.out.below hW
    exact ⟨X.c0, X.c1⟩)
  go_region_held3 (fun W => W.cell? ⟨w.heap.size, 0, none⟩ = some (.iface 75 va) ∧ W.cell? ⟨w.heap.size, 1, none⟩ = some (.iface 75 vb))
    (exact HKeep.out _ (by repeat (first | with_reducible exact Below.refl _ _ | exact Hid.out (by with_reducible assumption) | refine Below.setCell ?_ (by simp <;> omega) _ | refine below_alloc ?_ _ | refine Below.alloc ?_ (by simp <;> omega) _ | refine Below.drew ?_ | refine below_drewN ?_ _ | exact Below.refl _ _)))
    (first
      | (go_at_call_of 117 va
         refine (IA.out _).mono ?_
         rintro e ua ⟨ga, ca, rfl, hoa, hb⟩
         have PA := Lib.hid (stepB (w := w1) (lo := w1.heap.size) (by repeat (first | with_reducible exact Below.refl _ _ | exact Hid.out (by with_reducible assumption) | refine Below.setCell ?_ (by simp <;> omega) _ | refine below_alloc ?_ _ | refine Below.alloc ?_ (by simp <;> omega) _ | refine Below.drew ?_ | refine below_drewN ?_ _ | exact Below.refl _ _)) (Nat.le_refl _) hb)
         have CA := Lib.hid (cells_ofL hoa)
         (first
           | with_reducible (have Lit := Lib.hid (Cells.below (cells_drew (cells_lit1 (N := w1.heap.size) (a := .int .i64 (-1)) (t := 2) rfl)) hb))
           | with_reducible (have Lit := Lib.hid (Cells.below (cells_lit1 (N := (w1).heap.size) (a := .int .i64 (-1)) (t := 2) rfl) hb))
           | with_reducible (have Lit := Lib.hid (Cells.below (cells_lit1 (N := (ub).heap.size) (a := .int .i64 (-1)) (t := 2) rfl) hb))
           | with_reducible (have Lit := Lib.hid (Lit.out.below hb))
           | skip)
         (first
           | with_reducible (have CB := Lib.hid (CB.out.below hb))
           | with_reducible (have CB := Lib.hid ((CB.out.below ((Below.refl _ _).alloc (Nat.le_refl _) _)).below hb))
           | skip)
         clear hb hoa)
      | (go_at_call_of 117 vb
         refine (IB.out _).mono ?_
         rintro e ub ⟨gb, cb, rfl, hob, hb⟩
         have PB := Lib.hid (stepB (w := w1) (lo := w1.heap.size) (by repeat (first | with_reducible exact Below.refl _ _ | exact Hid.out (by with_reducible assumption) | refine Below.setCell ?_ (by simp <;> omega) _ | refine below_alloc ?_ _ | refine Below.alloc ?_ (by simp <;> omega) _ | refine Below.drew ?_ | refine below_drewN ?_ _ | exact Below.refl _ _)) (Nat.le_refl _) hb)
         have CB := Lib.hid (cells_ofL hob)
         (first
           | with_reducible (have Lit := Lib.hid (Cells.below (cells_drew (cells_lit1 (N := w1.heap.size) (a := .int .i64 (-1)) (t := 2) rfl)) hb))
           | with_reducible (have Lit := Lib.hid (Cells.below (cells_lit1 (N := (w1).heap.size) (a := .int .i64 (-1)) (t := 2) rfl) hb))
           | with_reducible (have Lit := Lib.hid (Cells.below (cells_lit1 (N := (ua).heap.size) (a := .int .i64 (-1)) (t := 2) rfl) hb))
           | with_reducible (have Lit := Lib.hid (Lit.out.below hb))
           | skip)
         (first
           | with_reducible (have CA := Lib.hid (CA.out.below hb))
           | with_reducible (have CA := Lib.hid ((CA.out.below ((Below.refl _ _).alloc (Nat.le_refl _) _)).below hb))
           | skip)
         clear hb hob)
      | (go_at_call 118
         refine (H3.out _ _ (by first | with_reducible rfl | simp) _ _ _ _ _ _ (by first | with_reducible exact Lit.out | with_reducible exact cells_lit1 rfl) (by first | with_reducible exact CA.out | with_reducible exact CA.out.below ((Below.refl _ _).alloc (Nat.le_refl _) _)) (by first | with_reducible exact CB.out | with_reducible exact CB.out.below ((Below.refl _ _).alloc (Nat.le_refl _) _))).mono ?_
         rintro e uc ⟨gc, cc, rfl, hoc, hb⟩
         have PC := Lib.hid (stepB (w := w1) (lo := w1.heap.size) (by repeat (first | with_reducible exact Below.refl _ _ | exact Hid.out (by with_reducible assumption) | refine Below.setCell ?_ (by simp <;> omega) _ | refine below_alloc ?_ _ | refine Below.alloc ?_ (by simp <;> omega) _ | refine Below.drew ?_ | refine below_drewN ?_ _ | exact Below.refl _ _)) (Nat.le_refl _) hb)
         have OC := Lib.hid (own_base (b := w1.heap.size) hoc (Below.size (B := w1.heap.size) (by repeat (first | with_reducible exact Below.refl _ _ | exact Hid.out (by with_reducible assumption) | refine Below.setCell ?_ (by simp <;> omega) _ | refine below_alloc ?_ _ | refine Below.alloc ?_ (by simp <;> omega) _ | refine Below.drew ?_ | refine below_drewN ?_ _ | exact Below.refl _ _))))
         clear hb hoc))
  all_goals (
    go_wp2_with fail
    go_ret
    exact ⟨_, _, by rw [HL.out]; rfl, by rw [HL.out]; exact own_base OC.out NW.out.size, NW.out.trans (PC.out.mono NW.out.size)⟩)
theorem listBr_any : ∀ (a b : Tr) (w : World), (Tr.br a b).enc.length ≤ 1048576 →
    Calls Try.prog 117 #[.agg #[trVal a, trVal b]] w fun e w' => OwnL w w' (Tr.br a b).enc e
  | .leaf x, .leaf y, w, h => by
    have hl : 1 + (Tr.leaf x).enc.length + (Tr.leaf y).enc.length ≤ 1048576 := by simp [Tr.enc]
    exact listLL (.int .i64 x) (.int .i64 y) (Tr.leaf x).enc (Tr.leaf y).enc w (listLeaf_any x) (listLeaf_any y) hl
  | .leaf x, .br c d, w, h => by
    have hl : 1 + (Tr.leaf x).enc.length + (Tr.br c d).enc.length ≤ 1048576 := by simp [Tr.enc] at h ⊢; omega
    have := listLB (.int .i64 x) (.agg #[trVal c, trVal d]) (Tr.leaf x).enc (Tr.br c d).enc w (listLeaf_any x) (fun W => listBr_any c d W (by omega)) hl
    rw [trVal, trVal]
    exact this
  | .br a b, .leaf y, w, h => by
    have hl : 1 + (Tr.br a b).enc.length + (Tr.leaf y).enc.length ≤ 1048576 := by simp [Tr.enc] at h ⊢; omega
    have := listBL (.agg #[trVal a, trVal b]) (.int .i64 y) (Tr.br a b).enc (Tr.leaf y).enc w (fun W => listBr_any a b W (by omega)) (listLeaf_any y) hl
    rw [trVal, trVal]
    exact this
  | .br a b, .br c d, w, h => by
    have hl : 1 + (Tr.br a b).enc.length + (Tr.br c d).enc.length ≤ 1048576 := by simp [Tr.enc] at h ⊢; omega
    have := listBB (.agg #[trVal a, trVal b]) (.agg #[trVal c, trVal d]) (Tr.br a b).enc (Tr.br c d).enc w (fun W => listBr_any a b W (by omega)) (fun W => listBr_any c d W (by omega)) hl
    rw [trVal, trVal]
    exact this
termination_by a b => SizeOf.sizeOf a + SizeOf.sizeOf b
decreasing_by all_goals (simp only [Tr.br.sizeOf_spec, Tr.leaf.sizeOf_spec]; omega)
theorem mir1_any (x : Int) (w : World) : Calls Try.prog 75 #[.int .i64 x] w fun e w' => e = .returned (.iface 72 (.int .i64 x)) ∧ w = w' := by
  go_enter Try.func75, Try.ntmps75
  go_wp2_with fail
  go_ret
  exact ⟨rfl, rfl⟩
theorem mir2_any (Ta Tb : TypeId) (va vb : Value) (w : World) : Calls Try.prog 76 #[.iface Ta va, .iface Tb vb] w fun e w' => e = .returned (.iface 75 (.agg #[.iface Tb vb, .iface Ta va])) ∧ w = w' := by
  go_enter Try.func76, Try.ntmps76
  go_wp2_with fail
  go_ret
  exact ⟨rfl, rfl⟩
set_option maxRecDepth 20000 in
set_option maxHeartbeats 2000000 in
theorem foldedN_any : ∀ (t : Tr) (w : World),
    Calls Try.prog 77 #[trVal t, .func (.func 75) #[] #[], .func (.func 76) #[] #[]] w fun e w' => e = .returned (trVal t.mirror) ∧ Below w.heap.size w w' := by
  intro t
  induction t with
  | leaf x =>
    intro w
    have H1 := Lib.hid (fun W => mir1_any x W)
    have ht1 := run_isLeaf (.int .i64 x)
    have HT := Lib.hid (show trVal (Tr.leaf x).mirror = .iface 72 (.int .i64 x) from rfl)
    rw [HT.out, trVal]
    clear HT
    go_enter Try.func77, Try.ntmps77
    go_wp2_with fail
    refine (H1.out _).mono ?_
    rintro e w' ⟨rfl, rfl⟩
    go_wp2_with fail
    go_ret
    exact ⟨rfl, (by repeat (first | with_reducible exact Below.refl _ _ | exact Hid.out (by with_reducible assumption) | refine Below.setCell ?_ (by simp <;> omega) _ | refine below_alloc ?_ _ | refine Below.alloc ?_ (by simp <;> omega) _ | refine Below.drew ?_ | refine below_drewN ?_ _ | exact Below.refl _ _))⟩
  | br a b iha ihb =>
    intro w
    have IA := Lib.hid iha
    have IB := Lib.hid ihb
    have HT := Lib.hid (show trVal (Tr.br a b).mirror = .iface 75 (.agg #[trVal b.mirror, trVal a.mirror]) from rfl)
    rw [HT.out]
    obtain ⟨ta, va, ea⟩ := trVal_iface a
    obtain ⟨tb, vb, eb⟩ := trVal_iface b
    obtain ⟨tc, vc, ec⟩ := trVal_iface a.mirror
    obtain ⟨td, vd, ed⟩ := trVal_iface b.mirror
    rw [ea, ec] at IA
    rw [eb, ed] at IB
    have H2 := Lib.hid (mir2_any tc td vc vd)
    have ht1 := run_noLeaf (.agg #[.iface ta va, .iface tb vb])
    have ht2 := run_isBranch (.agg #[.iface ta va, .iface tb vb])
    rw [trVal, ea, eb, ec, ed]
    clear iha ihb ea eb ec ed HT
    go_enter Try.func77, Try.ntmps77
    go_wp2_with fail
    have HKeep := Lib.hid (show ∀ W, Below (w.heap.size + 1) (w.alloc (.cells #[.iface ta va, .iface tb vb] 75)) W → (W.cell? ⟨w.heap.size, 0, none⟩ = some (.iface ta va) ∧ W.cell? ⟨w.heap.size, 1, none⟩ = some (.iface tb vb)) from fun W hW => by
      have X := (Box2.new w 75 (.iface ta va) (.iface tb vb)).below (by simpa using hW)
      exact ⟨X.c0, X.c1⟩)
    go_region_held3 (fun W => W.cell? ⟨w.heap.size, 0, none⟩ = some (.iface ta va) ∧ W.cell? ⟨w.heap.size, 1, none⟩ = some (.iface tb vb))
      (exact HKeep.out _ (by repeat (first | with_reducible exact Below.refl _ _ | exact Hid.out (by with_reducible assumption) | refine Below.setCell ?_ (by simp <;> omega) _ | refine below_alloc ?_ _ | refine Below.alloc ?_ (by simp <;> omega) _ | refine Below.drew ?_ | refine below_drewN ?_ _ | exact Below.refl _ _)))
      (first
        | (go_at_call_of 77 (Value.iface ta va)
           refine (IA.out _).mono ?_
           rintro e ua ⟨rfl, hb⟩
           have PA := Lib.hid (stepB (w := w.alloc (.cells #[.iface ta va, .iface tb vb] 75)) (lo := w.heap.size + 1) (by repeat (first | with_reducible exact Below.refl _ _ | exact Hid.out (by with_reducible assumption) | refine Below.setCell ?_ (by simp <;> omega) _ | refine below_alloc ?_ _ | refine Below.alloc ?_ (by simp <;> omega) _ | refine Below.drew ?_ | refine below_drewN ?_ _ | exact Below.refl _ _)) (by simp) hb)
           clear hb)
        | (go_at_call_of 77 (Value.iface tb vb)
           refine (IB.out _).mono ?_
           rintro e ub ⟨rfl, hb⟩
           have PB := Lib.hid (stepB (w := w.alloc (.cells #[.iface ta va, .iface tb vb] 75)) (lo := w.heap.size + 1) (by repeat (first | with_reducible exact Below.refl _ _ | exact Hid.out (by with_reducible assumption) | refine Below.setCell ?_ (by simp <;> omega) _ | refine below_alloc ?_ _ | refine Below.alloc ?_ (by simp <;> omega) _ | refine Below.drew ?_ | refine below_drewN ?_ _ | exact Below.refl _ _)) (by simp) hb)
           clear hb)
        | (go_at_call 76
           refine (H2.out _).mono ?_
           rintro e uc ⟨rfl, hw⟩
           obtain rfl := hw.symm
           clear hw))
    all_goals (
      go_wp2_with fail
      go_ret
      exact ⟨rfl, Below.trans ((Below.refl _ _).alloc (Nat.le_refl _) _) ((show Below (w.heap.size + 1) _ _ from (by repeat (first | with_reducible exact Below.refl _ _ | exact Hid.out (by with_reducible assumption) | refine Below.setCell ?_ (by simp <;> omega) _ | refine below_alloc ?_ _ | refine Below.alloc ?_ (by simp <;> omega) _ | refine Below.drew ?_ | refine below_drewN ?_ _ | exact Below.refl _ _))).mono (by omega))⟩)
theorem implMirrorL (A : Option Addr) (n c : Nat) (f : Nat → Int) (w : World) (t : Tr) (v : Value) (L : List Int) (ht : nodeOfT 4 (rowL f n) = some t) (hm : trVal t.mirror = .iface 72 v) (hL : t.mirror.enc = L) (hv : ∀ W, Calls Try.prog 116 #[v] W fun e w' => OwnL W w' L e) (h : Cells w A n (fun i => .int .i64 (f i))) :
    Calls Try.prog 39 #[.slice A n c] w fun e w' => IRes w w' e true L.length (fun i => L.getD i 0) := by
  have HN := Lib.hid (nodeOf_any A n c f 4 w h)
  have HF := Lib.hid (fun W => foldedN_any t W)
  have HV := Lib.hid hv
  rw [ht] at HN
  rw [hm] at HF
  obtain ⟨tt, tv, et⟩ := trVal_iface t
  rw [nodeV, et] at HN
  rw [et] at HF
  clear et ht hm hL h hv
  go_enter Try.func39, Try.ntmps39
  go_wp2_with fail
  refine HN.out.mono ?_
  rintro e w1 ⟨rfl, hb⟩
  have N1 := Lib.hid hb
  clear hb
  go_wp2_with fail
  refine (HF.out _).mono ?_
  rintro e w2 ⟨rfl, hb⟩
  have N2 := Lib.hid (stepB N1.out (Nat.le_refl _) hb)
  clear hb
  go_wp2_with fail
  refine (HV.out _).mono ?_
  rintro e w3 ⟨g, cp, rfl, ho, hb⟩
  have N3 := Lib.hid (stepB N2.out (Nat.le_refl _) hb)
  obtain ⟨A1, c1, e1, hr⟩ := IRes.row (own_base ho N2.out.size) rfl N3.out
  cases e1
  have HR := Lib.hid hr
  clear hb ho hr
  go_wp2_with fail
  refine bodyPost_ret (v := .tuple #[.slice (some ⟨g, 0, none⟩) L.length cp, .bool true]) (by simp [results, Try.results39, go_sem]) rfl ?_
  exact HR.out
theorem implMirrorB (A : Option Addr) (n c : Nat) (f : Nat → Int) (w : World) (t : Tr) (v : Value) (L : List Int) (ht : nodeOfT 4 (rowL f n) = some t) (hm : trVal t.mirror = .iface 75 v) (hL : t.mirror.enc = L) (hv : ∀ W, Calls Try.prog 117 #[v] W fun e w' => OwnL W w' L e) (h : Cells w A n (fun i => .int .i64 (f i))) :
    Calls Try.prog 39 #[.slice A n c] w fun e w' => IRes w w' e true L.length (fun i => L.getD i 0) := by
  have HN := Lib.hid (nodeOf_any A n c f 4 w h)
  have HF := Lib.hid (fun W => foldedN_any t W)
  have HV := Lib.hid hv
  rw [ht] at HN
  rw [hm] at HF
  obtain ⟨tt, tv, et⟩ := trVal_iface t
  rw [nodeV, et] at HN
  rw [et] at HF
  clear et ht hm hL h hv
  go_enter Try.func39, Try.ntmps39
  go_wp2_with fail
  refine HN.out.mono ?_
  rintro e w1 ⟨rfl, hb⟩
  have N1 := Lib.hid hb
  clear hb
  go_wp2_with fail
  refine (HF.out _).mono ?_
  rintro e w2 ⟨rfl, hb⟩
  have N2 := Lib.hid (stepB N1.out (Nat.le_refl _) hb)
  clear hb
  go_wp2_with fail
  refine (HV.out _).mono ?_
  rintro e w3 ⟨g, cp, rfl, ho, hb⟩
  have N3 := Lib.hid (stepB N2.out (Nat.le_refl _) hb)
  obtain ⟨A1, c1, e1, hr⟩ := IRes.row (own_base ho N2.out.size) rfl N3.out
  cases e1
  have HR := Lib.hid hr
  clear hb ho hr
  go_wp2_with fail
  refine bodyPost_ret (v := .tuple #[.slice (some ⟨g, 0, none⟩) L.length cp, .bool true]) (by simp [results, Try.results39, go_sem]) rfl ?_
  exact HR.out
theorem implMirrorTree_any (A : Option Addr) (n c : Nat) (f : Nat → Int) (w : World) (hn : n ≤ 1048576) (hc : n ≤ c ∧ c ≤ 1048576) (h : Cells w A n (fun i => .int .i64 (f i))) :
    Calls Try.prog 39 #[.slice A n c] w fun e w' => IRes w w' e (leafOk f n) (mirN f n) (mirF f n) := by
  unfold leafOk mirN mirF
  cases ht : nodeOfT 4 (rowL f n) with
  | none =>
    have HN := Lib.hid (nodeOf_any A n c f 4 w h)
    rw [ht, nodeV] at HN
    clear ht h
    go_enter Try.func39, Try.ntmps39
    go_wp2_with fail
    refine HN.out.mono ?_
    rintro e w1 ⟨rfl, hb⟩
    have N1 := Lib.hid hb
    clear hb
    go_wp2_with fail
    refine bodyPost_ret (v := .tuple #[.slice none 0 0, .bool false]) (by simp [results, Try.results39, go_sem]) rfl ?_
    exact IRes.none_ (n := 0) rfl N1.out
  | some t =>
    have hl : t.mirror.enc.length ≤ 1048576 := by
      rw [t.mirror_len]
      have ht' := ht
      rw [nodeOfT4] at ht'
      obtain ⟨h1, _, h3⟩ := trOf_some.1 ht'
      rw [← h3]
      omega
    cases t with
    | leaf x => exact implMirrorL A n c f w (.leaf x) (.int .i64 x) _ ht rfl rfl (listLeaf_any x) h
    | br a b => exact implMirrorB A n c f w (.br a b) (.agg #[trVal b.mirror, trVal a.mirror]) _ ht rfl rfl (fun W => listBr_any b.mirror a.mirror W hl) h
end Go.Proofs.Ytgbiablibfbilaa
