/- A machine that reads words backwards: the program's. -/
import Derived.Test.YtahlakhoocjkoaaTurned
import Derived.Test.YtahlakhoocjkoaaMachV
set_option linter.unusedVariables false
namespace Go.Proofs.Ytahlakhoocjkoaa
open Go.RowKit

/-- A call's result is a machine of its own, and whether there is one. -/
def MachRes (w w' : World) (e : Ending) (v : Bool) (s l : Int) (n m o : Nat) (F G H : Nat → Int) : Prop :=
  ∃ (A : Option Addr) (c : Nat) (B : Option Addr) (d : Nat) (C : Option Addr) (q ga gb gc : Nat), e = .returned (.tuple #[.agg #[.int .i64 s, .int .i64 l, .slice A n c, .slice B m d, .slice C o q], .bool v]) ∧
    (w.heap.size ≤ ga ∧ w.heap.size ≤ gb ∧ w.heap.size ≤ gc) ∧ (ga ≠ gb ∧ ga ≠ gc ∧ gb ≠ gc) ∧ OwnC w' ga A (n * 4) (fun i => .int .i64 (F i)) ∧ OwnC w' gb B m (fun i => .int .i64 (G i)) ∧ OwnC w' gc C o (fun i => .int .i64 (H i)) ∧ Below w.heap.size w w'
def ifI (v : Bool) (x : Int) : Int := if v then x else 0
def ifN (v : Bool) (x : Nat) : Nat := if v then x else 0
theorem ifN_le (v : Bool) (x : Nat) : ifN v x ≤ x := by unfold ifN; cases v <;> simp
/-- No machine. -/
theorem MachRes.none_ {w w' : World} {e : Ending} {s l : Int} {n m o : Nat} {F G H : Nat → Int} (he : e = .returned (.tuple #[.agg #[.int .i64 0, .int .i64 0, .slice none 0 0, .slice none 0 0, .slice none 0 0], .bool false])) (hb : Below w.heap.size w w') :
    MachRes w w' e false (ifI false s) (ifI false l) (ifN false n) (ifN false m) (ifN false o) F G H :=
  ⟨none, 0, none, 0, none, 0, w.heap.size, w.heap.size + 1, w.heap.size + 2, he, ⟨Nat.le_refl _, by omega, by omega⟩, ⟨by omega, by omega, by omega⟩, by unfold ifN; simp only [Bool.false_eq_true, if_false, Nat.zero_mul]; exact OwnC.zero, by unfold ifN; simp only [Bool.false_eq_true, if_false]; exact OwnC.zero, by unfold ifN; simp only [Bool.false_eq_true, if_false]; exact OwnC.zero, hb⟩

/-- Three rows in blocks of their own, the empty ones wherever there is room. -/
theorem rows_apart {w : World} {lo W n1 n2 n3 g1 g2 g3 : Nat} {A B C : Option Addr} {U V T : Nat → Value} (hW : lo ≤ W) (l1 : lo ≤ g1) (l2 : lo ≤ g2) (l3 : lo ≤ g3) (h1 : 0 < n1 → g1 < W) (h2 : 0 < n2 → g2 < W) (h3 : 0 < n3 → g3 < W)
    (d12 : 0 < n1 → 0 < n2 → g1 ≠ g2) (d13 : 0 < n1 → 0 < n3 → g1 ≠ g3) (d23 : 0 < n2 → 0 < n3 → g2 ≠ g3) (a1 : OwnC w g1 A n1 U) (a2 : OwnC w g2 B n2 V) (a3 : OwnC w g3 C n3 T) :
    ∃ a b c : Nat, (lo ≤ a ∧ lo ≤ b ∧ lo ≤ c) ∧ (a ≠ b ∧ a ≠ c ∧ b ≠ c) ∧ OwnC w a A n1 U ∧ OwnC w b B n2 V ∧ OwnC w c C n3 T := by
  refine ⟨if n1 = 0 then W else g1, if n2 = 0 then W + 1 else g2, if n3 = 0 then W + 2 else g3, ?_, ?_, ?_, ?_, ?_⟩
  · refine ⟨?_, ?_, ?_⟩ <;> split <;> omega
  · refine ⟨?_, ?_, ?_⟩
    · split <;> split <;> omega
    · split <;> split <;> omega
    · split <;> split <;> omega
  · split
    · rename_i h; subst h; exact OwnC.zero
    · exact a1
  · split
    · rename_i h; subst h; exact OwnC.zero
    · exact a2
  · split
    · rename_i h; subst h; exact OwnC.zero
    · exact a3

theorem box_far {w : World} {p q j : Nat} {v0 v1 v2 v3 v4 u : Value} (h : Box5 w p v0 v1 v2 v3 v4) (hq : q ≠ p) : Box5 (w.setCell ⟨q, j, none⟩ u) p v0 v1 v2 v3 v4 :=
  h.within (lo := q) (hi := q + 1) (Within.setCell w (p := ⟨q, j, none⟩) (Nat.le_refl _) (Nat.lt_succ_self _) u) (by omega)
theorem own_far {w : World} {g q j n : Nat} {A : Option Addr} {V : Nat → Value} {u : Value} (h : OwnC w g A n V) (hq : q < g) : OwnC (w.setCell ⟨q, j, none⟩ u) g A n V :=
  h.within (lo := q) (hi := q + 1) (Within.setCell w (p := ⟨q, j, none⟩) (Nat.le_refl _) (Nat.lt_succ_self _) u) (fun _ => .inr (by omega))
theorem box_at {w : World} {p j : Nat} {v0 v1 v2 v3 v4 : Value} (h : Box5 w p v0 v1 v2 v3 v4) (hj : j < 5) : ∃ u, w.cell? ⟨p, j, none⟩ = some u := by
  have : j = 0 ∨ j = 1 ∨ j = 2 ∨ j = 3 ∨ j = 4 := by omega
  rcases this with rfl | rfl | rfl | rfl | rfl
  · exact ⟨_, h.c0⟩
  · exact ⟨_, h.c1⟩
  · exact ⟨_, h.c2⟩
  · exact ⟨_, h.c3⟩
  · exact ⟨_, h.c4⟩
theorem box_set2 {w : World} {p : Nat} {v0 v1 v2 v3 v4 : Value} (h : Box5 w p v0 v1 v2 v3 v4) (u : Value) : Box5 (w.setCell ⟨p, 2, none⟩ u) p v0 v1 u v3 v4 :=
  ⟨by rw [World.cell?_setCell_other _ _ _ _ (by simp)]; exact h.c0, by rw [World.cell?_setCell_other _ _ _ _ (by simp)]; exact h.c1, World.cell?_setCell_same _ _ _ h.c2, by rw [World.cell?_setCell_other _ _ _ _ (by simp)]; exact h.c3, by rw [World.cell?_setCell_other _ _ _ _ (by simp)]; exact h.c4⟩
theorem box_set3 {w : World} {p : Nat} {v0 v1 v2 v3 v4 : Value} (h : Box5 w p v0 v1 v2 v3 v4) (u : Value) : Box5 (w.setCell ⟨p, 3, none⟩ u) p v0 v1 v2 u v4 :=
  ⟨by rw [World.cell?_setCell_other _ _ _ _ (by simp)]; exact h.c0, by rw [World.cell?_setCell_other _ _ _ _ (by simp)]; exact h.c1, by rw [World.cell?_setCell_other _ _ _ _ (by simp)]; exact h.c2, World.cell?_setCell_same _ _ _ h.c3, by rw [World.cell?_setCell_other _ _ _ _ (by simp)]; exact h.c4⟩
theorem box_set4 {w : World} {p : Nat} {v0 v1 v2 v3 v4 : Value} (h : Box5 w p v0 v1 v2 v3 v4) (u : Value) : Box5 (w.setCell ⟨p, 4, none⟩ u) p v0 v1 v2 v3 u :=
  ⟨by rw [World.cell?_setCell_other _ _ _ _ (by simp)]; exact h.c0, by rw [World.cell?_setCell_other _ _ _ _ (by simp)]; exact h.c1, by rw [World.cell?_setCell_other _ _ _ _ (by simp)]; exact h.c2, by rw [World.cell?_setCell_other _ _ _ _ (by simp)]; exact h.c3, World.cell?_setCell_same _ _ _ h.c4⟩
theorem back_end {w wc W : World} {hi ga gb gc : Nat} {s l : Int} {n m o c d q : Nat} {A B C : Option Addr} {F G H : Nat → Int} (hw : Within (w.heap.size + 1) hi wc W) (h0 : hi ≤ w.heap.size + 2)
    (hlo : w.heap.size + 2 ≤ ga ∧ w.heap.size + 2 ≤ gb ∧ w.heap.size + 2 ≤ gc) (hne : ga ≠ gb ∧ ga ≠ gc ∧ gb ≠ gc) (a1 : OwnC wc ga A (n * 4) (fun i => .int .i64 (F i))) (a2 : OwnC wc gb B m (fun i => .int .i64 (G i))) (a3 : OwnC wc gc C o (fun i => .int .i64 (H i))) (hb : Below w.heap.size w wc) :
    MachRes w W (.returned (.tuple #[.agg #[.int .i64 s, .int .i64 l, .slice A n c, .slice B m d, .slice C o q], .bool true])) true (ifI true s) (ifI true l) (ifN true n) (ifN true m) (ifN true o) F G H :=
  ⟨A, c, B, d, C, q, ga, gb, gc, rfl, ⟨by omega, by omega, by omega⟩, hne, a1.within hw (fun _ => .inr (by omega)), a2.within hw (fun _ => .inr (by omega)), a3.within hw (fun _ => .inr (by omega)), hb.trans (hw.below (by omega) hb.size)⟩

set_option maxRecDepth 20000 in
set_option maxHeartbeats 4000000 in
theorem implBackOf_any (s l : Int) (A B C : Option Addr) (n c m d o q : Nat) (f g h : Nat → Int) (w : World) (hn : n ≤ 1048576) (hm : m ≤ 1048576) (ho : o ≤ 1048576) (hA : Cells w A (n * 4) (fun i => .int .i64 (f i))) (hB : Cells w B m (fun i => .int .i64 (g i))) (hC : Cells w C o (fun i => .int .i64 (h i))) :
    Calls Try.prog 35 #[.agg #[.int .i64 s, .int .i64 l, .slice A n c, .slice B m d, .slice C o q]] w fun e w' =>
      MachRes w w' e (validM s l n m o f g h) (ifI (validM s l n m o f g h) s) (ifI (validM s l n m o f g h) l) (ifN (validM s l n m o f g h) n) (ifN (validM s l n m o f g h) o) (ifN (validM s l n m o f g h) m) (backF f) h g := by
  have HA := Lib.hid hA
  have HB := Lib.hid hB
  have HC := Lib.hid hC
  have HV := Lib.hid (fun W h1 h2 h3 => implValidMachine_any s l A B C n c m d o q f g h W hn hm ho h1 h2 h3)
  have HT := Lib.hid (fun W h1 => turnedArcs_any A n c f W hn h1)
  have HG := Lib.hid (fun W (h1 : Cells W B m (fun i => .int .i64 (g i))) => cloneI_any B m d g W hm (by rw [Nat.mul_one]; exact h1))
  have HH := Lib.hid (fun W (h1 : Cells W C o (fun i => .int .i64 (h i))) => cloneI_any C o q h W ho (by rw [Nat.mul_one]; exact h1))
  clear hA hB hC
  generalize validM s l n m o f g h = v at *
  go_enter Try.func35, Try.ntmps35
  go_wp2_with fail
  refine (HV.out _ (HA.out.below (by repeat (first | exact Below.refl _ _ | exact Hid.out (by assumption) | refine below_alloc ?_ _ | refine Below.setCell ?_ (by simp <;> omega) _ | refine Below.alloc ?_ (by simp <;> omega) _ | refine Below.drew ?_ | refine below_drewN ?_ _))) (HB.out.below (by repeat (first | exact Below.refl _ _ | exact Hid.out (by assumption) | refine below_alloc ?_ _ | refine Below.setCell ?_ (by simp <;> omega) _ | refine Below.alloc ?_ (by simp <;> omega) _ | refine Below.drew ?_ | refine below_drewN ?_ _))) (HC.out.below (by repeat (first | exact Below.refl _ _ | exact Hid.out (by assumption) | refine below_alloc ?_ _ | refine Below.setCell ?_ (by simp <;> omega) _ | refine Below.alloc ?_ (by simp <;> omega) _ | refine Below.drew ?_ | refine below_drewN ?_ _)))).mono ?_
  rintro e w1 ⟨rfl, hb1⟩
  have N1 := Lib.hid (show Below w.heap.size w w1 from Below.trans (by repeat (first | exact Below.refl _ _ | exact Hid.out (by assumption) | refine below_alloc ?_ _ | refine Below.setCell ?_ (by simp <;> omega) _ | refine Below.alloc ?_ (by simp <;> omega) _ | refine Below.drew ?_ | refine below_drewN ?_ _)) (hb1.mono (by simp <;> omega)))
  obtain ⟨hc1, hf1⟩ := bcellK hb1 (w.heap.size + 1) (by simp <;> omega)
  have hz1 : w.heap.size + 2 ≤ w1.heap.size := by have := hb1.size; simp at this; omega
  have X1 := Lib.hid (Box5.below (Box5.alloc (Box5.new w 30 (.int .i64 s) (.int .i64 l) (.slice A n c) (.slice B m d) (.slice C o q)) _) hb1)
  have Z1 := Lib.hid (Box5.below (show Box5 _ (w.heap.size + 1) _ _ _ _ _ from by simpa using (Box5.new (w.alloc (.cells #[.int .i64 s, .int .i64 l, .slice A n c, .slice B m d, .slice C o q] 30)) 30 (.int .i64 0) (.int .i64 0) (.slice none 0 0) (.slice none 0 0) (.slice none 0 0))) hb1)
  clear hb1
  cases v
  · have hk : ∀ j, j < 5 → ∃ u, w1.cell? ⟨w.heap.size + 1, j, none⟩ = some u := fun j hj => by
      rw [hc1 _ _ (by omega)]
      have : j = 0 ∨ j = 1 ∨ j = 2 ∨ j = 3 ∨ j = 4 := by omega
      rcases this with rfl | rfl | rfl | rfl | rfl <;> simp [go_sem]
    go_wp2_with fail
    obtain ⟨u0, k0⟩ := hk 0 (by omega)
    obtain ⟨u1, k1⟩ := hk 1 (by omega)
    obtain ⟨u2, k2⟩ := hk 2 (by omega)
    obtain ⟨u3, k3⟩ := hk 3 (by omega)
    obtain ⟨u4, k4⟩ := hk 4 (by omega)
    clear hc1 hf1 hk
    refine bodyPost_ret (v := .tuple #[.agg #[.int .i64 0, .int .i64 0, .slice none 0 0, .slice none 0 0, .slice none 0 0], .bool false]) ?r1 rfl ?r2
    case r1 => simp [results, Try.results35, go_sem, k0, k1, k2, k3, k4]
    case r2 => exact MachRes.none_ rfl (by repeat (first | exact Below.refl _ _ | exact Hid.out (by assumption) | refine below_alloc ?_ _ | refine Below.setCell ?_ (by simp <;> omega) _ | refine Below.alloc ?_ (by simp <;> omega) _ | refine Below.drew ?_ | refine below_drewN ?_ _))
  · go_wp2_with fail
    refine (HT.out _ (HA.out.below (by repeat (first | exact Below.refl _ _ | exact Hid.out (by assumption) | refine below_alloc ?_ _ | refine Below.setCell ?_ (by simp <;> omega) _ | refine Below.alloc ?_ (by simp <;> omega) _ | refine Below.drew ?_ | refine below_drewN ?_ _)))).mono ?_
    rintro e w2 ⟨T1, c1, g1, rfl, hg1, ho1, hb2⟩
    have N2 := Lib.hid (show Below w.heap.size w w2 from Below.trans (by repeat (first | exact Below.refl _ _ | exact Hid.out (by assumption) | refine below_alloc ?_ _ | refine Below.setCell ?_ (by simp <;> omega) _ | refine Below.alloc ?_ (by simp <;> omega) _ | refine Below.drew ?_ | refine below_drewN ?_ _)) (hb2.mono N1.out.size))
    obtain ⟨hc2, hf2⟩ := bcellK hb2 (w.heap.size + 1) (by omega)
    have hz2 : w1.heap.size ≤ w2.heap.size := hb2.size
    have O1 := Lib.hid ho1
    have L1 := Lib.hid hg1
    have X2 := Lib.hid (box_set2 (X1.out.below hb2) (.slice T1 n c1))
    have Z2 := Lib.hid (box_far (j := 2) (u := .slice T1 n c1) (Z1.out.below hb2) (q := w.heap.size) (by omega))
    clear hb2 hg1 ho1
    go_upto_region 4 with fail
    go_cut [] from 12 to 19 (fun wx => ∃ (T2 : Option Addr) (c2 g2 : Nat) (T3 : Option Addr) (c3 g3 : Nat), Box5 wx w.heap.size (.int .i64 s) (.int .i64 l) (.slice T1 n c1) (.slice T2 o c2) (.slice T3 m c3) ∧
      (∀ j, j < 5 → ∃ u, wx.cell? ⟨w.heap.size + 1, j, none⟩ = some u) ∧ (∀ j, j < 5 → wx.frozen? ⟨w.heap.size + 1, j, none⟩ = false) ∧ w.heap.size + 2 ≤ wx.heap.size ∧ (w1.heap.size ≤ g1 ∧ w2.heap.size ≤ g2 ∧ w2.heap.size ≤ g3 ∧ (0 < n * 4 → g1 < w2.heap.size) ∧ (0 < o → 0 < m → g2 ≠ g3)) ∧
      OwnC wx g1 T1 (n * 4) (fun i => .int .i64 (backF f i)) ∧ OwnC wx g2 T2 o (fun i => .int .i64 (h i)) ∧ OwnC wx g3 T3 m (fun i => .int .i64 (g i)) ∧ Below w.heap.size w wx)
    case first =>
      go_region_with (first
        | (go_at_call_of 76 (Value.slice C o q)
           refine (HH.out _ (HC.out.below (by repeat (first | exact Below.refl _ _ | exact Hid.out (by assumption) | refine below_alloc ?_ _ | refine Below.setCell ?_ (by simp <;> omega) _ | refine Below.alloc ?_ (by simp <;> omega) _ | refine Below.drew ?_ | refine below_drewN ?_ _)))).mono ?_
           rintro e u1 ⟨T2, c2, g2, rfl, hg2, ho2, hb⟩
           have N3 := Lib.hid (show Below w.heap.size w u1 from Below.trans (by repeat (first | exact Below.refl _ _ | exact Hid.out (by assumption) | refine below_alloc ?_ _ | refine Below.setCell ?_ (by simp <;> omega) _ | refine Below.alloc ?_ (by simp <;> omega) _ | refine Below.drew ?_ | refine below_drewN ?_ _)) (hb.mono (by simp <;> omega)))
           obtain ⟨hc3, hf3⟩ := bcellK hb (w.heap.size + 1) (by simp <;> omega)
           have hz3 : w2.heap.size ≤ u1.heap.size := by have := hb.size; simp at this; omega
           have hy2 : w2.heap.size ≤ g2 := by simp at hg2; omega
           have O2 := Lib.hid (by have := ho2; rw [Nat.mul_one] at this; exact this)
           have O1b := Lib.hid (OwnC.below (OwnC.within O1.out (Within.setCell w2 (p := ⟨w.heap.size, 2, none⟩) (lo := w.heap.size) (hi := w.heap.size + 1) (Nat.le_refl _) (Nat.lt_succ_self _) (.slice T1 n c1)) (fun _ => .inr (by have := L1.out; omega))) (Below.trans (by repeat (first | exact Below.refl _ _ | exact Hid.out (by assumption) | refine below_alloc ?_ _ | refine Below.setCell ?_ (by simp <;> omega) _ | refine Below.alloc ?_ (by simp <;> omega) _ | refine Below.drew ?_ | refine below_drewN ?_ _)) (hb.mono (by simp))))
           have X3 := Lib.hid (X2.out.below (Below.trans (by repeat (first | exact Below.refl _ _ | exact Hid.out (by assumption) | refine below_alloc ?_ _ | refine Below.setCell ?_ (by simp <;> omega) _ | refine Below.alloc ?_ (by simp <;> omega) _ | refine Below.drew ?_ | refine below_drewN ?_ _)) (hb.mono (by simp))))
           have Z3 := Lib.hid (Z2.out.below (Below.trans (by repeat (first | exact Below.refl _ _ | exact Hid.out (by assumption) | refine below_alloc ?_ _ | refine Below.setCell ?_ (by simp <;> omega) _ | refine Below.alloc ?_ (by simp <;> omega) _ | refine Below.drew ?_ | refine below_drewN ?_ _)) (hb.mono (by simp))))
           clear hb hg2 ho2)
        | (go_at_call_of 76 (Value.slice B m d)
           refine (HG.out _ (HB.out.below (by repeat (first | exact Below.refl _ _ | exact Hid.out (by assumption) | refine below_alloc ?_ _ | refine Below.setCell ?_ (by simp <;> omega) _ | refine Below.alloc ?_ (by simp <;> omega) _ | refine Below.drew ?_ | refine below_drewN ?_ _)))).mono ?_
           rintro e u2 ⟨T3, c3, g3, rfl, hg3, ho3, hb⟩
           have N4 := Lib.hid (show Below w.heap.size w u2 from Below.trans (by repeat (first | exact Below.refl _ _ | exact Hid.out (by assumption) | refine below_alloc ?_ _ | refine Below.setCell ?_ (by simp <;> omega) _ | refine Below.alloc ?_ (by simp <;> omega) _ | refine Below.drew ?_ | refine below_drewN ?_ _)) (hb.mono (by first | exact N3.out.size | (simp; exact N3.out.size))))
           obtain ⟨hc4, hf4⟩ := bcellK hb (w.heap.size + 1) (by first | omega | (simp <;> omega))
           have hz4 : u1.heap.size ≤ u2.heap.size := by have := hb.size; first | exact this | (simp at this; omega)
           have hy3 : u1.heap.size ≤ g3 := by first | exact hg3 | (simp at hg3; omega)
           have O3 := Lib.hid (by have := ho3; rw [Nat.mul_one] at this; exact this)
           have O2b := Lib.hid (OwnC.below O2.out (show Below u1.heap.size u1 u2 from Below.trans (by repeat (first | exact Below.refl _ _ | exact Hid.out (by assumption) | refine below_alloc ?_ _ | refine Below.setCell ?_ (by simp <;> omega) _ | refine Below.alloc ?_ (by simp <;> omega) _ | refine Below.drew ?_ | refine below_drewN ?_ _)) (hb.mono (by first | exact Nat.le_refl _ | simp))))
           have O1c := Lib.hid (OwnC.below O1b.out (show Below u1.heap.size u1 u2 from Below.trans (by repeat (first | exact Below.refl _ _ | exact Hid.out (by assumption) | refine below_alloc ?_ _ | refine Below.setCell ?_ (by simp <;> omega) _ | refine Below.alloc ?_ (by simp <;> omega) _ | refine Below.drew ?_ | refine below_drewN ?_ _)) (hb.mono (by first | exact Nat.le_refl _ | simp))))
           have L2 := Lib.hid (fun hq => O2.out.lt hq)
           have X4 := Lib.hid (X3.out.below (show Below u1.heap.size u1 u2 from Below.trans (by repeat (first | exact Below.refl _ _ | exact Hid.out (by assumption) | refine below_alloc ?_ _ | refine Below.setCell ?_ (by simp <;> omega) _ | refine Below.alloc ?_ (by simp <;> omega) _ | refine Below.drew ?_ | refine below_drewN ?_ _)) (hb.mono (by first | exact Nat.le_refl _ | simp))))
           have Z4 := Lib.hid (Z3.out.below (show Below u1.heap.size u1 u2 from Below.trans (by repeat (first | exact Below.refl _ _ | exact Hid.out (by assumption) | refine below_alloc ?_ _ | refine Below.setCell ?_ (by simp <;> omega) _ | refine Below.alloc ?_ (by simp <;> omega) _ | refine Below.drew ?_ | refine below_drewN ?_ _)) (hb.mono (by first | exact Nat.le_refl _ | simp))))
           clear hb hg3 ho3))
      all_goals (
        go_wp2_with fail
        go_meet
        refine ⟨T2, c2, g2, T3, c3, g3, box_set4 (box_set3 X4.out _) _, fun j hj => box_at (box_far (box_far Z4.out (by omega)) (by omega)) hj, fun j hj => ?fz, ?sz, ⟨L1.out, hy2, by omega, fun hq => O1.out.lt hq, fun q1 q2 e => ?ne⟩,
          own_far (own_far O1c.out (by have := L1.out; omega)) (by have := L1.out; omega), own_far (own_far O2b.out (by omega)) (by omega), own_far (own_far O3.out (by omega)) (by omega), (by repeat (first | exact Below.refl _ _ | exact Hid.out (by assumption) | refine below_alloc ?_ _ | refine Below.setCell ?_ (by simp <;> omega) _ | refine Below.alloc ?_ (by simp <;> omega) _ | refine Below.drew ?_ | refine below_drewN ?_ _))⟩
        case fz => simp [World.frozen?_setCell, hf4, hf3, hf2, hf1, go_sem]
        case sz => simp only [World.size_setCell]; omega
        case ne => have := L2.out q1; omega)
    case rest =>
    obtain ⟨T2, c2, g2, T3, c3, g3, hbx, hk, hfz, hzz, hgg, o1, o2, o3, hbb⟩ := hcut
    have NN := Lib.hid hbb
    have O1 := Lib.hid o1
    have O2 := Lib.hid o2
    have O3 := Lib.hid o3
    have GG := Lib.hid hgg
    clear o1 o2 o3 hbb hgg hc1 hf1 hc2 hf2
    obtain ⟨b0, b1, b2, b3, b4⟩ := hbx
    obtain ⟨u0, k0⟩ := hk 0 (by omega)
    obtain ⟨u1, k1⟩ := hk 1 (by omega)
    obtain ⟨u2, k2⟩ := hk 2 (by omega)
    obtain ⟨u3, k3⟩ := hk 3 (by omega)
    obtain ⟨u4, k4⟩ := hk 4 (by omega)
    have z0 := hfz 0 (by omega)
    have z1 := hfz 1 (by omega)
    have z2 := hfz 2 (by omega)
    have z3 := hfz 3 (by omega)
    have z4 := hfz 4 (by omega)
    clear hk hfz
    go_wp2_with fail
    refine bodyPost_ret (v := .tuple #[.agg #[.int .i64 s, .int .i64 l, .slice T1 n c1, .slice T2 o c2, .slice T3 m c3], .bool true]) ?r1 rfl ?r2
    case r1 => simp [results, Try.results35, go_sem, k0, k1, k2, k3, k4]
    case r2 =>
      have lt1 := O1.out.lt
      have lt2 := O2.out.lt
      have lt3 := O3.out.lt
      obtain ⟨q1, q2, q3, q4, q5⟩ := GG.out
      obtain ⟨a, b, c', hlo, hne, a1, a2, a3⟩ := rows_apart (lo := w.heap.size + 2) (W := wc.heap.size) (by omega) (by omega) (by omega) (by omega) lt1 lt2 lt3 (fun h1 _ => by have := q4 h1; omega) (fun h1 _ => by have := q4 h1; omega) q5 O1.out O2.out O3.out
      clear lt1 lt2 lt3 q1 q2 q3 q4 q5 k0 k1 k2 k3 k4 z0 z1 z2 z3 z4 b0 b1 b2 b3 b4
      exact back_end (hi := w.heap.size + 2) (by repeat (first | exact Within.refl _ _ _ | refine Within.trans ?_ (Within.setCell _ (by first | (dsimp only; omega) | omega) (by first | (dsimp only; omega) | omega) _))) (Nat.le_refl _) hlo hne a1 a2 a3 NN.out
end Go.Proofs.Ytahlakhoocjkoaa
