/- The plain machine that reads all others: the reference's. -/
import Derived.Test.YtgkmdbbdfjgggaaOwnP
import Derived.Test.YtgkmdbbdfjgggaaPlainV
set_option linter.unusedVariables false
namespace Go.Proofs.Ytgkmdbbdfjgggaa
open Go.RowKit

/-- A call's result is a plain machine of its own, and whether there is one. -/
def PlainRes (w w' : World) (e : Ending) (v : Bool) (s l : Int) (n m : Nat) (F : Nat → Int) (G : Nat → Bool) : Prop :=
  ∃ (A : Option Addr) (c : Nat) (B : Option Addr) (d ga gb : Nat), e = .returned (.tuple #[.agg #[.int .i64 s, .int .i64 l, .slice A n c, .slice B m d], .bool v]) ∧
    (w.heap.size ≤ ga ∧ w.heap.size ≤ gb) ∧ ga ≠ gb ∧ OwnC w' ga A n (fun i => .int .i64 (F i)) ∧ OwnC w' gb B m (fun i => .bool (G i)) ∧ Below w.heap.size w w'
def ifI (v : Bool) (x : Int) : Int := if v then x else 0
def ifN (v : Bool) (x : Nat) : Nat := if v then x else 0
theorem ifN_le (v : Bool) (x : Nat) : ifN v x ≤ x := by unfold ifN; cases v <;> simp
theorem PlainRes.none_ {w w' : World} {e : Ending} {s l : Int} {n m : Nat} {F : Nat → Int} {G : Nat → Bool} (he : e = .returned (.tuple #[.agg #[.int .i64 0, .int .i64 0, .slice none 0 0, .slice none 0 0], .bool false])) (hb : Below w.heap.size w w') :
    PlainRes w w' e false (ifI false s) (ifI false l) (ifN false n) (ifN false m) F G :=
  ⟨none, 0, none, 0, w.heap.size, w.heap.size + 1, he, ⟨Nat.le_refl _, by omega⟩, by omega, by unfold ifN; simp only [Bool.false_eq_true, if_false]; exact OwnC.zero, by unfold ifN; simp only [Bool.false_eq_true, if_false]; exact OwnC.zero, hb⟩
/-- The marks that have been turned. -/
def partNot (g : Nat → Bool) (k i : Nat) : Value := .bool (if i < k then !g i else g i)
theorem partNot_step (g : Nat → Bool) (k : Nat) : (fun i => if i = k then Value.bool (!g k) else partNot g k i) = partNot g (k + 1) := by
  funext i
  unfold partNot
  by_cases h : i = k
  · subst h; rw [if_pos rfl, if_pos (by omega)]
  · rw [if_neg h]
    by_cases h2 : i < k
    · rw [if_pos h2, if_pos (by omega)]
    · rw [if_neg h2, if_neg (by omega)]

set_option maxRecDepth 20000 in
set_option maxHeartbeats 4000000 in
theorem specOtherPlain_any (s l : Int) (A B : Option Addr) (n c m d : Nat) (f : Nat → Int) (g : Nat → Bool) (w : World) (hn : n ≤ 1048576) (hm : m ≤ 1048576) (hA : Cells w A n (fun i => .int .i64 (f i))) (hB : Cells w B m (fun i => .bool (g i))) :
    Calls Try.prog 24 #[.agg #[.int .i64 s, .int .i64 l, .slice A n c, .slice B m d]] w fun e w' =>
      PlainRes w w' e (validP s l n m f) (ifI (validP s l n m f) s) (ifI (validP s l n m f) l) (ifN (validP s l n m f) n) (ifN (validP s l n m f) m) f (fun i => !g i) := by
  have HA := Lib.hid hA
  have HB := Lib.hid hB
  have HP := Lib.hid (fun P W b h => l02Plain_any P s l A B n c m d f W (by omega) (by omega) h (Box4.c0 b) (Box4.c1 b) (Box4.c2 b) (Box4.c3 b))
  have HO := Lib.hid (fun P W h1 h2 b => l02OwnPlain_any P s l A B n c m d f g W hn hm h1 h2 b)
  clear hA hB
  generalize validP s l n m f = v at *
  have X1 := Lib.hid ((Box4.new w 28 (.int .i64 s) (.int .i64 l) (.slice A n c) (.slice B m d)).alloc (.cells #[.int .i64 0, .int .i64 0, .slice none 0 0, .slice none 0 0] 28))
  go_enter Try.func24, Try.ntmps24
  go_wp2_with fail
  refine (HP.out _ _ X1.out (HA.out.below (by repeat (first | exact Below.refl _ _ | exact Hid.out (by assumption) | refine below_alloc ?_ _ | refine Below.setCell ?_ (by simp <;> omega) _ | refine Below.alloc ?_ (by simp <;> omega) _ | refine Below.drew ?_ | refine below_drewN ?_ _)))).mono ?_
  rintro e w1 ⟨rfl, u, rfl⟩
  cases v
  · go_wp2_with fail
    refine bodyPost_ret (v := .tuple #[.agg #[.int .i64 0, .int .i64 0, .slice none 0 0, .slice none 0 0], .bool false]) ?r1 rfl ?r2
    case r1 => simp [results, Try.results24, go_sem]
    case r2 => exact PlainRes.none_ rfl (by repeat (first | exact Below.refl _ _ | exact Hid.out (by assumption) | refine below_alloc ?_ _ | refine Below.setCell ?_ (by simp <;> omega) _ | refine Below.alloc ?_ (by simp <;> omega) _ | refine Below.drew ?_ | refine below_drewN ?_ _))
  · go_wp2_with fail
    refine (HO.out _ _ (HA.out.below (by repeat (first | exact Below.refl _ _ | exact Hid.out (by assumption) | refine below_alloc ?_ _ | refine Below.setCell ?_ (by simp <;> omega) _ | refine Below.alloc ?_ (by simp <;> omega) _ | refine Below.drew ?_ | refine below_drewN ?_ _))) (HB.out.below (by repeat (first | exact Below.refl _ _ | exact Hid.out (by assumption) | refine below_alloc ?_ _ | refine Below.setCell ?_ (by simp <;> omega) _ | refine Below.alloc ?_ (by simp <;> omega) _ | refine Below.drew ?_ | refine below_drewN ?_ _))) (X1.out.drewN u)).mono ?_
    rintro e w2 ⟨A2, c2, B2, d2, ga, gb, rfl, hg, hne, ho1, ho2, hb⟩
    have hz2 : w.heap.size + 2 ≤ w2.heap.size := by have := hb.size; simp at this; omega
    have N2 := Lib.hid (show Below w.heap.size w w2 from Below.trans (by repeat (first | exact Below.refl _ _ | exact Hid.out (by assumption) | refine below_alloc ?_ _ | refine Below.setCell ?_ (by simp <;> omega) _ | refine Below.alloc ?_ (by simp <;> omega) _ | refine Below.drew ?_ | refine below_drewN ?_ _)) (hb.mono (by simp <;> omega)))
    have P2 := Lib.hid (X1.out.drewN u |>.below hb)
    have Z2 := Lib.hid (Box4.below (show Box4 _ (w.heap.size + 1) (.int .i64 0) (.int .i64 0) (.slice none 0 0) (.slice none 0 0) from (by have := (Box4.new (w.alloc (.cells #[.int .i64 s, .int .i64 l, .slice A n c, .slice B m d] 28)) 28 (.int .i64 0) (.int .i64 0) (.slice none 0 0) (.slice none 0 0)).drewN u; simpa using this)) hb)
    have F2 := Lib.hid (show ∀ j, w2.frozen? ⟨w.heap.size + 1, j, none⟩ = false from fun j => by rw [hb.frozen (p := ⟨w.heap.size + 1, j, none⟩) (by simp)]; simp [go_sem])
    have Y2 := Lib.hid (Box4.new w2 28 (.int .i64 s) (.int .i64 l) (.slice A2 n c2) (.slice B2 m d2))
    have GA := Lib.hid (show w.heap.size + 2 ≤ ga ∧ w.heap.size + 2 ≤ gb by simp at hg; omega)
    have O1 := Lib.hid ho1
    have O2 := Lib.hid ho2
    have L1 := Lib.hid (show 0 < n → ga < w2.heap.size from ho1.lt)
    have L2 := Lib.hid (show 0 < m → gb < w2.heap.size from ho2.lt)
    have HNE := Lib.hid hne
    clear hb hg hne ho1 ho2
    go_wp2_with fail
    go_loopw [5] (fun i wr => ∃ k : Nat, k ≤ m ∧ i = .int .i64 k ∧ Hid (Below w2.heap.size (w2.alloc (.cells #[.int .i64 s, .int .i64 l, .slice A2 n c2, .slice B2 m d2] 28)) wr ∨ True) ∧ Hid (Below w.heap.size w wr) ∧ Hid (Box4 wr w.heap.size (.int .i64 s) (.int .i64 l) (.slice A n c) (.slice B m d)) ∧ Hid (Box4 wr w2.heap.size (.int .i64 s) (.int .i64 l) (.slice A2 n c2) (.slice B2 m d2)) ∧
      Hid (Box4 wr (w.heap.size + 1) (.int .i64 0) (.int .i64 0) (.slice none 0 0) (.slice none 0 0)) ∧ Hid (∀ j, wr.frozen? ⟨w.heap.size + 1, j, none⟩ = false) ∧ Hid (OwnC wr ga A2 n (fun i => .int .i64 (f i))) ∧ Hid (OwnC wr gb B2 m (partNot g k))) (fun i _ => m - (intOf i).toNat)
    case atStart =>
      exact ⟨0, Nat.zero_le _, rfl, .inr trivial, (by repeat (first | exact Below.refl _ _ | exact Hid.out (by assumption) | refine below_alloc ?_ _ | refine Below.setCell ?_ (by simp <;> omega) _ | refine Below.alloc ?_ (by simp <;> omega) _ | refine Below.drew ?_ | refine below_drewN ?_ _)), P2.out.alloc _, Y2.out, Z2.out.alloc _, fun j => by
        have hlt := Z2.out.lt
        rw [((Below.refl _ _).alloc (Nat.le_refl _) _ : Below w2.heap.size w2 (w2.alloc _)).frozen (p := ⟨w.heap.size + 1, j, none⟩) hlt]
        exact F2.out j, O1.out.below ((Below.refl _ _).alloc (Nat.le_refl _) _), (O2.out.below ((Below.refl _ _).alloc (Nat.le_refl _) _)).congr fun i hi => by unfold partNot; rw [if_neg (by omega)]⟩
    case round =>
      obtain ⟨k, hk, rfl, -, NB, BP, BY, BZ, FZ, R1, R2⟩ := hrel
      obtain ⟨x0, x1, x2, x3⟩ := BP.out
      obtain ⟨y0, y1, y2, y3⟩ := BY.out
      by_cases hlt : k < m
      · have d1 : (k : Int) < m := by omega
        obtain ⟨y, rfl, hy0⟩ := HB.out k hlt
        have hy : wr.cell? (y.add k) = some (.bool (g k)) := by rw [NB.out.cell (World.block_lt_of_cell? _ _ hy0)]; exact hy0
        obtain ⟨x, rfl, hxg, hxf, hxc0⟩ := R2.out k hlt
        have hxc : wr.cell? (x.add k) = some (.bool (g k)) := by rw [hxc0]; unfold partNot; rw [if_neg (by omega)]
        have HS := Lib.hid (by have := R2.out.set rfl hlt (.bool (!g k)); rw [partNot_step] at this; exact this)
        have hlo := GA.out
        have hl2 := L2.out (by omega)
        have HW := Lib.hid (show Within gb (gb + 1) wr (wr.setCell (x.add k) (.bool (!g k))) from Within.setCell wr (p := x.add k) (by rw [block_add, hxg]; exact Nat.le_refl _) (by rw [block_add, hxg]; exact Nat.lt_succ_self _) _)
        have HX := Lib.hid hxg
        clear hxc0 hy0 hxg
        generalize g k = gk at *
        go_wp2_with fail
        go_region
        all_goals (
          go_wp2_with fail
          exact ⟨⟨k + 1, by omega, by simp, .inr trivial, (NB.out.trans (HW.out.below (by omega) NB.out.size)).drew, (BP.out.within HW.out (by omega)).drew, (BY.out.within HW.out (by omega)).drew, (BZ.out.within HW.out (by omega)).drew,
            fun j => (HW.out.frozen (p := ⟨w.heap.size + 1, j, none⟩) BZ.out.lt (by simp; omega)).trans (FZ.out j), OwnC.below (R1.out.within HW.out (fun hn0 => by have := HNE.out; omega)) (Below.drew (Below.refl _ _)), HS.out.below (Below.drew (Below.refl _ _))⟩, by simp [intOf]; omega⟩)
      · have d1 : ¬ (k : Int) < m := by omega
        have e : k = m := by omega
        subst e
        obtain ⟨z0, z1, z2, z3⟩ := BZ.out
        have f0 := FZ.out 0
        have f1 := FZ.out 1
        have f2 := FZ.out 2
        have f3 := FZ.out 3
        go_wp2_with fail
        refine bodyPost_ret (v := .tuple #[.agg #[.int .i64 s, .int .i64 l, .slice A2 n c2, .slice B2 k d2], .bool true]) ?r1 rfl ?r2
        case r1 => simp [results, Try.results24, go_sem, z0, z1, z2, z3]
        case r2 =>
          have h1 := GA.out
          exact ⟨A2, c2, B2, d2, ga, gb, rfl, ⟨by omega, by omega⟩, HNE.out, own_set4P R1.out (fun _ => by omega), (own_set4P R2.out (fun _ => by omega)).congr fun i hi => by unfold partNot; rw [if_pos hi], (by repeat (first | exact Below.refl _ _ | exact Hid.out (by assumption) | refine below_alloc ?_ _ | refine Below.setCell ?_ (by simp <;> omega) _ | refine Below.alloc ?_ (by simp <;> omega) _ | refine Below.drew ?_ | refine below_drewN ?_ _))⟩
end Go.Proofs.Ytgkmdbbdfjgggaa
