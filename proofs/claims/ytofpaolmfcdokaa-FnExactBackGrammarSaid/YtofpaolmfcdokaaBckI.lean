/- The grammar of words backwards: the program's. -/
import Derived.Test.YtofpaolmfcdokaaGrmV
import Derived.Test.YtofpaolmfcdokaaGrammarR
import Derived.Test.YtofpaolmfcdokaaCloneR
import Derived.Deep.CutRange
set_option linter.unusedVariables false
namespace Go.Proofs.Ytofpaolmfcdokaa
open Go.RowKit

/-- A rule's number, with First and Second exchanged where it has two names. -/
def backG (f : Nat → Int) (i : Nat) : Int := if i % 4 = 1 ∧ f (i + 1) ≠ -1 then f (i + 1) else if i % 4 = 2 ∧ f i ≠ -1 then f (i - 1) else f i
theorem backG0 (f : Nat → Int) (k : Nat) : backG f (k * 4) = f (k * 4) := by unfold backG; rw [if_neg (by omega), if_neg (by omega)]
theorem backG3 (f : Nat → Int) (k : Nat) : backG f (k * 4 + 3) = f (k * 4 + 3) := by unfold backG; rw [if_neg (by omega), if_neg (by omega)]
theorem backG1 {f : Nat → Int} {k : Nat} (h : f (k * 4 + 2) ≠ -1) : backG f (k * 4 + 1) = f (k * 4 + 2) := by unfold backG; rw [if_pos ⟨by omega, h⟩]
theorem backG2 {f : Nat → Int} {k : Nat} (h : f (k * 4 + 2) ≠ -1) : backG f (k * 4 + 2) = f (k * 4 + 1) := by unfold backG; rw [if_neg (by omega), if_pos ⟨by omega, h⟩]; rfl
theorem backGn {f : Nat → Int} {k j : Nat} (h : f (k * 4 + 2) = -1) (hj : j < 4) : backG f (k * 4 + j) = f (k * 4 + j) := by
  unfold backG
  rcases (show j = 0 ∨ j = 1 ∨ j = 2 ∨ j = 3 by omega) with rfl | rfl | rfl | rfl
  · rw [if_neg (by omega), if_neg (by omega)]
  · rw [if_neg (fun q => q.2 h), if_neg (by omega)]
  · rw [if_neg (by omega), if_neg (fun q => q.2 h)]
  · rw [if_neg (by omega), if_neg (by omega)]
def partBack (f : Nat → Int) (k i : Nat) : Value := .int .i64 (if i < k * 4 then backG f i else f i)
theorem partBack_yes {f : Nat → Int} {k : Nat} (h : f (k * 4 + 2) ≠ -1) : (fun i => if i = k * 4 + 2 then Value.int .i64 (f (k * 4 + 1)) else (if i = k * 4 + 1 then Value.int .i64 (f (k * 4 + 2)) else partBack f k i)) = partBack f (k + 1) := by
  funext i
  unfold partBack
  by_cases h2 : i = k * 4 + 2
  · subst h2
    rw [if_pos rfl, if_pos (by omega), backG2 h]
  · rw [if_neg h2]
    by_cases h1 : i = k * 4 + 1
    · subst h1
      rw [if_pos rfl, if_pos (by omega), backG1 h]
    · rw [if_neg h1]
      by_cases h0 : i < k * 4
      · rw [if_pos h0, if_pos (by omega)]
      · by_cases h4 : i < (k + 1) * 4
        · rw [if_neg h0, if_pos h4]
          rcases (show i = k * 4 ∨ i = k * 4 + 3 by omega) with rfl | rfl
          · rw [backG0]
          · rw [backG3]
        · rw [if_neg h0, if_neg h4]
theorem partBack_no {f : Nat → Int} {k : Nat} (h : f (k * 4 + 2) = -1) : partBack f k = partBack f (k + 1) := by
  funext i
  unfold partBack
  by_cases h0 : i < k * 4
  · rw [if_pos h0, if_pos (by omega)]
  · by_cases h4 : i < (k + 1) * 4
    · rw [if_neg h0, if_pos h4]
      obtain ⟨j, rfl⟩ : ∃ j, i = k * 4 + j := ⟨i - k * 4, by omega⟩
      rw [backGn h (by omega)]
    · rw [if_neg h0, if_neg h4]

set_option maxRecDepth 20000 in
set_option maxHeartbeats 4000000 in
theorem implBackGrammar_any (s l : Int) (A : Option Addr) (n c : Nat) (f : Nat → Int) (w : World) (hn : n ≤ 1048576) (hA : Cells w A (n * 4) (fun i => .int .i64 (f i))) :
    Calls Try.prog 23 #[.agg #[.int .i64 s, .int .i64 l, .slice A n c]] w fun e w' =>
      GrammarRes w w' e (validG s l n f) (ifI (validG s l n f) s) (ifI (validG s l n f) l) (ifN (validG s l n f) n) (backG f) := by
  have HA := Lib.hid hA
  have HV := Lib.hid (fun W h1 => implValidGrammar_any s l A n c f W hn h1)
  have HT := Lib.hid (fun W h1 => cloneRule_any A n c f W hn h1)
  clear hA
  generalize validG s l n f = v at *
  go_enter Try.func23, Try.ntmps23
  go_wp2_with fail
  refine (HV.out _ (HA.out.below (by repeat (first | with_reducible exact Below.refl _ _ | exact Hid.out (by with_reducible assumption) | refine Below.setCell ?_ (by simp <;> omega) _ | refine below_alloc ?_ _ | refine Below.alloc ?_ (by simp <;> omega) _ | refine Below.drew ?_ | refine below_drewN ?_ _ | exact Below.refl _ _)))).mono ?_
  rintro e w1 ⟨rfl, hb1⟩
  have N1 := Lib.hid (show Below w.heap.size w w1 from Below.trans (by repeat (first | with_reducible exact Below.refl _ _ | exact Hid.out (by with_reducible assumption) | refine Below.setCell ?_ (by simp <;> omega) _ | refine below_alloc ?_ _ | refine Below.alloc ?_ (by simp <;> omega) _ | refine Below.drew ?_ | refine below_drewN ?_ _ | exact Below.refl _ _)) (hb1.mono (by simp <;> omega)))
  have hz1 : w.heap.size + 2 ≤ w1.heap.size := by have := hb1.size; simp at this; omega
  have X1 := Lib.hid (BoxF3.below (BoxF3.alloc (BoxF3.new w 29 (.int .i64 s) (.int .i64 l) (.slice A n c)) _) hb1)
  have Z1 := Lib.hid (BoxF3.below (show BoxF3 _ (w.heap.size + 1) _ _ _ from by simpa using (BoxF3.new (w.alloc (.cells #[.int .i64 s, .int .i64 l, .slice A n c] 29)) 29 (.int .i64 0) (.int .i64 0) (.slice none 0 0))) hb1)
  clear hb1
  obtain ⟨x0, x1, x2⟩ := X1.out.box
  cases v
  · obtain ⟨k0, k1, k2⟩ := Z1.out.box
    have hfz := Z1.out.fz
    go_wp2_with fail
    refine bodyPost_ret (v := .tuple #[.agg #[.int .i64 0, .int .i64 0, .slice none 0 0], .bool false]) ?r1 rfl ?r2
    case r1 => simp [results, Try.results23, go_sem, k0, k1, k2]
    case r2 => exact GrammarRes.none_ rfl (by repeat (first | with_reducible exact Below.refl _ _ | exact Hid.out (by with_reducible assumption) | refine Below.setCell ?_ (by simp <;> omega) _ | refine below_alloc ?_ _ | refine Below.alloc ?_ (by simp <;> omega) _ | refine Below.drew ?_ | refine below_drewN ?_ _ | exact Below.refl _ _))
  · have hfz := X1.out.fz
    go_wp2_with fail
    refine (HT.out _ (HA.out.below (by repeat (first | with_reducible exact Below.refl _ _ | exact Hid.out (by with_reducible assumption) | refine Below.setCell ?_ (by simp <;> omega) _ | refine below_alloc ?_ _ | refine Below.alloc ?_ (by simp <;> omega) _ | refine Below.drew ?_ | refine below_drewN ?_ _ | exact Below.refl _ _)))).mono ?_
    rintro e u1 ⟨T1, c1, g1, rfl, hg1, ho1, hb⟩
    have N3 := Lib.hid (Below.trans N1.out (hb.mono N1.out.size))
    have X3 := Lib.hid (X1.out.below hb)
    have Z3 := Lib.hid (Z1.out.below hb)
    have O1 := Lib.hid (show OwnC u1 g1 T1 (n * 4) (partBack f 0) from ho1.congr fun i hi => by unfold partBack; rw [if_neg (by omega)])
    have GG := Lib.hid (show w1.heap.size ≤ g1 from hg1)
    have hzu : w1.heap.size ≤ u1.heap.size := hb.size
    clear hb hg1 ho1 x0 x1 x2 hfz
    obtain ⟨x0, x1, x2⟩ := X3.out.box
    have hfz := X3.out.fz
    go_wp2_with fail
    have hgw : g1 ≠ w.heap.size := by have := GG.out; omega
    go_loopw [4, 5, 17] (fun _ _ i wr => ∃ k : Nat, k ≤ n ∧ i = .int .i64 k ∧ Hid (Below w.heap.size w wr) ∧ Hid (BoxF3 wr w.heap.size (.int .i64 s) (.int .i64 l) (.slice T1 n c1)) ∧ Hid (BoxF3 wr (w.heap.size + 1) (.int .i64 0) (.int .i64 0) (.slice none 0 0)) ∧
      Hid (OwnC wr g1 T1 (n * 4) (partBack f k)) ∧ Hid (u1.heap.size ≤ wr.heap.size)) (fun _ _ i _ => n - (intOf i).toNat)
    case atStart => exact ⟨0, Nat.zero_le _, rfl, (by repeat (first | with_reducible exact Below.refl _ _ | exact Hid.out (by with_reducible assumption) | refine Below.setCell ?_ (by simp <;> omega) _ | refine below_alloc ?_ _ | refine Below.alloc ?_ (by simp <;> omega) _ | refine Below.drew ?_ | refine below_drewN ?_ _ | exact Below.refl _ _)), X3.out.set2, Z3.out.far (by omega), own_setP' O1.out (fun _ => hgw), by unfold Hid; simp⟩
    case round =>
      obtain ⟨k, hk, rfl, HB0, CX, CZ, HP, HS0⟩ := hrel
      clear x0 x1 x2 hfz
      obtain ⟨x0, x1, x2⟩ := CX.out.box
      have hfx := CX.out.fz
      by_cases hlt : k < n
      · have d1 : (k : Int) < n := by omega
        obtain ⟨x, rfl, hxg, -, -⟩ := HP.out (k * 4) (by omega)
        have hd : ∀ j, j < 4 → wr.frozen? (x.add (k * 4 + j)) = false ∧ wr.cell? (x.add (k * 4 + j)) = some (.int .i64 (f (k * 4 + j))) := fun j hj => by
          obtain ⟨y, hy, _, h3, h4⟩ := HP.out (k * 4 + j) (by omega)
          cases hy
          unfold partBack at h4
          rw [if_neg (by omega)] at h4
          exact ⟨h3, h4⟩
        obtain ⟨f0, t0⟩ := hd 0 (by omega)
        obtain ⟨f1, t1⟩ := hd 1 (by omega)
        obtain ⟨f2, t2⟩ := hd 2 (by omega)
        obtain ⟨f3, t3⟩ := hd 3 (by omega)
        rw [Nat.add_zero] at f0 t0
        rw [← add_add', add_pos (by omega)] at f1 t1 f2 t2 f3 t3
        have hltg : (x.add (k * 4)).block < wr.heap.size := World.block_lt_of_cell? _ _ t0
        have HX := Lib.hid hxg
        clear hd hxg
        have HP1 := Lib.hid (fun (h : f (k * 4 + 2) = -1) => (show OwnC wr g1 (some x) (n * 4) (partBack f (k + 1)) by rw [← partBack_no h]; exact HP.out))
        have HP2 := Lib.hid (fun (W : World) (hW : OwnC W g1 (some x) (n * 4) (partBack f k)) (h : f (k * 4 + 2) ≠ -1) => (show OwnC ((W.setCell (x.add (k * 4 + 1)) (.int .i64 (f (k * 4 + 2)))).setCell (x.add (k * 4 + 2)) (.int .i64 (f (k * 4 + 1)))) g1 (some x) (n * 4) (partBack f (k + 1)) by
          have b1 := OwnC.set hW rfl (k := k * 4 + 1) (by omega) (.int .i64 (f (k * 4 + 2)))
          have b2 := OwnC.set b1 rfl (k := k * 4 + 2) (by omega) (.int .i64 (f (k * 4 + 1)))
          rw [partBack_yes h] at b2
          exact b2))
        rw [← add_add' x (k * 4) 1, add_pos (a := x.add (k * 4)) (j := 1) (by omega), ← add_add' x (k * 4) 2, add_pos (a := x.add (k * 4)) (j := 2) (by omega)] at HP2
        have nb : (x.add (k * 4)).block ≠ w.heap.size := by rw [block_add, HX.out]; exact hgw
        have nz : (x.add (k * 4)).block ≠ w.heap.size + 1 := by rw [block_add, HX.out]; have := GG.out; omega
        have hge : w.heap.size ≤ (x.add (k * 4)).block := by rw [block_add, HX.out]; have := GG.out; omega
        generalize f (k * 4) = z0 at *
        generalize f (k * 4 + 1) = z1 at *
        generalize f (k * 4 + 2) = z2 at *
        generalize f (k * 4 + 3) = z3 at *
        by_cases hz : z2 = -1
        · have b2 : (z2 != -1) = false := by simpa using hz
          have HQ := Lib.hid (HP1.out hz)
          clear hz HP1 HP2
          go_wp2_with fail
          exact ⟨⟨k + 1, by omega, by simp, (by repeat (first | with_reducible exact Below.refl _ _ | exact Hid.out (by with_reducible assumption) | refine Below.setCell ?_ (by simp <;> omega) _ | refine below_alloc ?_ _ | refine Below.alloc ?_ (by simp <;> omega) _ | refine Below.drew ?_ | refine below_drewN ?_ _ | exact Below.refl _ _)), CX.out.alloc _, CZ.out.alloc _, HQ.out.below ((Below.refl _ _).alloc (Nat.le_refl _) _), by unfold Hid; have := HS0.out; simp; omega⟩, by simp [intOf]; omega⟩
        · have b2 : (z2 != -1) = true := by simpa using hz
          have HQ := Lib.hid (fun W hW => HP2.out W hW hz)
          clear hz HP1 HP2
          go_wp2_with fail
          obtain ⟨W2, hW2⟩ : ∃ W, W = wr.alloc (.cells #[.int .i64 z0, .int .i64 z1, .int .i64 z2, .int .i64 z3] 67) := ⟨_, rfl⟩
          rw [← hW2]
          have HW2 := Lib.hid hW2
          have RB := Lib.hid (show Box4 W2 wr.heap.size (.int .i64 z0) (.int .i64 z1) (.int .i64 z2) (.int .i64 z3) by rw [hW2]; exact Box4.new wr _ _ _ _ _)
          have CX2 := Lib.hid (show BoxF3 W2 w.heap.size _ _ _ by rw [hW2]; exact CX.out.alloc _)
          have CZ2 := Lib.hid (show BoxF3 W2 (w.heap.size + 1) _ _ _ by rw [hW2]; exact CZ.out.alloc _)
          have bA := Lib.hid (show Below wr.heap.size wr W2 by rw [hW2]; exact (Below.refl _ _).alloc (Nat.le_refl _) _)
          have g1' : W2.frozen? ⟨(x.add (k * 4)).block, (x.add (k * 4)).off + 1, none⟩ = false := (bA.out.frozen (p := ⟨(x.add (k * 4)).block, (x.add (k * 4)).off + 1, none⟩) hltg).trans f1
          have g2' : W2.frozen? ⟨(x.add (k * 4)).block, (x.add (k * 4)).off + 2, none⟩ = false := (bA.out.frozen (p := ⟨(x.add (k * 4)).block, (x.add (k * 4)).off + 2, none⟩) hltg).trans f2
          have c1' : W2.cell? ⟨(x.add (k * 4)).block, (x.add (k * 4)).off + 1, none⟩ = some (.int .i64 z1) := (bA.out.cell (p := ⟨(x.add (k * 4)).block, (x.add (k * 4)).off + 1, none⟩) hltg).trans t1
          have c2' : W2.cell? ⟨(x.add (k * 4)).block, (x.add (k * 4)).off + 2, none⟩ = some (.int .i64 z2) := (bA.out.cell (p := ⟨(x.add (k * 4)).block, (x.add (k * 4)).off + 2, none⟩) hltg).trans t2
          have nr : (x.add (k * 4)).block ≠ wr.heap.size := by omega
          have y0 := CX2.out.box.c2
          have y1 := RB.out.c1
          have y2 := RB.out.c2
          have y3 := fun j v => (CX2.out.far (q := (x.add (k * 4)).block) (j := j) (u := v) nb).box.c2
          have y4 := fun j v => (RB.out.far (q := (x.add (k * 4)).block) (j := j) (u := v) nr).c1
          have y5 := fun j v => (RB.out.far (q := (x.add (k * 4)).block) (j := j) (u := v) nr).c2
          have HBx := Lib.hid (fun v1 v2 => Below.drew (((HB0.out.trans (bA.out.mono HB0.out.size)).setCell (p := ⟨(x.add (k * 4)).block, (x.add (k * 4)).off + 1, none⟩) hge v1).setCell (p := ⟨(x.add (k * 4)).block, (x.add (k * 4)).off + 2, none⟩) hge v2))
          clear x0 x1 x2 hfx f0 f1 f2 f3 t0 t1 t2 t3 hW2
          go_region
          all_goals (
            go_wp2_with fail
            exact ⟨⟨k + 1, by omega, by simp, HBx.out _ _, ((CX2.out.far nb).far nb).below (Below.drew (Below.refl _ _)), ((CZ2.out.far nz).far nz).below (Below.drew (Below.refl _ _)), (HQ.out W2 (HP.out.below bA.out)).below (Below.drew (Below.refl _ _)), by unfold Hid; have := HS0.out; have := bA.out.size; simp; omega⟩, by simp [intOf]; omega⟩)
      · have d1 : ¬ (k : Int) < n := by omega
        have e : k = n := by omega
        subst e
        have P1 := Lib.hid (show OwnC wr g1 T1 (k * 4) (fun i => .int .i64 (backG f i)) from HP.out.congr fun i hi => by unfold partBack; rw [if_pos hi])
        obtain ⟨k0, k1, k2⟩ := CZ.out.box
        have hfz := CZ.out.fz
        go_wp2_with fail
        refine bodyPost_ret (v := .tuple #[.agg #[.int .i64 s, .int .i64 l, .slice T1 k c1], .bool true]) ?r1 rfl ?r2
        case r1 => simp [results, Try.results23, go_sem, k0, k1, k2]
        case r2 =>
          have := GG.out
          exact ⟨T1, c1, g1, rfl, by omega, trivial, own_setP' (own_setP' (own_setP' P1.out (fun _ => by omega)) (fun _ => by omega)) (fun _ => by omega), (by repeat (first | with_reducible exact Below.refl _ _ | exact Hid.out (by with_reducible assumption) | refine Below.setCell ?_ (by simp <;> omega) _ | refine below_alloc ?_ _ | refine Below.alloc ?_ (by simp <;> omega) _ | refine Below.drew ?_ | refine below_drewN ?_ _ | exact Below.refl _ _))⟩
end Go.Proofs.Ytofpaolmfcdokaa
