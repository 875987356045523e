/- Machines with their sides exchanged: the program's. -/
import Derived.Test.YtdgegekjjnghmaaSidV
import Derived.Test.YtdgegekjjnghmaaSidedR
import Derived.Test.YtdgegekjjnghmaaCloneQ
import Derived.Deep.RegionHeldLaw
import Derived.Deep.CutRange
set_option linter.unusedVariables false
namespace Go.Proofs.Ytdgegekjjnghmaa
open Go.RowKit

/-- An arc's number, with In and Out exchanged. -/
def turnF (f : Nat → Int) (i : Nat) : Int := f (if i % 4 = 2 then i + 1 else if i % 4 = 3 then i - 1 else i)
theorem turnF0 (f : Nat → Int) (k : Nat) : turnF f (k * 4) = f (k * 4) := by unfold turnF; rw [if_neg (by omega), if_neg (by omega)]
theorem turnF1 (f : Nat → Int) (k : Nat) : turnF f (k * 4 + 1) = f (k * 4 + 1) := by unfold turnF; rw [if_neg (by omega), if_neg (by omega)]
theorem turnF2 (f : Nat → Int) (k : Nat) : turnF f (k * 4 + 2) = f (k * 4 + 3) := by unfold turnF; rw [if_pos (by omega)]
theorem turnF3 (f : Nat → Int) (k : Nat) : turnF f (k * 4 + 3) = f (k * 4 + 2) := by unfold turnF; rw [if_neg (by omega), if_pos (by omega)]; rfl
def partTurn (f : Nat → Int) (k i : Nat) : Value := .int .i64 (if i < k * 4 then turnF f i else f i)
theorem partTurn_step (f : Nat → Int) (k : Nat) : (fun i => if i = k * 4 + 3 then Value.int .i64 (f (k * 4 + 2)) else (if i = k * 4 + 2 then Value.int .i64 (f (k * 4 + 3)) else partTurn f k i)) = partTurn f (k + 1) := by
  funext i
  unfold partTurn
  by_cases h3 : i = k * 4 + 3
  · subst h3
    rw [if_pos rfl, if_pos (by omega), turnF3]
  · rw [if_neg h3]
    by_cases h2 : i = k * 4 + 2
    · subst h2
      rw [if_pos rfl, if_pos (by omega), turnF2]
    · rw [if_neg h2]
      by_cases h : i < k * 4
      · rw [if_pos h, if_pos (by omega)]
      · by_cases h4 : i < (k + 1) * 4
        · rw [if_neg h, if_pos h4]
          unfold turnF
          rw [if_neg (by omega), if_neg (by omega)]
        · rw [if_neg h, if_neg h4]

set_option maxRecDepth 20000 in
set_option maxHeartbeats 4000000 in
theorem implTurnSided_any (s l : Int) (A B : Option Addr) (n c m d : Nat) (f : Nat → Int) (g : Nat → Bool) (w : World) (hn : n ≤ 1048576) (hm : m ≤ 1048576) (hA : Cells w A (n * 4) (fun i => .int .i64 (f i))) (hB : Cells w B m (fun i => .bool (g i))) :
    Calls Try.prog 34 #[.agg #[.int .i64 s, .int .i64 l, .slice A n c, .slice B m d]] w fun e w' =>
      SidedRes w w' e (validS s l n m f) (ifI (validS s l n m f) s) (ifI (validS s l n m f) l) (ifN (validS s l n m f) n) (ifN (validS s l n m f) m) (turnF f) g := by
  have HA := Lib.hid hA
  have HB := Lib.hid hB
  have HV := Lib.hid (fun W h1 h2 => implValidSided_any s l A B n c m d f g W hn hm h1 h2)
  have HT := Lib.hid (fun W h1 => clonePairArc_any A n c f W hn h1)
  have HG := Lib.hid (fun W (h1 : Cells W B m (fun i => .bool (g i))) => cloneB_any B m d g W hm (by rw [Nat.mul_one]; exact h1))
  clear hA hB
  generalize validS s l n m f = v at *
  go_enter Try.func34, Try.ntmps34
  go_wp2_with fail
  refine (HV.out _ (HA.out.below (by repeat (first | exact Below.refl _ _ | exact Hid.out (by assumption) | refine below_alloc ?_ _ | refine Below.setCell ?_ (by simp <;> omega) _ | refine Below.alloc ?_ (by simp <;> omega) _ | refine Below.drew ?_ | refine below_drewN ?_ _))) (HB.out.below (by repeat (first | exact Below.refl _ _ | exact Hid.out (by assumption) | refine below_alloc ?_ _ | refine Below.setCell ?_ (by simp <;> omega) _ | refine Below.alloc ?_ (by simp <;> omega) _ | refine Below.drew ?_ | refine below_drewN ?_ _)))).mono ?_
  rintro e w1 ⟨rfl, hb1⟩
  have N1 := Lib.hid (show Below w.heap.size w w1 from Below.trans (by repeat (first | exact Below.refl _ _ | exact Hid.out (by assumption) | refine below_alloc ?_ _ | refine Below.setCell ?_ (by simp <;> omega) _ | refine Below.alloc ?_ (by simp <;> omega) _ | refine Below.drew ?_ | refine below_drewN ?_ _)) (hb1.mono (by simp <;> omega)))
  have hz1 : w.heap.size + 2 ≤ w1.heap.size := by have := hb1.size; simp at this; omega
  have X1 := Lib.hid (BoxF4.below (BoxF4.alloc (BoxF4.new w 30 (.int .i64 s) (.int .i64 l) (.slice A n c) (.slice B m d)) _) hb1)
  have Z1 := Lib.hid (BoxF4.below (show BoxF4 _ (w.heap.size + 1) _ _ _ _ from by simpa using (BoxF4.new (w.alloc (.cells #[.int .i64 s, .int .i64 l, .slice A n c, .slice B m d] 30)) 30 (.int .i64 0) (.int .i64 0) (.slice none 0 0) (.slice none 0 0))) hb1)
  clear hb1
  obtain ⟨x0, x1, x2, x3⟩ := X1.out.box
  cases v
  · obtain ⟨k0, k1, k2, k3⟩ := Z1.out.box
    have hfz := Z1.out.fz
    go_wp2_with fail
    refine bodyPost_ret (v := .tuple #[.agg #[.int .i64 0, .int .i64 0, .slice none 0 0, .slice none 0 0], .bool false]) ?r1 rfl ?r2
    case r1 => simp [results, Try.results34, go_sem, k0, k1, k2, k3]
    case r2 => exact SidedRes.none_ rfl (by repeat (first | exact Below.refl _ _ | exact Hid.out (by assumption) | refine below_alloc ?_ _ | refine Below.setCell ?_ (by simp <;> omega) _ | refine Below.alloc ?_ (by simp <;> omega) _ | refine Below.drew ?_ | refine below_drewN ?_ _))
  · have hfz := X1.out.fz
    go_upto_region 3 with fail
    go_cut [] from 10 to 17 (fun wx => ∃ (T1 : Option Addr) (c1 g1 : Nat) (T2 : Option Addr) (c2 g2 : Nat), BoxF4 wx w.heap.size (.int .i64 s) (.int .i64 l) (.slice T1 n c1) (.slice T2 m c2) ∧
      BoxF4 wx (w.heap.size + 1) (.int .i64 0) (.int .i64 0) (.slice none 0 0) (.slice none 0 0) ∧ (w1.heap.size ≤ g1 ∧ w1.heap.size ≤ g2 ∧ (0 < n * 4 → 0 < m → g1 ≠ g2)) ∧
      OwnC wx g1 T1 (n * 4) (fun i => .int .i64 (f i)) ∧ OwnC wx g2 T2 m (fun i => .bool (g i)) ∧ Below w.heap.size w wx)
    case first =>
      go_region_with (first
        | (go_at_call 82
           refine (HT.out _ (HA.out.below (by repeat (first | exact Below.refl _ _ | exact Hid.out (by assumption) | refine below_alloc ?_ _ | refine Below.setCell ?_ (by simp <;> omega) _ | refine Below.alloc ?_ (by simp <;> omega) _ | refine Below.drew ?_ | refine below_drewN ?_ _)))).mono ?_
           rintro e u1 ⟨T1, c1, g1, rfl, hg1, ho1, hb⟩
           have N3 := Lib.hid (show Below w.heap.size w u1 from Below.trans (by repeat (first | exact Below.refl _ _ | exact Hid.out (by assumption) | refine below_alloc ?_ _ | refine Below.setCell ?_ (by simp <;> omega) _ | refine Below.alloc ?_ (by simp <;> omega) _ | refine Below.drew ?_ | refine below_drewN ?_ _)) (hb.mono (by have := N1.out.size; simp <;> omega)))
           have hy1 : w1.heap.size ≤ g1 := by first | exact hg1 | (simp at hg1; omega)
           have hz3 : w1.heap.size ≤ u1.heap.size := by have := hb.size; first | exact this | (simp at this; omega)
           have O1 := Lib.hid ho1
           have L1 := Lib.hid (fun hq => O1.out.lt hq)
           have X3 := Lib.hid (X1.out.below (show Below w1.heap.size w1 u1 from Below.trans (by repeat (first | exact Below.refl _ _ | exact Hid.out (by assumption) | refine below_alloc ?_ _ | refine Below.setCell ?_ (by simp <;> omega) _ | refine Below.alloc ?_ (by simp <;> omega) _ | refine Below.drew ?_ | refine below_drewN ?_ _)) (hb.mono (by first | exact Nat.le_refl _ | simp))))
           have Z3 := Lib.hid (Z1.out.below (show Below w1.heap.size w1 u1 from Below.trans (by repeat (first | exact Below.refl _ _ | exact Hid.out (by assumption) | refine below_alloc ?_ _ | refine Below.setCell ?_ (by simp <;> omega) _ | refine Below.alloc ?_ (by simp <;> omega) _ | refine Below.drew ?_ | refine below_drewN ?_ _)) (hb.mono (by first | exact Nat.le_refl _ | simp))))
           obtain ⟨r0, r1, r2, r3⟩ := X3.out.box
           have hfz3 := X3.out.fz
           clear hb hg1 ho1)
        | (go_at_call 83
           refine (HG.out _ (HB.out.below (by repeat (first | exact Below.refl _ _ | exact Hid.out (by assumption) | refine below_alloc ?_ _ | refine Below.setCell ?_ (by simp <;> omega) _ | refine Below.alloc ?_ (by simp <;> omega) _ | refine Below.drew ?_ | refine below_drewN ?_ _)))).mono ?_
           rintro e u2 ⟨T2, c2, g2, rfl, hg2, ho2, hb⟩
           have N4 := Lib.hid (show Below w.heap.size w u2 from Below.trans (by repeat (first | exact Below.refl _ _ | exact Hid.out (by assumption) | refine below_alloc ?_ _ | refine Below.setCell ?_ (by simp <;> omega) _ | refine Below.alloc ?_ (by simp <;> omega) _ | refine Below.drew ?_ | refine below_drewN ?_ _)) (hb.mono (by first | exact N3.out.size | (simp; exact N3.out.size))))
           have hz4 : u1.heap.size ≤ u2.heap.size := by have := hb.size; first | exact this | (simp at this; omega)
           have hy2 : u1.heap.size ≤ g2 := by first | exact hg2 | (simp at hg2; omega)
           have O2 := Lib.hid (by have := ho2; rw [Nat.mul_one] at this; exact this)
           have O1b := Lib.hid (OwnC.below O1.out (show Below u1.heap.size u1 u2 from Below.trans (by repeat (first | exact Below.refl _ _ | exact Hid.out (by assumption) | refine below_alloc ?_ _ | refine Below.setCell ?_ (by simp <;> omega) _ | refine Below.alloc ?_ (by simp <;> omega) _ | refine Below.drew ?_ | refine below_drewN ?_ _)) (hb.mono (by first | exact Nat.le_refl _ | simp))))
           have X4 := Lib.hid (X3.out.below (show Below u1.heap.size u1 u2 from Below.trans (by repeat (first | exact Below.refl _ _ | exact Hid.out (by assumption) | refine below_alloc ?_ _ | refine Below.setCell ?_ (by simp <;> omega) _ | refine Below.alloc ?_ (by simp <;> omega) _ | refine Below.drew ?_ | refine below_drewN ?_ _)) (hb.mono (by first | exact Nat.le_refl _ | simp))))
           have Z4 := Lib.hid (Z3.out.below (show Below u1.heap.size u1 u2 from Below.trans (by repeat (first | exact Below.refl _ _ | exact Hid.out (by assumption) | refine below_alloc ?_ _ | refine Below.setCell ?_ (by simp <;> omega) _ | refine Below.alloc ?_ (by simp <;> omega) _ | refine Below.drew ?_ | refine below_drewN ?_ _)) (hb.mono (by first | exact Nat.le_refl _ | simp))))
           obtain ⟨s0, s1, s2, s3⟩ := X4.out.box
           have hfz4 := X4.out.fz
           clear hb hg2 ho2))
      all_goals (
        go_wp2_with fail
        go_meet
        exact ⟨T1, c1, g1, T2, c2, g2, (X4.out.set2).set3, (Z4.out.far (by omega)).far (by omega), ⟨by omega, by omega, fun q1 q2 e => by have := L1.out q1; omega⟩, own_setP' (own_setP' O1b.out (fun _ => by omega)) (fun _ => by omega), own_setP' (own_setP' O2.out (fun _ => by omega)) (fun _ => by omega), (by repeat (first | exact Below.refl _ _ | exact Hid.out (by assumption) | refine below_alloc ?_ _ | refine Below.setCell ?_ (by simp <;> omega) _ | refine Below.alloc ?_ (by simp <;> omega) _ | refine Below.drew ?_ | refine below_drewN ?_ _))⟩)
    case rest =>
    obtain ⟨T1, c1, g1, T2, c2, g2, hbx, hzz, hgg, o1, o2, hbb⟩ := hcut
    have BX := Lib.hid hbx
    have ZX := Lib.hid hzz
    have GG := Lib.hid hgg
    have O1 := Lib.hid (show OwnC wc g1 T1 (n * 4) (partTurn f 0) from o1.congr fun i hi => by unfold partTurn; rw [if_neg (by omega)])
    have O2 := Lib.hid o2
    have NB := Lib.hid hbb
    clear hbx hzz hgg o1 o2 hbb x0 x1 x2 x3 hfz X1 Z1 N1
    obtain ⟨y0, y1, y2, y3⟩ := BX.out.box
    have hfy := BX.out.fz
    go_wp2_with fail
    go_loopw [4, 5, 21] (fun _ _ i wr => ∃ k : Nat, k ≤ n ∧ i = .int .i64 k ∧ Hid (Below w.heap.size w wr) ∧ Hid (BoxF4 wr w.heap.size (.int .i64 s) (.int .i64 l) (.slice T1 n c1) (.slice T2 m c2)) ∧ Hid (BoxF4 wr (w.heap.size + 1) (.int .i64 0) (.int .i64 0) (.slice none 0 0) (.slice none 0 0)) ∧
      Hid (OwnC wr g1 T1 (n * 4) (partTurn f k)) ∧ Hid (OwnC wr g2 T2 m (fun i => .bool (g i)))) (fun _ _ i _ => n - (intOf i).toNat)
    case atStart => exact ⟨0, Nat.zero_le _, rfl, NB.out, BX.out, ZX.out, O1.out, O2.out⟩
    case round =>
      obtain ⟨k, hk, rfl, HB0, CX, CZ, HP, HQ⟩ := hrel
      clear y0 y1 y2 y3 hfy
      by_cases hlt : k < n
      · have d1 : (k : Int) < n := by omega
        obtain ⟨x, rfl, hxg, -, -⟩ := HP.out (k * 4) (by omega)
        have hd : ∀ j, j < 4 → wr.frozen? (x.add (k * 4 + j)) = false ∧ wr.cell? (x.add (k * 4 + j)) = some (.int .i64 (f (k * 4 + j))) := fun j hj => by
          obtain ⟨y, hy, _, h3, h4⟩ := HP.out (k * 4 + j) (by omega)
          cases hy
          unfold partTurn at h4
          rw [if_neg (by omega)] at h4
          exact ⟨h3, h4⟩
        obtain ⟨f0, t0⟩ := hd 0 (by omega)
        obtain ⟨f1, t1⟩ := hd 1 (by omega)
        obtain ⟨f2, t2⟩ := hd 2 (by omega)
        obtain ⟨f3, t3⟩ := hd 3 (by omega)
        rw [Nat.add_zero] at f0 t0
        rw [← add_add', add_pos (by omega)] at f1 t1 f2 t2 f3 t3
        have hlt2 := World.block_lt_of_cell? _ _ t2
        have hlt3 := World.block_lt_of_cell? _ _ t3
        have y2 : ∀ o, (wr.alloc o).frozen? ⟨(x.add (k * 4)).block, (x.add (k * 4)).off + 2, none⟩ = false := fun o => by rw [((Below.refl _ _).alloc (Nat.le_refl _) o : Below wr.heap.size wr _).frozen hlt2]; exact f2
        have y3 : ∀ o, (wr.alloc o).frozen? ⟨(x.add (k * 4)).block, (x.add (k * 4)).off + 3, none⟩ = false := fun o => by rw [((Below.refl _ _).alloc (Nat.le_refl _) o : Below wr.heap.size wr _).frozen hlt3]; exact f3
        have w2 : ∀ o, (wr.alloc o).cell? ⟨(x.add (k * 4)).block, (x.add (k * 4)).off + 2, none⟩ = some (.int .i64 (f (k * 4 + 2))) := fun o => by rw [World.cell?_alloc_lt _ _ _ hlt2]; exact t2
        have w3 : ∀ o, (wr.alloc o).cell? ⟨(x.add (k * 4)).block, (x.add (k * 4)).off + 3, none⟩ = some (.int .i64 (f (k * 4 + 3))) := fun o => by rw [World.cell?_alloc_lt _ _ _ hlt3]; exact t3
        have z2 := fun o => (CX.out.alloc o).box.c2
        have nb : ¬ (x.add (k * 4)).block = w.heap.size := by rw [block_add, hxg]; have := GG.out.1; have := NB.out.size; omega
        have nb2 : ¬ w.heap.size = (x.add (k * 4)).block := fun e => nb e.symm
        have z4 := fun j v o => ((CX.out.far (q := (x.add (k * 4)).block) (j := j) (u := v) nb).alloc o).box.c2
        have z5 := fun j v => (CX.out.far (q := (x.add (k * 4)).block) (j := j) (u := v) nb).box.c2
        have z6 := CX.out.box.c2
        have HX := Lib.hid hxg
        have HS := Lib.hid (by
          have b1 := OwnC.set HP.out rfl (k := k * 4 + 2) (by omega) (.int .i64 (f (k * 4 + 3)))
          have b2 := OwnC.set b1 rfl (k := k * 4 + 3) (by omega) (.int .i64 (f (k * 4 + 2)))
          rw [← add_add' x (k * 4) 2, add_pos (a := x.add (k * 4)) (j := 2) (by omega), ← add_add' x (k * 4) 3, add_pos (a := x.add (k * 4)) (j := 3) (by omega), partTurn_step] at b2
          exact b2)
        have nb3 : (x.add (k * 4)).block ≠ w.heap.size + 1 := by rw [block_add, hxg]; have := GG.out.1; omega
        have hge : w.heap.size ≤ (x.add (k * 4)).block := by rw [block_add, hxg]; have := GG.out.1; omega
        have HBx := Lib.hid (fun v1 v2 o => Below.drew (Below.alloc ((HB0.out.setCell (p := ⟨(x.add (k * 4)).block, (x.add (k * 4)).off + 2, none⟩) hge v1).setCell (p := ⟨(x.add (k * 4)).block, (x.add (k * 4)).off + 3, none⟩) hge v2) (by simp only [World.size_setCell]; exact HB0.out.size) o))
        have bd := Lib.hid (fun (W : World) o => (Below.drew ((Below.refl W.heap.size W).alloc (Nat.le_refl _) o) : Below W.heap.size W (W.alloc o).drew))
        have hg2 : 0 < m → g2 ≠ (x.add (k * 4)).block := fun q e => by rw [block_add, hxg] at e; exact GG.out.2.2 (by omega) q e.symm
        clear hd hxg
        go_upto_region 7 with fail
        go_region
        all_goals (
          go_wp2_with fail
          exact ⟨⟨k + 1, by omega, by simp, HBx.out _ _ _, ((CX.out.far nb).far nb).below (bd.out _ _), ((CZ.out.far nb3).far nb3).below (bd.out _ _), HS.out.below (bd.out _ _), (own_setP' (own_setP' HQ.out hg2) hg2).below (bd.out _ _)⟩, by simp [intOf]; omega⟩)
      · have d1 : ¬ (k : Int) < n := by omega
        have e : k = n := by omega
        subst e
        have P1 := Lib.hid (show OwnC wr g1 T1 (k * 4) (fun i => .int .i64 (turnF f i)) from HP.out.congr fun i hi => by unfold partTurn; rw [if_pos hi])
        obtain ⟨y0, y1, y2, y3⟩ := CX.out.box
        have hfy := CX.out.fz
        obtain ⟨k0, k1, k2, k3⟩ := CZ.out.box
        have hfz := CZ.out.fz
        go_wp2_with fail
        refine bodyPost_ret (v := .tuple #[.agg #[.int .i64 s, .int .i64 l, .slice T1 k c1, .slice T2 m c2], .bool true]) ?r1 rfl ?r2
        case r1 => simp [results, Try.results34, go_sem, k0, k1, k2, k3]
        case r2 =>
          obtain ⟨q1, q2, q3⟩ := GG.out
          exact SidedRes.make (lo := w1.heap.size) (by omega) q1 q2 q3 (own_set4P P1.out (fun _ => by omega)) (own_set4P HQ.out (fun _ => by omega)) (by repeat (first | exact Below.refl _ _ | exact Hid.out (by assumption) | refine below_alloc ?_ _ | refine Below.setCell ?_ (by simp <;> omega) _ | refine Below.alloc ?_ (by simp <;> omega) _ | refine Below.drew ?_ | refine below_drewN ?_ _))
end Go.Proofs.Ytdgegekjjnghmaa
