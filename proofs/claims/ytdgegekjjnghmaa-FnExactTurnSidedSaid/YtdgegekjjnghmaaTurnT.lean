/- Machines with their sides exchanged: the reference's. -/
import Derived.Test.YtdgegekjjnghmaaTurnS
set_option linter.unusedVariables false
namespace Go.Proofs.Ytdgegekjjnghmaa
open Go.RowKit

def lit4 (a b c d : Value) (j : Nat) : Value := if j = 0 then a else if j = 1 then b else if j = 2 then c else d
/-- A literal of one arc. -/
theorem cells_lit4 {w : World} {t : TypeId} {a b c d : Value} {N : Nat} (h : w.heap.size = N) : Cells (w.alloc (.cells #[a, b, c, d] t)) (some ⟨N, 0, none⟩) (1 * 4) (lit4 a b c d) := by
  subst h
  intro k hk
  have : k = 0 ∨ k = 1 ∨ k = 2 ∨ k = 3 := by omega
  rcases this with rfl | rfl | rfl | rfl <;> exact ⟨_, rfl, by rw [add0]; simp [go_sem, lit4]⟩
theorem lit4_one {a b c d : Value} (ha : a.oneCell' = true) (hb : b.oneCell' = true) (hc : c.oneCell' = true) (hd : d.oneCell' = true) (j : Nat) : (lit4 a b c d j).oneCell' = true := by
  unfold lit4
  split
  · exact ha
  · split
    · exact hb
    · split
      · exact hc
      · exact hd

set_option maxRecDepth 20000 in
set_option maxHeartbeats 8000000 in
theorem specTurnSided_any (s l : Int) (A B : Option Addr) (n c m d : Nat) (f : Nat → Int) (g : Nat → Bool) (w : World) (hn : n ≤ 1048576) (hm : m ≤ 1048576) (hA : Cells w A (n * 4) (fun i => .int .i64 (f i))) (hB : Cells w B m (fun i => .bool (g i))) :
    Calls Try.prog 33 #[.agg #[.int .i64 s, .int .i64 l, .slice A n c, .slice B m d]] w fun e w' =>
      SidedRes w w' e (validS s l n m f) (ifI (validS s l n m f) s) (ifI (validS s l n m f) l) (ifN (validS s l n m f) n) (ifN (validS s l n m f) m) (turnF f) g := by
  obtain ⟨ia, hia, hza, hsa, hba⟩ := info_parts infoPairArc
  obtain ⟨ib, hib, hzb, hsb, hbb⟩ := info_parts infoB
  have HA := Lib.hid hA
  have HB := Lib.hid hB
  have HL := Lib.hid (fun P W h1 b => l05Sided_any P s l A B n c m d f W hn hm h1 b)
  clear hA hB
  generalize validS s l n m f = v at *
  go_enter Try.func33, Try.ntmps33
  go_wp2_with fail
  refine (HL.out w.heap.size _ (HA.out.below (by repeat (first | exact Below.refl _ _ | exact Hid.out (by assumption) | refine below_alloc ?_ _ | refine Below.setCell ?_ (by simp <;> omega) _ | refine Below.alloc ?_ (by simp <;> omega) _ | refine Below.drew ?_ | refine below_drewN ?_ _))) ((Box4.new w 30 _ _ _ _).alloc _)).mono ?_
  rintro e w1 ⟨rfl, q0, hw1⟩
  have N1 := Lib.hid (show Below w.heap.size w w1 by rw [hw1]; exact (by repeat (first | exact Below.refl _ _ | exact Hid.out (by assumption) | refine below_alloc ?_ _ | refine Below.setCell ?_ (by simp <;> omega) _ | refine Below.alloc ?_ (by simp <;> omega) _ | refine Below.drew ?_ | refine below_drewN ?_ _)))
  have hz1 : w.heap.size + 2 ≤ w1.heap.size := by rw [hw1]; simp
  have X1 := Lib.hid (show BoxF4 w1 w.heap.size (.int .i64 s) (.int .i64 l) (.slice A n c) (.slice B m d) by rw [hw1]; exact ((BoxF4.new w 30 (.int .i64 s) (.int .i64 l) (.slice A n c) (.slice B m d)).alloc _).drewN q0)
  have Z1 := Lib.hid (show BoxF4 w1 (w.heap.size + 1) (.int .i64 0) (.int .i64 0) (.slice none 0 0) (.slice none 0 0) by
    rw [hw1]
    exact (show BoxF4 _ (w.heap.size + 1) _ _ _ _ from by simpa using (BoxF4.new (w.alloc (.cells #[.int .i64 s, .int .i64 l, .slice A n c, .slice B m d] 30)) 30 (.int .i64 0) (.int .i64 0) (.slice none 0 0) (.slice none 0 0))).drewN q0)
  clear hw1
  obtain ⟨x0, x1, x2, x3⟩ := X1.out.box
  cases v
  · obtain ⟨k0, k1, k2, k3⟩ := Z1.out.box
    have hfz := Z1.out.fz
    go_wp2_with fail
    refine bodyPost_ret (v := .tuple #[.agg #[.int .i64 0, .int .i64 0, .slice none 0 0, .slice none 0 0], .bool false]) ?r1 rfl ?r2
    case r1 => simp [results, Try.results33, go_sem, k0, k1, k2, k3]
    case r2 => exact SidedRes.none_ rfl (by repeat (first | exact Below.refl _ _ | exact Hid.out (by assumption) | refine below_alloc ?_ _ | refine Below.setCell ?_ (by simp <;> omega) _ | refine Below.alloc ?_ (by simp <;> omega) _ | refine Below.drew ?_ | refine below_drewN ?_ _))
  · have X := Lib.hid X1.out.box
    have NP := Lib.hid (show ∀ q, w1.heap.size ≤ q → q ≠ w.heap.size from fun q hq e => by omega)
    go_upto_region 3 with fail
    go_cut [4] from 10 to 18 (fun s4 wx => ∃ (p : Nat) (B2 : Option Addr) (d2 gb : Nat), s4 = .pointer (some ⟨p, 0, none⟩) ∧ w1.heap.size ≤ p ∧ BoxF4 wx p (.int .i64 s) (.int .i64 l) (.slice none 0 0) (.slice B2 m d2) ∧
      w1.heap.size ≤ gb ∧ (0 < m → gb ≠ p) ∧ OwnC wx gb B2 m (fun i => .bool (g i)) ∧ Below w1.heap.size w1 wx)
    case first =>
      go_region_held_law (fun w' => w'.cell? ⟨w.heap.size, 0, none⟩ = some (.int .i64 s) ∧ w'.cell? ⟨w.heap.size, 1, none⟩ = some (.int .i64 l) ∧ w'.cell? ⟨w.heap.size, 3, none⟩ = some (.slice B m d))
        (first
          | (with_reducible exact ⟨X.out.c0, X.out.c1, X.out.c3⟩)
          | (with_reducible exact ⟨(X.out.alloc _).c0, (X.out.alloc _).c1, (X.out.alloc _).c3⟩)
          | (with_reducible exact ⟨((X.out.alloc _).alloc _).c0, ((X.out.alloc _).alloc _).c1, ((X.out.alloc _).alloc _).c3⟩)
          | (with_reducible exact ⟨X.out.drew.c0, X.out.drew.c1, X.out.drew.c3⟩)
          | (with_reducible exact ⟨(X.out.alloc _).drew.c0, (X.out.alloc _).drew.c1, (X.out.alloc _).drew.c3⟩)
          | (with_reducible exact ⟨((X.out.alloc _).alloc _).drew.c0, ((X.out.alloc _).alloc _).drew.c1, ((X.out.alloc _).alloc _).drew.c3⟩)
          | (with_reducible exact ⟨X2.out.c0, X2.out.c1, X2.out.c3⟩)
          | (with_reducible exact ⟨(X2.out.alloc _).c0, (X2.out.alloc _).c1, (X2.out.alloc _).c3⟩)
          | (with_reducible exact ⟨(X2.out.far4 (NP.out _ (by omega))).c0, (X2.out.far4 (NP.out _ (by omega))).c1, (X2.out.far4 (NP.out _ (by omega))).c3⟩)
          | (with_reducible exact ⟨((X2.out.alloc _).far4 (NP.out _ (by omega))).c0, ((X2.out.alloc _).far4 (NP.out _ (by omega))).c1, ((X2.out.alloc _).far4 (NP.out _ (by omega))).c3⟩)
          | fail)
        (first
          | (refine step_append_cells _ rfl (.tmp 14) (.tmp 16) 23 rfl w1.heap.size 4 ib (.bool false) 1 1 Try.underlying23 hib hzb hsb hbb rfl (by decide) (.slice (some ⟨w1.heap.size, 0, none⟩) 0 0) 0 [] rfl (lit0 (by first | exact lit_last (by simp) | exact lit_prev (by simp)) (by omega))
               B m d (fun i => .bool (g i)) rfl (by rw [Nat.mul_one]; exact HB.out.below (by repeat (first | exact Below.refl _ _ | exact Hid.out (by assumption) | refine below_alloc ?_ _ | refine Below.setCell ?_ (by simp <;> omega) _ | refine Below.alloc ?_ (by simp <;> omega) _ | refine Below.drew ?_ | refine below_drewN ?_ _))) (fun _ _ => rfl) (by unfold maxLen; omega) (by omega) (by simp <;> omega) ?_
             intro v2 w2 hown hgrow hwhere
             have N2 := Lib.hid (show Below w1.heap.size w1 w2 from Below.grown (by repeat (first | exact Below.refl _ _ | exact Hid.out (by assumption) | refine below_alloc ?_ _ | refine Below.setCell ?_ (by simp <;> omega) _ | refine Below.alloc ?_ (by simp <;> omega) _ | refine Below.drew ?_ | refine below_drewN ?_ _)) hgrow (by simp <;> omega) (fun j hj => by cases hj; first | omega | (simp; done) | (simp; omega)))
             have X2 := Lib.hid (X.out.below N2.out)
             obtain ⟨hk1, hk2⟩ := grown_cell hgrow
             have hs2 := hgrow.size
             obtain ⟨B2, d2, gb, rfl, hgb0, hgb, ho⟩ := OwnC.of_rowB hown
             have O2 := Lib.hid (show OwnC w2 gb B2 m (fun i => .bool (g i)) by
               rw [Nat.zero_add, Nat.mul_one] at ho
               exact ho.congr fun j hj => by simp only [List.nil_append]; exact listV_getD _ (by omega))
             have HG := Lib.hid hgb0
             have HW := Lib.hid (And.intro hgb hwhere)
             have HB2 := Lib.hid (show 0 < m → gb < w2.heap.size from O2.out.lt)
             rw [Nat.zero_add]
             clear hown hgrow hgb0 ho hgb hwhere)
          | (refine step_append_cells _ rfl (.tmp 14) (.tmp 16) 23 rfl w1.heap.size 4 ib (.bool false) 1 1 Try.underlying23 hib hzb hsb hbb rfl (by decide) (.slice (some ⟨w1.heap.size + 1, 0, none⟩) 0 0) 0 [] rfl (lit0 (by first | exact lit_last (by simp) | exact lit_prev (by simp)) (by omega))
               B m d (fun i => .bool (g i)) rfl (by rw [Nat.mul_one]; exact HB.out.below (by repeat (first | exact Below.refl _ _ | exact Hid.out (by assumption) | refine below_alloc ?_ _ | refine Below.setCell ?_ (by simp <;> omega) _ | refine Below.alloc ?_ (by simp <;> omega) _ | refine Below.drew ?_ | refine below_drewN ?_ _))) (fun _ _ => rfl) (by unfold maxLen; omega) (by omega) (by simp <;> omega) ?_
             intro v2 w2 hown hgrow hwhere
             have N2 := Lib.hid (show Below w1.heap.size w1 w2 from Below.grown (by repeat (first | exact Below.refl _ _ | exact Hid.out (by assumption) | refine below_alloc ?_ _ | refine Below.setCell ?_ (by simp <;> omega) _ | refine Below.alloc ?_ (by simp <;> omega) _ | refine Below.drew ?_ | refine below_drewN ?_ _)) hgrow (by simp <;> omega) (fun j hj => by cases hj; first | omega | (simp; done) | (simp; omega)))
             have X2 := Lib.hid (X.out.below N2.out)
             obtain ⟨hk1, hk2⟩ := grown_cell hgrow
             have hs2 := hgrow.size
             obtain ⟨B2, d2, gb, rfl, hgb0, hgb, ho⟩ := OwnC.of_rowB hown
             have O2 := Lib.hid (show OwnC w2 gb B2 m (fun i => .bool (g i)) by
               rw [Nat.zero_add, Nat.mul_one] at ho
               exact ho.congr fun j hj => by simp only [List.nil_append]; exact listV_getD _ (by omega))
             have HG := Lib.hid hgb0
             have HW := Lib.hid (And.intro hgb hwhere)
             have HB2 := Lib.hid (show 0 < m → gb < w2.heap.size from O2.out.lt)
             rw [Nat.zero_add]
             clear hown hgrow hgb0 ho hgb hwhere))
      all_goals (
        go_wp2_with fail
        go_meet
        first
          | (refine ⟨w2.heap.size, B2, d2, gb, rfl, N2.out.size, BoxF4.new _ _ _ _ _ _, HG.out, fun hn0 => ?a6, O2.out.below ((Below.refl _ _).alloc (Nat.le_refl _) _), (by repeat (first | exact Below.refl _ _ | exact Hid.out (by assumption) | refine below_alloc ?_ _ | refine Below.setCell ?_ (by simp <;> omega) _ | refine Below.alloc ?_ (by simp <;> omega) _ | refine Below.drew ?_ | refine below_drewN ?_ _))⟩
             case a6 => have := HB2.out hn0; omega)
          | (refine ⟨w1.heap.size + 1, B2, d2, gb, rfl, by omega, ⟨box_put4 fun j hj => ?b1, fun j => ?b2⟩, HG.out, ?b6, own_set4P O2.out ?b6, (by repeat (first | exact Below.refl _ _ | exact Hid.out (by assumption) | refine below_alloc ?_ _ | refine Below.setCell ?_ (by simp <;> omega) _ | refine Below.alloc ?_ (by simp <;> omega) _ | refine Below.drew ?_ | refine below_drewN ?_ _))⟩
             case b1 =>
               rw [hk1 _ _ (by simp <;> omega) (by omega)]
               have : j = 0 ∨ j = 1 ∨ j = 2 ∨ j = 3 := by omega
               rcases this with rfl | rfl | rfl | rfl <;> simp [go_sem]
             case b2 => rw [set4_frozen, hk2 _ _ (by simp <;> omega) (by omega)]; simp [go_sem]
             case b6 =>
               intro hn0
               obtain ⟨q1, q2⟩ := HW.out
               rw [q1 (by omega)] at q2
               simp [Value.ownBlock] at q2
               omega)
          | (refine ⟨w1.heap.size, B2, d2, gb, rfl, by omega, ⟨box_put4 fun j hj => ?b1, fun j => ?b2⟩, HG.out, ?b6, own_set4P O2.out ?b6, (by repeat (first | exact Below.refl _ _ | exact Hid.out (by assumption) | refine below_alloc ?_ _ | refine Below.setCell ?_ (by simp <;> omega) _ | refine Below.alloc ?_ (by simp <;> omega) _ | refine Below.drew ?_ | refine below_drewN ?_ _))⟩
             case b1 =>
               rw [hk1 _ _ (by simp <;> omega) (by omega)]
               have : j = 0 ∨ j = 1 ∨ j = 2 ∨ j = 3 := by omega
               rcases this with rfl | rfl | rfl | rfl <;> simp [go_sem]
             case b2 => rw [set4_frozen, hk2 _ _ (by simp <;> omega) (by omega)]; simp [go_sem]
             case b6 =>
               intro hn0
               obtain ⟨q1, q2⟩ := HW.out
               rw [q1 (by omega)] at q2
               simp [Value.ownBlock] at q2
               omega))
    case rest =>
    obtain ⟨p, B2, d2, gb, rfl, hp, hbx, hgb, hgp, ho, hbb⟩ := hcut
    have NB := Lib.hid hbb
    have BX := Lib.hid hbx
    have O2 := Lib.hid ho
    have GB := Lib.hid (show w1.heap.size ≤ p ∧ w1.heap.size ≤ gb ∧ (0 < m → gb ≠ p) ∧ p < wc.heap.size ∧ (0 < m → gb < wc.heap.size) from ⟨hp, hgb, hgp, hbx.lt, ho.lt⟩)
    have XC := Lib.hid (X1.out.below hbb)
    have ZC := Lib.hid (Z1.out.below hbb)
    clear hp hbx hgb hgp ho hbb x0 x1 x2 x3 X
    obtain ⟨x0, x1, x2, x3⟩ := XC.out.box
    have R1 := Lib.hid (show RowV wc wc.heap.size 83 4 (.slice none 0 0) 0 (fun i => .int .i64 (turnF f i)) p from ⟨⟨by simp [listV], .inl ⟨rfl, rfl⟩⟩, by simp [Value.ownBlock]⟩)
    go_wp2_with fail
    go_loopw [5, 6, 22] (fun _ _ i wr => ∃ (k : Nat) (v : Value), k ≤ n ∧ i = .int .i64 k ∧ Hid (Below w1.heap.size w1 wr) ∧ Hid (wc.heap.size ≤ wr.heap.size) ∧ Hid (BoxF4 wr p (.int .i64 s) (.int .i64 l) v (.slice B2 m d2)) ∧
      Hid (RowV wr wc.heap.size 83 4 v k (fun i => .int .i64 (turnF f i)) p) ∧ Hid (OwnC wr gb B2 m (fun i => .bool (g i)))) (fun _ _ i _ => n - (intOf i).toNat)
    case atStart => exact ⟨0, _, Nat.zero_le _, rfl, NB.out, Nat.le_refl _, BX.out, R1.out, O2.out⟩
    case round =>
      obtain ⟨k, v, hk, rfl, HB1, HS1, HY, HR, HQ⟩ := hrel
      have XR := Lib.hid (X1.out.below HB1.out)
      have ZR := Lib.hid (Z1.out.below HB1.out)
      have NR := Lib.hid (N1.out.trans (HB1.out.mono N1.out.size))
      clear x0 x1 x2 x3
      obtain ⟨x0, x1, x2, x3⟩ := XR.out.box
      by_cases hlt : k < n
      · have d1 : (k : Int) < n := by omega
        obtain ⟨x, rfl, -⟩ := HA.out (k * 4) (by omega)
        obtain ⟨p0, p1, p2, p3⟩ := four (wr := wr) HA.out hlt fun p hp => NR.out.cell hp
        have a2 := XR.out.box.a2
        have b2 := HY.out.box.a2
        have hzr : p < wr.heap.size := HY.out.lt
        have GQ := GB.out
        obtain ⟨gq1, gq2, gq3, gq4, gq5⟩ := GQ
        have HWS := HS1.out
        go_wp2_with (first
          | (at_builtin
             refine wpList_append_cells _ rfl _ _ 28 rfl wc.heap.size 83 ia (.agg #[.int .i64 0, .int .i64 0, .int .i64 0, .int .i64 0]) 4 32 Try.underlying28 hia hza hsa hba rfl (by decide) v k _ rfl ((HR.out.alloc _).alloc _).own
               (some ⟨wr.heap.size + 1, 0, none⟩) 1 1 (lit4 (.int .i64 (f (k * 4))) (.int .i64 (f (k * 4 + 1))) (.int .i64 (f (k * 4 + 3))) (.int .i64 (f (k * 4 + 2)))) rfl (cells_lit4 (by simp)) (fun j _ => lit4_one rfl rfl rfl rfl j) (by unfold maxLen; omega) (by omega) (by simp <;> omega) ?_
             intro v1 w2 hown hgrow hwhere
             have HR2 := Lib.hid (show RowV w2 wc.heap.size 83 4 v1 (k + 1) (fun i => .int .i64 (turnF f i)) p from
               ⟨by rw [listV_four k (fun i => .int .i64 (turnF f i)) _ (by simp [lit4, turnF0]) (by simp [lit4, turnF1]) (by simp [lit4, turnF2]) (by simp [lit4, turnF3])] at hown; exact hown,
                fun e => by rcases hwhere with h | h
                            · exact HR.out.ne (h ▸ e)
                            · rw [h] at e; simp at e; omega⟩)
             have HY2 := Lib.hid (BoxF4.grown ((HY.out.alloc _).alloc _) hgrow (fun e => HR.out.ne e.symm))
             have HB2 := Lib.hid (show Below w1.heap.size w1 w2 from Below.grown (Below.alloc (Below.alloc HB1.out HB1.out.size _) (by have := HB1.out.size; simp; omega) _) hgrow (by have := HB1.out.size; simp; omega) (fun j hj => Nat.le_trans NB.out.size (HR.out.own.lt j hj).1))
             have HQ2 := Lib.hid (show OwnC w2 gb B2 m (fun i => .bool (g i)) from OwnC.keepH ((HQ.out.below ((Below.refl _ _).alloc (Nat.le_refl _) _)).below ((Below.refl _ _).alloc (Nat.le_refl _) _)) fun hm0 => hgrow.block gb (by have := gq5 hm0; simp; omega) (fun e => by have := (HR.out.own.lt gb e.symm).1; have := gq5 hm0; omega))
             have HS2 := Lib.hid (show wc.heap.size ≤ w2.heap.size by have := hgrow.size; simp at this; omega)
             obtain ⟨A1, c1, g1, rfl, -⟩ := HR2.out.ownC
             have z2 := HY2.out.fz 2
             obtain ⟨w20, w21, w22, w23⟩ := HY2.out.box
             clear hown hgrow hwhere)
          | go_in)
        exact ⟨⟨k + 1, _, by omega, by simp, HB2.out.setCell gq1 _, by simp only [World.size_setCell]; exact HS2.out, HY2.out.set2, HR2.out.setP 2 _, own_setP' HQ2.out gq3⟩, by simp [intOf]; omega⟩
      · have d1 : ¬ (k : Int) < n := by omega
        have e : k = n := by omega
        subst e
        obtain ⟨y0, y1, y2, y3⟩ := HY.out.box
        obtain ⟨k0, k1, k2, k3⟩ := ZR.out.box
        have hfz := ZR.out.fz
        obtain ⟨A1, c1, g1, rfl, hg1, hgp1, ho1⟩ := HR.out.ownC
        have O1 := Lib.hid ho1
        have G1 := Lib.hid hg1
        clear ho1 hg1 hgp1
        go_wp2_with fail
        refine bodyPost_ret (v := .tuple #[.agg #[.int .i64 s, .int .i64 l, .slice A1 k c1, .slice B2 m d2], .bool true]) ?r1 rfl ?r2
        case r1 => simp [results, Try.results33, go_sem, k0, k1, k2, k3]
        case r2 =>
          obtain ⟨q1, q2, q3, q4, q5⟩ := GB.out
          have q6 := G1.out
          exact SidedRes.make (lo := w1.heap.size) (by omega) (by omega) q2 (fun _ hm0 e => by have := q5 hm0; omega) (own_set4P O1.out (fun _ => by omega)) (own_set4P HQ.out (fun _ => by omega)) (by repeat (first | exact Below.refl _ _ | exact Hid.out (by assumption) | refine below_alloc ?_ _ | refine Below.setCell ?_ (by simp <;> omega) _ | refine Below.alloc ?_ (by simp <;> omega) _ | refine Below.drew ?_ | refine below_drewN ?_ _))
end Go.Proofs.Ytdgegekjjnghmaa
