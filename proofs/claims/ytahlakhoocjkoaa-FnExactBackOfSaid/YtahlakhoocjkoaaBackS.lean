/- A machine that reads words backwards: the reference's. -/
import Derived.Test.YtahlakhoocjkoaaBoxF
set_option linter.unusedVariables false
namespace Go.Proofs.Ytahlakhoocjkoaa
open Go.RowKit

/-- An arc turned, as four cells. -/
def turnV (f : Nat → Int) (k : Nat) (j : Nat) : Value := .int .i64 (backF f (k * 4 + j))
theorem turnV0 (f : Nat → Int) (k : Nat) : backF f (k * 4) = f (k * 4 + 1) := by unfold backF; rw [if_pos (by omega)]
theorem turnV1 (f : Nat → Int) (k : Nat) : backF f (k * 4 + 1) = f (k * 4) := by unfold backF; rw [if_neg (by omega), if_pos (by omega)]; rfl
theorem turnV2 (f : Nat → Int) (k : Nat) : backF f (k * 4 + 2) = f (k * 4 + 2) := by unfold backF; rw [if_neg (by omega), if_neg (by omega)]
theorem turnV3 (f : Nat → Int) (k : Nat) : backF f (k * 4 + 3) = f (k * 4 + 3) := by unfold backF; rw [if_neg (by omega), if_neg (by omega)]
def lit4 (a b c d : Value) (j : Nat) : Value := if j = 0 then a else if j = 1 then b else if j = 2 then c else d
/-- A literal of one arc. -/
theorem cells_lit4 {w : World} {t : TypeId} {a b c d : Value} {N : Nat} (h : w.heap.size = N) : Cells (w.alloc (.cells #[a, b, c, d] t)) (some ⟨N, 0, none⟩) (1 * 4) (lit4 a b c d) := by
  subst h
  intro k hk
  have : k = 0 ∨ k = 1 ∨ k = 2 ∨ k = 3 := by omega
  rcases this with rfl | rfl | rfl | rfl <;> exact ⟨_, rfl, by rw [add0]; simp [go_sem, lit4]⟩
theorem lit4_one {a b c d : Value} (ha : a.oneCell' = true) (hb : b.oneCell' = true) (hc : c.oneCell' = true) (hd : d.oneCell' = true) (j : Nat) : (lit4 a b c d j).oneCell' = true := by
  unfold lit4
  split
  · exact ha
  · split
    · exact hb
    · split
      · exact hc
      · exact hd

set_option maxRecDepth 20000 in
set_option maxHeartbeats 8000000 in
theorem specBackOf_any (s l : Int) (A B C : Option Addr) (n c m d o q : Nat) (f g h : Nat → Int) (w : World) (hn : n ≤ 1048576) (hm : m ≤ 1048576) (ho : o ≤ 1048576) (hA : Cells w A (n * 4) (fun i => .int .i64 (f i))) (hB : Cells w B m (fun i => .int .i64 (g i))) (hC : Cells w C o (fun i => .int .i64 (h i))) :
    Calls Try.prog 34 #[.agg #[.int .i64 s, .int .i64 l, .slice A n c, .slice B m d, .slice C o q]] w fun e w' =>
      MachRes w w' e (validM s l n m o f g h) (ifI (validM s l n m o f g h) s) (ifI (validM s l n m o f g h) l) (ifN (validM s l n m o f g h) n) (ifN (validM s l n m o f g h) o) (ifN (validM s l n m o f g h) m) (backF f) h g := by
  obtain ⟨ia, hia, hza, hsa, hba⟩ := info_parts infoCA
  obtain ⟨ii, hii, hzi, hsi, hbi⟩ := info_parts infoCI
  have HA := Lib.hid hA
  have HB := Lib.hid hB
  have HC := Lib.hid hC
  have HL := Lib.hid (fun P W h1 h2 h3 b => l02Is_any P s l A B C n c m d o q f g h W hn hm ho h1 h2 h3 b)
  clear hA hB hC
  generalize validM s l n m o f g h = v at *
  go_enter Try.func34, Try.ntmps34
  go_wp2_with fail
  refine (HL.out w.heap.size _ (HA.out.below (by repeat (first | exact Below.refl _ _ | exact Hid.out (by assumption) | refine below_alloc ?_ _ | refine Below.setCell ?_ (by simp <;> omega) _ | refine Below.alloc ?_ (by simp <;> omega) _ | refine Below.drew ?_ | refine below_drewN ?_ _))) (HB.out.below (by repeat (first | exact Below.refl _ _ | exact Hid.out (by assumption) | refine below_alloc ?_ _ | refine Below.setCell ?_ (by simp <;> omega) _ | refine Below.alloc ?_ (by simp <;> omega) _ | refine Below.drew ?_ | refine below_drewN ?_ _))) (HC.out.below (by repeat (first | exact Below.refl _ _ | exact Hid.out (by assumption) | refine below_alloc ?_ _ | refine Below.setCell ?_ (by simp <;> omega) _ | refine Below.alloc ?_ (by simp <;> omega) _ | refine Below.drew ?_ | refine below_drewN ?_ _))) ((Box5.new w 30 _ _ _ _ _).alloc _)).mono ?_
  rintro e w1 ⟨rfl, hb1⟩
  have N1 := Lib.hid (show Below w.heap.size w w1 from Below.trans (by repeat (first | exact Below.refl _ _ | exact Hid.out (by assumption) | refine below_alloc ?_ _ | refine Below.setCell ?_ (by simp <;> omega) _ | refine Below.alloc ?_ (by simp <;> omega) _ | refine Below.drew ?_ | refine below_drewN ?_ _)) (hb1.mono (by simp <;> omega)))
  have hz1 : w.heap.size + 2 ≤ w1.heap.size := by have := hb1.size; simp at this; omega
  have X1 := Lib.hid (BoxF.below (BoxF.alloc (BoxF.new w 30 (.int .i64 s) (.int .i64 l) (.slice A n c) (.slice B m d) (.slice C o q)) _) hb1)
  have Z1 := Lib.hid (BoxF.below (show BoxF _ (w.heap.size + 1) _ _ _ _ _ from by simpa using (BoxF.new (w.alloc (.cells #[.int .i64 s, .int .i64 l, .slice A n c, .slice B m d, .slice C o q] 30)) 30 (.int .i64 0) (.int .i64 0) (.slice none 0 0) (.slice none 0 0) (.slice none 0 0))) hb1)
  clear hb1
  obtain ⟨x0, x1, x2, x3, x4⟩ := X1.out.box
  have hk : ∀ j, j < 5 → ∃ u, w1.cell? ⟨w.heap.size + 1, j, none⟩ = some u := fun j hj => box_at Z1.out.box hj
  have hfz := Z1.out.fz
  cases v
  · obtain ⟨u0, k0⟩ := hk 0 (by omega)
    obtain ⟨u1, k1⟩ := hk 1 (by omega)
    obtain ⟨u2, k2⟩ := hk 2 (by omega)
    obtain ⟨u3, k3⟩ := hk 3 (by omega)
    obtain ⟨u4, k4⟩ := hk 4 (by omega)
    go_wp2_with fail
    clear hk hfz
    refine bodyPost_ret (v := .tuple #[.agg #[.int .i64 0, .int .i64 0, .slice none 0 0, .slice none 0 0, .slice none 0 0], .bool false]) ?r1 rfl ?r2
    case r1 => simp [results, Try.results34, go_sem, k0, k1, k2, k3, k4]
    case r2 => exact MachRes.none_ rfl (by repeat (first | exact Below.refl _ _ | exact Hid.out (by assumption) | refine below_alloc ?_ _ | refine Below.setCell ?_ (by simp <;> omega) _ | refine Below.alloc ?_ (by simp <;> omega) _ | refine Below.drew ?_ | refine below_drewN ?_ _))
  · clear hk hfz
    have Y1 := Lib.hid (show BoxF _ (w1.heap.size + 1) _ _ _ _ _ from by simpa using (BoxF.new (w1.alloc (.cells #[] 54)) 30 (.int .i64 s) (.int .i64 l) (.slice (some ⟨w1.heap.size, 0, none⟩) 0 0) (.slice none 0 0) (.slice none 0 0)))
    have R1 := Lib.hid (show RowV ((w1.alloc (.cells #[] 54)).alloc (.cells #[.int .i64 s, .int .i64 l, .slice (some ⟨w1.heap.size, 0, none⟩) 0 0, .slice none 0 0, .slice none 0 0] 30)) w1.heap.size 54 4 (.slice (some ⟨w1.heap.size, 0, none⟩) 0 0) 0 (fun i => .int .i64 (backF f i)) (w1.heap.size + 1) from
      RowV.alloc ⟨World.ownsRow_lit w1 #[] 0 (Nat.le_refl _) (by unfold maxLen; omega) rfl, by simp [Value.ownBlock]⟩ _)
    go_wp2_with fail
    go_loopw [5, 6] (fun i _ wr => ∃ (k : Nat) (v : Value), k ≤ n ∧ i = .int .i64 k ∧ Hid (Below w1.heap.size w1 wr) ∧ Hid (BoxF wr (w1.heap.size + 1) (.int .i64 s) (.int .i64 l) v (.slice none 0 0) (.slice none 0 0)) ∧
      Hid (RowV wr w1.heap.size 54 4 v k (fun i => .int .i64 (backF f i)) (w1.heap.size + 1))) (fun i _ _ => n - (intOf i).toNat)
    case atStart => exact ⟨0, _, Nat.zero_le _, rfl, (by repeat (first | exact Below.refl _ _ | exact Hid.out (by assumption) | refine below_alloc ?_ _ | refine Below.setCell ?_ (by simp <;> omega) _ | refine Below.alloc ?_ (by simp <;> omega) _ | refine Below.drew ?_ | refine below_drewN ?_ _)), Y1.out, R1.out⟩
    case round =>
      obtain ⟨k, v, hk, rfl, HB1, HY, HR⟩ := hrel
      have XR := Lib.hid (X1.out.below HB1.out)
      have NR := Lib.hid (N1.out.trans (HB1.out.mono N1.out.size))
      clear x0 x1 x2 x3 x4
      obtain ⟨x0, x1, x2, x3, x4⟩ := XR.out.box
      obtain ⟨y0, y1, y2, y3, y4⟩ := HY.out.box
      by_cases hlt : k < n
      · have d1 : (k : Int) < n := by omega
        obtain ⟨x, rfl, -⟩ := HA.out (k * 4) (by omega)
        obtain ⟨p0, p1, p2, p3⟩ := four (wr := wr) HA.out hlt fun p hp => NR.out.cell hp
        have a2 := XR.out.box.a2
        have b2 := HY.out.box.a2
        have hzr : w1.heap.size + 1 < wr.heap.size := HY.out.lt
        go_wp2_with (first
          | (at_builtin
             refine wpList_append_cells _ rfl _ _ 28 rfl w1.heap.size 54 ia (.agg #[.int .i64 0, .int .i64 0, .int .i64 0, .int .i64 0]) 4 32 Try.underlying28 hia hza hsa hba rfl (by decide) v k _ rfl ((HR.out.alloc _).alloc _).own
               (some ⟨wr.heap.size + 1, 0, none⟩) 1 1 (lit4 (.int .i64 (f (k * 4 + 1))) (.int .i64 (f (k * 4))) (.int .i64 (f (k * 4 + 2))) (.int .i64 (f (k * 4 + 3)))) rfl (cells_lit4 (by simp)) (fun j _ => lit4_one rfl rfl rfl rfl j) (by unfold maxLen; omega) (by omega) (by simp <;> omega) ?_
             intro v1 w2 hown hgrow hwhere
             have HR2 := Lib.hid (show RowV w2 w1.heap.size 54 4 v1 (k + 1) (fun i => .int .i64 (backF f i)) (w1.heap.size + 1) from
               ⟨by rw [listV_four k (fun i => .int .i64 (backF f i)) _ (by simp [lit4, turnV0]) (by simp [lit4, turnV1]) (by simp [lit4, turnV2]) (by simp [lit4, turnV3])] at hown; exact hown,
                fun e => by rcases hwhere with h | h
                            · exact HR.out.ne (h ▸ e)
                            · rw [h] at e; simp at e; omega⟩)
             have HY2 := Lib.hid (BoxF.grown ((HY.out.alloc _).alloc _) hgrow (fun e => HR.out.ne e.symm))
             have HB2 := Lib.hid (show Below w1.heap.size w1 w2 from Below.grown (Below.alloc (Below.alloc HB1.out HB1.out.size _) (by have := HB1.out.size; simp; omega) _) hgrow (by have := HB1.out.size; simp; omega) (fun j hj => (HR.out.own.lt j hj).1))
             obtain ⟨A1, c1, g1, rfl, -⟩ := HR2.out.ownC
             have z2 := HY2.out.fz 2
             obtain ⟨w20, w21, w22, w23, w24⟩ := HY2.out.box
             clear hown hgrow hwhere)
          | go_in)
        exact ⟨⟨k + 1, _, by omega, by simp, HB2.out.setCell (by simp) _, HY2.out.set2, HR2.out.setP 2 _⟩, by simp [intOf]; omega⟩
      · have d1 : ¬ (k : Int) < n := by omega
        have e : k = n := by omega
        subst e
        obtain ⟨A1, c1, g1, rfl, hg1, hgp, ho1⟩ := HR.out.ownC
        have O1 := Lib.hid ho1
        have L1 := Lib.hid (show w1.heap.size ≤ g1 ∧ (0 < k * 4 → g1 ≠ w1.heap.size + 1) ∧ (0 < k * 4 → g1 < wr.heap.size) from ⟨hg1, hgp, ho1.lt⟩)
        have ZR := Lib.hid (Z1.out.below HB1.out)
        have a4 := XR.out.box.a4
        have hzr : w1.heap.size + 1 < wr.heap.size := HY.out.lt
        clear ho1 hg1 hgp HR
        go_wp2_with (first
          | (at_builtin
             refine wpList_append_cells _ rfl _ _ 23 rfl wr.heap.size 2 ii (.int .i64 0) 1 8 Try.underlying23 hii hzi hsi hbi rfl (by decide) (.slice (some ⟨wr.heap.size, 0, none⟩) 0 0) 0 [] rfl (World.ownsRow_lit wr #[] 0 (Nat.le_refl _) (by unfold maxLen; omega) rfl)
               C o q (fun i => .int .i64 (h i)) rfl (by rw [Nat.mul_one]; exact HC.out.below (Below.alloc NR.out NR.out.size _)) (fun _ _ => rfl) (by unfold maxLen; omega) (by omega) (by simp) ?_
             intro v2 w2 hown hgrow hwhere
             have N2 := Lib.hid (show Below wr.heap.size wr w2 from ((Below.refl _ _).alloc (Nat.le_refl _) _).grown hgrow (by simp) (fun j hj => by cases hj; exact Nat.le_refl _))
             obtain ⟨A2, c2, g2, rfl, hg2, ho2⟩ := OwnC.of_rowV hown
             have O2 := Lib.hid (show OwnC w2 g2 A2 o (fun i => .int .i64 (h i)) by
               rw [Nat.zero_add, Nat.mul_one] at ho2
               exact ho2.congr fun j hj => by simp only [List.nil_append]; exact listV_getD _ (by omega))
             have L2 := Lib.hid (show wr.heap.size ≤ g2 ∧ (0 < o → g2 < w2.heap.size) from ⟨hg2, O2.out.lt⟩)
             have HY2 := Lib.hid (HY.out.below N2.out)
             have XS2 := Lib.hid (BoxF.far (q := w1.heap.size + 1) (j := 3) (u := .slice A2 o c2) (XR.out.below N2.out) (by omega))
             have ZS2 := Lib.hid (BoxF.far (q := w1.heap.size + 1) (j := 3) (u := .slice A2 o c2) (ZR.out.below N2.out) (by omega))
             have YS2 := Lib.hid (BoxF.set3 (u := .slice A2 o c2) HY2.out)
             have NW2 := Lib.hid (show Below w.heap.size w w2 from NR.out.trans (N2.out.mono NR.out.size))
             have z3 := HY2.out.fz 3
             obtain ⟨w20, w21, w22, w23, w24⟩ := HY2.out.box
             have m3 := XS2.out.box.a3
             have hz2 : wr.heap.size ≤ w2.heap.size := N2.out.size
             rw [Nat.zero_add]
             clear hown hgrow hwhere hg2 ho2)
          | (at_builtin
             refine wpList_append_cells _ rfl _ _ 23 rfl w2.heap.size 2 ii (.int .i64 0) 1 8 Try.underlying23 hii hzi hsi hbi rfl (by decide) (.slice (some ⟨w2.heap.size, 0, none⟩) 0 0) 0 [] rfl
               (by have := World.ownsRow_lit (base := w2.heap.size) (size := 1) (e := 2) (w2.setCell ⟨w1.heap.size + 1, 3, none⟩ (.slice A2 o c2)) #[] 0 (by simp) (by unfold maxLen; omega) rfl; simpa using this)
               B m d (fun i => .int .i64 (g i)) rfl (by rw [Nat.mul_one]; exact HB.out.below (Below.alloc (NW2.out.setCell (by simp; omega) _) (by have := NW2.out.size; simp; omega) _)) (fun _ _ => rfl) (by unfold maxLen; omega) (by omega) (by simp) ?_
             intro v3 w3 hown hgrow hwhere
             have N3 := Lib.hid (show Below (w2.setCell ⟨w1.heap.size + 1, 3, none⟩ (.slice A2 o c2)).heap.size (w2.setCell ⟨w1.heap.size + 1, 3, none⟩ (.slice A2 o c2)) w3 from ((Below.refl _ _).alloc (Nat.le_refl _) _).grown hgrow (by simp) (fun j hj => by cases hj; simp))
             obtain ⟨A3, c3, g3, rfl, hg3, ho3⟩ := OwnC.of_rowV hown
             have O3 := Lib.hid (show OwnC w3 g3 A3 m (fun i => .int .i64 (g i)) by
               rw [Nat.zero_add, Nat.mul_one] at ho3
               exact ho3.congr fun j hj => by simp only [List.nil_append]; exact listV_getD _ (by omega))
             have L3 := Lib.hid (show w2.heap.size ≤ g3 from hg3)
             have YS3 := Lib.hid (YS2.out.below N3.out)
             have ZS3 := Lib.hid (ZS2.out.below N3.out)
             have YS4 := Lib.hid (BoxF.set4 (u := .slice A3 m c3) YS3.out)
             have ZS4 := Lib.hid (BoxF.far (q := w1.heap.size + 1) (j := 4) (u := .slice A3 m c3) ZS3.out (by omega))
             have NW3 := Lib.hid (show Below w.heap.size w w3 from Below.trans (NW2.out.setCell (p := ⟨w1.heap.size + 1, 3, none⟩) (by simp; omega) (.slice A2 o c2)) (N3.out.mono (by have := NW2.out.size; simp; omega)))
             have z4 := YS3.out.fz 4
             obtain ⟨w30, w31, w32, w33, w34⟩ := YS3.out.box
             obtain ⟨y40, y41, y42, y43, y44⟩ := YS4.out.box
             obtain ⟨s40, s41, s42, s43, s44⟩ := ZS4.out.box
             have t40 := ZS4.out.fz 0
             have t41 := ZS4.out.fz 1
             have t42 := ZS4.out.fz 2
             have t43 := ZS4.out.fz 3
             have t44 := ZS4.out.fz 4
             rw [Nat.zero_add]
             clear hown hgrow hwhere hg3 ho3)
          | go_in)
        have Q1 := Lib.hid (own_setP (q := w1.heap.size + 1) (j := 4) (u := .slice A3 m c3) ((own_setP (j := 3) (u := .slice A2 o c2) (O1.out.below N2.out) L1.out.2.1).below N3.out) L1.out.2.1)
        have Q2 := Lib.hid (own_setP (q := w1.heap.size + 1) (j := 4) (u := .slice A3 m c3) ((own_setP (q := w1.heap.size + 1) (j := 3) (u := .slice A2 o c2) O2.out (fun _ => by have := L2.out.1; omega)).below N3.out) (fun _ => by have := L2.out.1; omega))
        have Q3 := Lib.hid (own_setP (q := w1.heap.size + 1) (j := 4) (u := .slice A3 m c3) O3.out (fun _ => by have := L3.out; omega))
        have NW4 := Lib.hid (NW3.out.setCell (p := ⟨w1.heap.size + 1, 4, none⟩) (by simp; omega) (.slice A3 m c3))
        have L4 := Lib.hid (show w2.heap.size ≤ (w3.setCell ⟨w1.heap.size + 1, 4, none⟩ (.slice A3 m c3)).heap.size by have := N3.out.size; simp at this; simp; omega)
        clear z3 z4 w20 w21 w22 w23 w24 w30 w31 w32 w33 w34 x0 x1 x2 x3 x4 y0 y1 y2 y3 y4 y40 y41 y42 y43 y44 m3 a4 YS3 YS4 ZS3 O1 O2 O3 YS2 XS2 ZS2 NW3 NW2 N3
        generalize w3.setCell ⟨w1.heap.size + 1, 4, none⟩ (.slice A3 m c3) = wc at *
        refine bodyPost_ret (v := .tuple #[.agg #[.int .i64 s, .int .i64 l, .slice A1 k c1, .slice A2 o c2, .slice A3 m c3], .bool true]) ?r1 rfl ?r2
        case r1 => simp [results, Try.results34, go_sem, s40, s41, s42, s43, s44]
        case r2 =>
          have lt1 := Q1.out.lt
          have lt2 := Q2.out.lt
          have lt3 := Q3.out.lt
          obtain ⟨q1, q2, q3⟩ := L1.out
          obtain ⟨q4, q5⟩ := L2.out
          have q6 := L3.out
          obtain ⟨a, b, c', hlo, hne, a1, a2, a3⟩ := rows_apart (g1 := g1) (g2 := g2) (g3 := g3) (n1 := k * 4) (n2 := o) (n3 := m) (lo := w.heap.size + 2) (W := wc.heap.size) (by have := L4.out; omega) (by omega) (by omega) (by omega) lt1 lt2 lt3 (fun h1 _ => by have := q3 h1; omega) (fun h1 _ => by have := q3 h1; omega) (fun h1 _ => by have := q5 h1; omega) Q1.out Q2.out Q3.out
          clear lt1 lt2 lt3 q1 q2 q3 q4 q5 q6 s40 s41 s42 s43 s44 t40 t41 t42 t43 t44
          exact back_end (hi := w.heap.size + 2) (by repeat (first | exact Within.refl _ _ _ | refine Within.trans ?_ (Within.setCell _ (by first | (dsimp only; omega) | omega) (by first | (dsimp only; omega) | omega) _))) (Nat.le_refl _) hlo hne a1 a2 a3 NW4.out
end Go.Proofs.Ytahlakhoocjkoaa
