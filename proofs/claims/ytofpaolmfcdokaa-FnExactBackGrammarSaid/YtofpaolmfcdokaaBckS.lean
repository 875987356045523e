/- The grammar of words backwards: the reference's. -/
import Derived.Test.YtofpaolmfcdokaaBckI
set_option linter.unusedVariables false
namespace Go.Proofs.Ytofpaolmfcdokaa
open Go.RowKit
def lit4 (a b c d : Value) (j : Nat) : Value := if j = 0 then a else if j = 1 then b else if j = 2 then c else d
/-- A literal of one arc. -/
theorem cells_lit4 {w : World} {t : TypeId} {a b c d : Value} {N : Nat} (h : w.heap.size = N) : Cells (w.alloc (.cells #[a, b, c, d] t)) (some ⟨N, 0, none⟩) (1 * 4) (lit4 a b c d) := by
  subst h
  intro k hk
  have : k = 0 ∨ k = 1 ∨ k = 2 ∨ k = 3 := by omega
  rcases this with rfl | rfl | rfl | rfl <;> exact ⟨_, rfl, by rw [add0]; simp [go_sem, lit4]⟩
theorem lit4_one {a b c d : Value} (ha : a.oneCell' = true) (hb : b.oneCell' = true) (hc : c.oneCell' = true) (hd : d.oneCell' = true) (j : Nat) : (lit4 a b c d j).oneCell' = true := by
  unfold lit4
  split
  · exact ha
  · split
    · exact hb
    · split
      · exact hc
      · exact hd

theorem validG_second {s l : Int} {n : Nat} {f : Nat → Int} (h : validG s l n f = true) (k : Nat) (hk : k < n) : f (k * 4 + 2) = -1 ∨ 0 ≤ f (k * 4 + 2) := by
  unfold validG at h
  simp only [Bool.and_eq_true] at h
  have := allQ_iff.1 h.2.2.2 k hk
  unfold ruleB at this
  by_cases hc : f (k * 4 + 2) = -1
  · exact .inl hc
  · rw [if_neg hc] at this
    simp only [Bool.and_eq_true, inB_iff] at this
    exact .inr this.2.2.2.1
set_option maxRecDepth 20000 in
set_option maxHeartbeats 8000000 in
theorem specBackGrammar_any (s l : Int) (A : Option Addr) (n c : Nat) (f : Nat → Int) (w : World) (hn : n ≤ 1048576) (hA : Cells w A (n * 4) (fun i => .int .i64 (f i))) :
    Calls Try.prog 22 #[.agg #[.int .i64 s, .int .i64 l, .slice A n c]] w fun e w' =>
      GrammarRes w w' e (validG s l n f) (ifI (validG s l n f) s) (ifI (validG s l n f) l) (ifN (validG s l n f) n) (backG f) := by
  obtain ⟨ia, hia, hza, hsa, hba⟩ := info_parts infoRule
  have HA := Lib.hid hA
  have HL := Lib.hid (fun P W h1 b => l06Is_any P s l A n c f W hn h1 b)
  have HS2 := Lib.hid (fun h => validG_second (s := s) (l := l) (n := n) (f := f) h)
  clear hA
  generalize validG s l n f = vv at *
  go_enter Try.func22, Try.ntmps22
  go_wp2_with fail
  refine (HL.out w.heap.size _ (HA.out.below (by repeat (first | with_reducible exact Below.refl _ _ | exact Hid.out (by with_reducible assumption) | refine Below.setCell ?_ (by simp <;> omega) _ | refine below_alloc ?_ _ | refine Below.alloc ?_ (by simp <;> omega) _ | refine Below.drew ?_ | refine below_drewN ?_ _ | exact Below.refl _ _))) ((Box3.new w 29 _ _ _).alloc _)).mono ?_
  rintro e w1 ⟨rfl, hb1⟩
  have N1 := Lib.hid (show Below w.heap.size w w1 from Below.trans (by repeat (first | with_reducible exact Below.refl _ _ | exact Hid.out (by with_reducible assumption) | refine Below.setCell ?_ (by simp <;> omega) _ | refine below_alloc ?_ _ | refine Below.alloc ?_ (by simp <;> omega) _ | refine Below.drew ?_ | refine below_drewN ?_ _ | exact Below.refl _ _)) (hb1.mono (by simp <;> omega)))
  have hz1 : w.heap.size + 2 ≤ w1.heap.size := by have := hb1.size; simp at this; omega
  have X1 := Lib.hid (BoxF3.below (BoxF3.alloc (BoxF3.new w 29 (.int .i64 s) (.int .i64 l) (.slice A n c)) _) hb1)
  have Z1 := Lib.hid (BoxF3.below (show BoxF3 _ (w.heap.size + 1) _ _ _ from by simpa using (BoxF3.new (w.alloc (.cells #[.int .i64 s, .int .i64 l, .slice A n c] 29)) 29 (.int .i64 0) (.int .i64 0) (.slice none 0 0))) hb1)
  clear hb1
  obtain ⟨x0, x1, x2⟩ := X1.out.box
  cases vv
  · obtain ⟨k0, k1, k2⟩ := Z1.out.box
    have hfz := Z1.out.fz
    go_wp2_with fail
    refine bodyPost_ret (v := .tuple #[.agg #[.int .i64 0, .int .i64 0, .slice none 0 0], .bool false]) ?r1 rfl ?r2
    case r1 => simp [results, Try.results22, go_sem, k0, k1, k2]
    case r2 => exact GrammarRes.none_ rfl (by repeat (first | with_reducible exact Below.refl _ _ | exact Hid.out (by with_reducible assumption) | refine Below.setCell ?_ (by simp <;> omega) _ | refine below_alloc ?_ _ | refine Below.alloc ?_ (by simp <;> omega) _ | refine Below.drew ?_ | refine below_drewN ?_ _ | exact Below.refl _ _))
  · have Y1 := Lib.hid (show BoxF3 _ (w1.heap.size + 1) _ _ _ from by simpa using (BoxF3.new (w1.alloc (.cells #[] 67)) 29 (.int .i64 s) (.int .i64 l) (.slice (some ⟨w1.heap.size, 0, none⟩) 0 0)))
    have R1 := Lib.hid (show RowV ((w1.alloc (.cells #[] 67)).alloc (.cells #[.int .i64 s, .int .i64 l, .slice (some ⟨w1.heap.size, 0, none⟩) 0 0] 29)) w1.heap.size 67 4 (.slice (some ⟨w1.heap.size, 0, none⟩) 0 0) 0 (fun i => .int .i64 (backG f i)) (w1.heap.size + 1) from
      RowV.alloc ⟨World.ownsRow_lit w1 #[] 0 (Nat.le_refl _) (by unfold maxLen; omega) rfl, by simp [Value.ownBlock]⟩ _)
    go_wp2_with fail
    go_loopw [5, 6] (fun i _ wr => ∃ (k : Nat) (v : Value), k ≤ n ∧ i = .int .i64 k ∧ Hid (Below w1.heap.size w1 wr) ∧ Hid (BoxF3 wr (w1.heap.size + 1) (.int .i64 s) (.int .i64 l) v) ∧
      Hid (RowV wr w1.heap.size 67 4 v k (fun i => .int .i64 (backG f i)) (w1.heap.size + 1))) (fun i _ _ => n - (intOf i).toNat)
    case atStart => exact ⟨0, _, Nat.zero_le _, rfl, (by repeat (first | with_reducible exact Below.refl _ _ | exact Hid.out (by with_reducible assumption) | refine Below.setCell ?_ (by simp <;> omega) _ | refine below_alloc ?_ _ | refine Below.alloc ?_ (by simp <;> omega) _ | refine Below.drew ?_ | refine below_drewN ?_ _ | exact Below.refl _ _)), Y1.out, R1.out⟩
    case round =>
      obtain ⟨k, v, hk, rfl, HB1, HY, HR⟩ := hrel
      have XR := Lib.hid (X1.out.below HB1.out)
      have NR := Lib.hid (N1.out.trans (HB1.out.mono N1.out.size))
      clear x0 x1 x2
      obtain ⟨x0, x1, x2⟩ := XR.out.box
      obtain ⟨y0, y1, y2⟩ := HY.out.box
      by_cases hlt : k < n
      · have d1 : (k : Int) < n := by omega
        obtain ⟨x, rfl, -⟩ := HA.out (k * 4) (by omega)
        obtain ⟨p0, p1, p2, p3⟩ := four (wr := wr) HA.out hlt fun p hp => NR.out.cell hp
        have a2 := XR.out.box.a2
        have b2 := HY.out.box.a2
        have hzr : w1.heap.size + 1 < wr.heap.size := HY.out.lt
        have hv2 := HS2.out (by trivial) k hlt
        have G1 := Lib.hid (fun h => backG1 (f := f) (k := k) h)
        have G2 := Lib.hid (fun h => backG2 (f := f) (k := k) h)
        have G0 := Lib.hid (backG0 f k)
        have G3 := Lib.hid (backG3 f k)
        have Gn := Lib.hid (fun h (j : Nat) hj => backGn (f := f) (k := k) (j := j) h hj)
        by_cases hz : 0 ≤ f (k * 4 + 2)
        · have hne : f (k * 4 + 2) ≠ -1 := by omega
          have E0 := Lib.hid G0.out
          have E1 := Lib.hid (G1.out hne)
          have E2 := Lib.hid (G2.out hne)
          have E3 := Lib.hid G3.out
          clear G0 G1 G2 G3 Gn hne hv2
          go_wp2_with (first
            | (at_builtin
               refine wpList_append_cells _ rfl _ _ 27 rfl w1.heap.size 67 ia (.agg #[.int .i64 0, .int .i64 0, .int .i64 0, .int .i64 0]) 4 32 Try.underlying27 hia hza hsa hba rfl (by decide) v k _ rfl ((HR.out.alloc _).alloc _).own
                 (some ⟨wr.heap.size + 1, 0, none⟩) 1 1 (lit4 (.int .i64 (f (k * 4))) (.int .i64 (f (k * 4 + 2))) (.int .i64 (f (k * 4 + 1))) (.int .i64 (f (k * 4 + 3)))) rfl (cells_lit4 (by simp)) (fun j _ => lit4_one rfl rfl rfl rfl j) (by unfold maxLen; omega) (by omega) (by simp <;> omega) ?_
               intro v1 w2 hown hgrow hwhere
               have HR2 := Lib.hid (show RowV w2 w1.heap.size 67 4 v1 (k + 1) (fun i => .int .i64 (backG f i)) (w1.heap.size + 1) from
                 ⟨by rw [listV_four k (fun i => .int .i64 (backG f i)) _ (by simp [lit4, E0.out]) (by simp [lit4, E1.out]) (by simp [lit4, E2.out]) (by simp [lit4, E3.out])] at hown; exact hown,
                  fun e => by rcases hwhere with h | h
                              · exact HR.out.ne (h ▸ e)
                              · rw [h] at e; simp at e; omega⟩)
               have HY2 := Lib.hid (BoxF3.grown ((HY.out.alloc _).alloc _) hgrow (fun e => HR.out.ne e.symm))
               have HB2 := Lib.hid (show Below w1.heap.size w1 w2 from Below.grown (Below.alloc (Below.alloc HB1.out HB1.out.size _) (by have := HB1.out.size; simp; omega) _) hgrow (by have := HB1.out.size; simp; omega) (fun j hj => (HR.out.own.lt j hj).1))
               obtain ⟨A1, c1, g1, rfl, -⟩ := HR2.out.ownC
               have zz2 := HY2.out.fz 2
               obtain ⟨w20, w21, w22⟩ := HY2.out.box
               clear hown hgrow hwhere)
            | go_in)
          exact ⟨⟨k + 1, _, by omega, by simp, HB2.out.setCell (by simp) _, HY2.out.set2, HR2.out.setP 2 _⟩, by simp [intOf]; omega⟩
        · have hne : f (k * 4 + 2) = -1 := by omega
          have E0 := Lib.hid G0.out
          have E1 := Lib.hid (Gn.out hne 1 (by omega))
          have E2 := Lib.hid (Gn.out hne 2 (by omega))
          have E3 := Lib.hid G3.out
          clear G0 G1 G2 G3 Gn hne hv2
          go_wp2_with (first
            | (at_builtin
               refine wpList_append_cells _ rfl _ _ 27 rfl w1.heap.size 67 ia (.agg #[.int .i64 0, .int .i64 0, .int .i64 0, .int .i64 0]) 4 32 Try.underlying27 hia hza hsa hba rfl (by decide) v k _ rfl ((HR.out.alloc _).alloc _).own
                 (some ⟨wr.heap.size + 1, 0, none⟩) 1 1 (lit4 (.int .i64 (f (k * 4))) (.int .i64 (f (k * 4 + 1))) (.int .i64 (f (k * 4 + 2))) (.int .i64 (f (k * 4 + 3)))) rfl (cells_lit4 (by simp)) (fun j _ => lit4_one rfl rfl rfl rfl j) (by unfold maxLen; omega) (by omega) (by simp <;> omega) ?_
               intro v1 w2 hown hgrow hwhere
               have HR2 := Lib.hid (show RowV w2 w1.heap.size 67 4 v1 (k + 1) (fun i => .int .i64 (backG f i)) (w1.heap.size + 1) from
                 ⟨by rw [listV_four k (fun i => .int .i64 (backG f i)) _ (by simp [lit4, E0.out]) (by simp [lit4, E1.out]) (by simp [lit4, E2.out]) (by simp [lit4, E3.out])] at hown; exact hown,
                  fun e => by rcases hwhere with h | h
                              · exact HR.out.ne (h ▸ e)
                              · rw [h] at e; simp at e; omega⟩)
               have HY2 := Lib.hid (BoxF3.grown ((HY.out.alloc _).alloc _) hgrow (fun e => HR.out.ne e.symm))
               have HB2 := Lib.hid (show Below w1.heap.size w1 w2 from Below.grown (Below.alloc (Below.alloc HB1.out HB1.out.size _) (by have := HB1.out.size; simp; omega) _) hgrow (by have := HB1.out.size; simp; omega) (fun j hj => (HR.out.own.lt j hj).1))
               obtain ⟨A1, c1, g1, rfl, -⟩ := HR2.out.ownC
               have zz2 := HY2.out.fz 2
               obtain ⟨w20, w21, w22⟩ := HY2.out.box
               clear hown hgrow hwhere)
            | go_in)
          exact ⟨⟨k + 1, _, by omega, by simp, HB2.out.setCell (by simp) _, HY2.out.set2, HR2.out.setP 2 _⟩, by simp [intOf]; omega⟩
      · have d1 : ¬ (k : Int) < n := by omega
        have e : k = n := by omega
        subst e
        have ZR := Lib.hid (Z1.out.below HB1.out)
        obtain ⟨k0, k1, k2⟩ := ZR.out.box
        have hfz := ZR.out.fz
        obtain ⟨A1, c1, g1, rfl, hg1, hgp, ho1⟩ := HR.out.ownC
        have O1 := Lib.hid ho1
        have L1 := Lib.hid (show w1.heap.size ≤ g1 from hg1)
        clear ho1 hg1 hgp HR
        go_wp2_with fail
        refine bodyPost_ret (v := .tuple #[.agg #[.int .i64 s, .int .i64 l, .slice A1 k c1], .bool true]) ?r1 rfl ?r2
        case r1 => simp [results, Try.results22, go_sem, k0, k1, k2]
        case r2 =>
          have := L1.out
          exact ⟨A1, c1, g1, rfl, by omega, trivial, own_setP' (own_setP' (own_setP' O1.out (fun _ => by omega)) (fun _ => by omega)) (fun _ => by omega), (by repeat (first | with_reducible exact Below.refl _ _ | exact Hid.out (by with_reducible assumption) | refine Below.setCell ?_ (by simp <;> omega) _ | refine below_alloc ?_ _ | refine Below.alloc ?_ (by simp <;> omega) _ | refine Below.drew ?_ | refine below_drewN ?_ _ | exact Below.refl _ _))⟩
end Go.Proofs.Ytofpaolmfcdokaa
