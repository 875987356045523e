/- The tight zone: the reference. -/
import Derived.Test.YtfpombhhnojjhaaZonW
import Derived.Test.YtfpombhhnojjhaaZoneR
import Derived.Test.YtfpombhhnojjhaaClone
import Derived.Test.YtfpombhhnojjhaaStep
import Derived.Deep.RegionHeldLaw
import Derived.Deep.RegionHeld3
import Derived.Deep.CutRange
set_option linter.unusedVariables false
set_option linter.unusedSimpArgs false
namespace Go.Proofs.Ytfpombhhnojjhaa
open Go.RowKit
theorem rowZ_stay {M j i k : Nat} {f : Nat → Int} (h : minB (rowZ M j i f k (i * M + k)) (addB (rowZ M j i f k (i * M + j)) (rowZ M j i f k (j * M + k))) = rowZ M j i f k (i * M + k)) :
    (fun p => Value.int .i64 (rowZ M j i f k p)) = fun p => .int .i64 (rowZ M j i f (k + 1) p) := by
  funext p
  show _ = Value.int .i64 (stepZ M j i k (rowZ M j i f k) p)
  unfold stepZ
  split
  · rename_i e; subst e; rw [h]
  · rfl
set_option maxRecDepth 20000 in
set_option maxHeartbeats 16000000 in
theorem l07Tight_any (P m : Nat) (A : Option Addr) (n c : Nat) (f : Nat → Int) (w : World) (hm : m ≤ 4) (hm1 : 1 ≤ m) (hsq : n = (m + 1) * (m + 1)) (hle : ∀ p, p < (m + 1) * (m + 1) → f p ≤ 1000000000) (hA : Cells w A n (fun i => .int .i64 (f i)))
    (b : Box2 w P (.int .i64 m) (.slice A n c)) :
    Calls Try.prog 90 #[.pointer (some ⟨P, 0, none⟩)] w fun e w' => ZoneRes w w' e (okZ (m + 1) n (tightF (m + 1) f (m + 1))) (ifI (okZ (m + 1) n (tightF (m + 1) f (m + 1))) m) (ifN (okZ (m + 1) n (tightF (m + 1) f (m + 1))) n) (tightF (m + 1) f (m + 1)) := by
  obtain ⟨ii, hii, hzi, hsi, hbi⟩ := info_parts infoCI
  have hw1 : IntKind.i64.wrap ((m : Int) + 1) = ((m + 1 : Nat) : Int) := by rw [IntKind.wrap_i64]; omega
  have HM1 := Lib.hid (show ∀ k : Nat, k < m + 1 → (k : Int) < ((m + 1 : Nat) : Int) from fun k h => by omega)
  have HM2 := Lib.hid (show ∀ k : Nat, ¬ k < m + 1 → ¬ (k : Int) < ((m + 1 : Nat) : Int) from fun k h => by omega)
  have HWI := Lib.hid (show ∀ i : Nat, i < m + 1 → ∃ q : Int, IntKind.i64.wrap ((i : Int) * ((m + 1 : Nat) : Int)) = q ∧ ∀ k : Nat, k < m + 1 → IntKind.i64.wrap (q + (k : Int)) = ((i * (m + 1) + k : Nat) : Int) ∧ i * (m + 1) + k < n from fun i hi => by
    refine ⟨_, (idx_wrap (m := m) (i := i) (k := 0) hm (by omega) (by omega)).2.1, fun k hk => ?_⟩
    obtain ⟨-, -, e3, e4, -⟩ := idx_wrap (m := m) (i := i) (k := k) hm (by omega) (by omega)
    exact ⟨e3, by rw [hsq]; exact e4⟩)
  have hn25 : n ≤ 25 := by rw [hsq]; exact (idx_wrap (m := m) (i := 0) (k := 0) hm (by omega) (by omega)).2.2.2.2
  have hn0 : 0 < n := by rw [hsq]; exact Nat.mul_pos (by omega) (by omega)
  have HLE := Lib.hid (show ∀ j i k p, i < m + 1 → k < m + 1 → p < n → rowZ (m + 1) j i (midZ (m + 1) j (tightF (m + 1) f j) i) k p ≤ 1000000000 from fun j i k p hi hk hp =>
    rowZ_le hi (midZ_le (tightF_le hle j) i (by omega)) k (by omega) p (by rw [← hsq]; exact hp))
  have HVV := Lib.hid (fun P2 T c2 W h1 h2 => l07Zone_any P2 (m : Int) T n c2 (tightF (m + 1) f (m + 1)) W (by omega) h1 h2)
  rw [validZ_nat m n _ hm1 hm] at HVV
  clear hle hsq hm1
  generalize hokz : okZ (m + 1) n (tightF (m + 1) f (m + 1)) = v at *
  clear hokz
  generalize hsm : ((m + 1 : Nat) : Int) = sm at *
  generalize hmi : (m : Int) = mi at *
  clear hsm hmi
  have ha0 := (b.below ((Below.refl _ _).alloc (Nat.le_refl _) (.cells #[.int .i64 0, .slice none 0 0] 36))).c0
  go_enter Try.func90, Try.ntmps90
  go_upto_region 2 with fail
  obtain ⟨w1, hw1e⟩ : ∃ W, W = w.alloc (.cells #[.int .i64 0, .slice none 0 0] 36) := ⟨_, rfl⟩
  have N1 := Lib.hid (show Below w.heap.size w w1 by rw [hw1e]; exact (Below.refl _ _).alloc (Nat.le_refl _) _)
  have RZ := Lib.hid (show BoxF2 w1 w.heap.size (.int .i64 0) (.slice none 0 0) by rw [hw1e]; exact BoxF2.new w 36 _ _)
  have hlt1 : w.heap.size < w1.heap.size := RZ.out.lt
  have X := Lib.hid (b.below N1.out)
  have HA := Lib.hid (hA.below N1.out)
  have hP : P < w.heap.size := b.lt
  obtain ⟨x0, x1⟩ := X.out
  rw [← hw1e]
  clear hA b ha0 hw1e
  have HKeep := Lib.hid (show ∀ W, Below w1.heap.size w1 W → (W.cell? ⟨P, 0, none⟩ = some (.int .i64 mi) ∧ W.cell? ⟨P, 1, none⟩ = some (.slice A n c)) from fun W hW => by
    have X := X.out.below hW
    exact ⟨X.c0, X.c1⟩)
  go_cut [5] from 16 to 26 (fun s5 wx => ∃ (p : Nat) (A2 : Option Addr) (c2 ga : Nat), s5 = .pointer (some ⟨p, 0, none⟩) ∧ w1.heap.size ≤ p ∧ BoxF2 wx p (.int .i64 mi) (.slice A2 n c2) ∧
    w1.heap.size ≤ ga ∧ (0 < n → ga ≠ p) ∧ OwnC wx ga A2 n (fun i => .int .i64 (f i)) ∧ Below w1.heap.size w1 wx)
  case first =>
    go_region_held3 (fun W => W.cell? ⟨P, 0, none⟩ = some (.int .i64 mi) ∧ W.cell? ⟨P, 1, none⟩ = some (.slice A n c))
      (exact HKeep.out _ (by repeat (first | with_reducible exact Below.refl _ _ | exact Hid.out (by with_reducible assumption) | refine Below.setCell ?_ (by simp <;> omega) _ | refine below_alloc ?_ _ | refine Below.alloc ?_ (by simp <;> omega) _ | refine Below.drew ?_ | refine below_drewN ?_ _ | exact Below.refl _ _)))
      (first
        |
          (refine step_append_cells _ rfl (.tmp 20) (.tmp 24) 22 rfl w1.heap.size 2 ii (.int .i64 0) 1 8 Try.underlying22 hii hzi hsi hbi rfl (by decide) (.slice (some ⟨w1.heap.size, 0, none⟩) 0 0) 0 [] rfl (lit0 (by first | exact lit_last (by simp) | exact lit_prev (by simp)) (by omega))
             A n c (fun i => .int .i64 (f i)) rfl (by rw [Nat.mul_one]; exact HA.out.below (by repeat (first | with_reducible exact Below.refl _ _ | exact Hid.out (by with_reducible assumption) | refine Below.setCell ?_ (by simp <;> omega) _ | refine below_alloc ?_ _ | refine Below.alloc ?_ (by simp <;> omega) _ | refine Below.drew ?_ | refine below_drewN ?_ _ | exact Below.refl _ _))) (fun _ _ => rfl) (by unfold maxLen; omega) (by omega) (by simp <;> omega) ?_
           intro v2 w2 hown hgrow hwhere
           have N2 := Lib.hid (show Below w1.heap.size w1 w2 from Below.grown (by repeat (first | with_reducible exact Below.refl _ _ | exact Hid.out (by with_reducible assumption) | refine Below.setCell ?_ (by simp <;> omega) _ | refine below_alloc ?_ _ | refine Below.alloc ?_ (by simp <;> omega) _ | refine Below.drew ?_ | refine below_drewN ?_ _ | exact Below.refl _ _)) hgrow (by simp <;> omega) (fun j hj => by cases hj; first | omega | (simp; done) | (simp; omega)))
           obtain ⟨A2, c2, ga, rfl, hga, hgb, ho⟩ := OwnC.of_rowB hown
           have O2 := Lib.hid (show OwnC w2 ga A2 n (fun i => .int .i64 (f i)) by
             rw [Nat.zero_add, Nat.mul_one] at ho
             exact ho.congr fun j hj => by simp only [List.nil_append]; exact listV_getD _ (by omega))
           have HG := Lib.hid hga
           have HW := Lib.hid (And.intro hgb hwhere)
           have hs2 := hgrow.size
           have HB2 := Lib.hid (show 0 < n → ga < w2.heap.size from O2.out.lt)
           (first | (have BB := Lib.hid (show BoxF2 w2 (w1.heap.size + 1) (.int .i64 0) (.slice none 0 0) from by simpa using BoxF2.grown (BoxF2.below (BoxF2.new (w1.alloc (.cells #[] 2)) 36 _ _) (Below.drew (Below.refl _ _))) hgrow (by simp [Value.ownBlock])); obtain ⟨y0, y1⟩ := BB.out.box; have yf := BB.out.fz) | skip)
           rw [Nat.zero_add]
           clear hown hgrow hga ho hgb hwhere)
        |
          (refine step_append_cells _ rfl (.tmp 20) (.tmp 24) 22 rfl w1.heap.size 2 ii (.int .i64 0) 1 8 Try.underlying22 hii hzi hsi hbi rfl (by decide) (.slice (some ⟨(w1.heap.size + 1), 0, none⟩) 0 0) 0 [] rfl (lit0 (by first | exact lit_last (by simp) | exact lit_prev (by simp)) (by omega))
             A n c (fun i => .int .i64 (f i)) rfl (by rw [Nat.mul_one]; exact HA.out.below (by repeat (first | with_reducible exact Below.refl _ _ | exact Hid.out (by with_reducible assumption) | refine Below.setCell ?_ (by simp <;> omega) _ | refine below_alloc ?_ _ | refine Below.alloc ?_ (by simp <;> omega) _ | refine Below.drew ?_ | refine below_drewN ?_ _ | exact Below.refl _ _))) (fun _ _ => rfl) (by unfold maxLen; omega) (by omega) (by simp <;> omega) ?_
           intro v2 w2 hown hgrow hwhere
           have N2 := Lib.hid (show Below w1.heap.size w1 w2 from Below.grown (by repeat (first | with_reducible exact Below.refl _ _ | exact Hid.out (by with_reducible assumption) | refine Below.setCell ?_ (by simp <;> omega) _ | refine below_alloc ?_ _ | refine Below.alloc ?_ (by simp <;> omega) _ | refine Below.drew ?_ | refine below_drewN ?_ _ | exact Below.refl _ _)) hgrow (by simp <;> omega) (fun j hj => by cases hj; first | omega | (simp; done) | (simp; omega)))
           obtain ⟨A2, c2, ga, rfl, hga, hgb, ho⟩ := OwnC.of_rowB hown
           have O2 := Lib.hid (show OwnC w2 ga A2 n (fun i => .int .i64 (f i)) by
             rw [Nat.zero_add, Nat.mul_one] at ho
             exact ho.congr fun j hj => by simp only [List.nil_append]; exact listV_getD _ (by omega))
           have HG := Lib.hid hga
           have HW := Lib.hid (And.intro hgb hwhere)
           have hs2 := hgrow.size
           have HB2 := Lib.hid (show 0 < n → ga < w2.heap.size from O2.out.lt)
           (have BB := Lib.hid (show BoxF2 w2 w1.heap.size (.int .i64 0) (.slice none 0 0) from BoxF2.grown (BoxF2.below (BoxF2.alloc (BoxF2.new w1 36 _ _) (.cells #[] 2)) (Below.drew (Below.refl _ _))) hgrow (by simp [Value.ownBlock])); obtain ⟨y0, y1⟩ := BB.out.box; have yf := BB.out.fz)
           rw [Nat.zero_add]
           clear hown hgrow hga ho hgb hwhere)
      )
    all_goals (
      go_wp2_with fail
      go_meet
      have hw2 := N2.out.size
      have hg1 : w1.heap.size ≤ ga := HG.out
      first
        | exact ⟨w2.heap.size, A2, c2, ga, rfl, hw2, BoxF2.new w2 _ _ _, hg1, fun hn0 => (by have := HB2.out hn0; omega), O2.out.below ((Below.refl _ _).alloc (Nat.le_refl _) _), (by repeat (first | with_reducible exact Below.refl _ _ | exact Hid.out (by with_reducible assumption) | refine Below.setCell ?_ (by simp <;> omega) _ | refine below_alloc ?_ _ | refine Below.alloc ?_ (by simp <;> omega) _ | refine Below.drew ?_ | refine below_drewN ?_ _ | exact Below.refl _ _))⟩
        | (have hne : 0 < n → ga ≠ w1.heap.size + 1 := fun hn0 => by
             obtain ⟨q1, q2⟩ := HW.out
             rw [q1 (by omega)] at q2
             simp [Value.ownBlock] at q2
             omega
           exact ⟨w1.heap.size + 1, A2, c2, ga, rfl, Nat.le_succ _, (BB.out.set0).set1, hg1, hne, own_setP' (own_setP' O2.out hne) hne, (by repeat (first | with_reducible exact Below.refl _ _ | exact Hid.out (by with_reducible assumption) | refine Below.setCell ?_ (by simp <;> omega) _ | refine below_alloc ?_ _ | refine Below.alloc ?_ (by simp <;> omega) _ | refine Below.drew ?_ | refine below_drewN ?_ _ | exact Below.refl _ _))⟩)
        | (have hne : 0 < n → ga ≠ w1.heap.size := fun hn0 => by
             obtain ⟨q1, q2⟩ := HW.out
             rw [q1 (by omega)] at q2
             simp [Value.ownBlock] at q2
             omega
           exact ⟨w1.heap.size, A2, c2, ga, rfl, Nat.le_refl _, (BB.out.set0).set1, hg1, hne, own_setP' (own_setP' O2.out hne) hne, (by repeat (first | with_reducible exact Below.refl _ _ | exact Hid.out (by with_reducible assumption) | refine Below.setCell ?_ (by simp <;> omega) _ | refine below_alloc ?_ _ | refine Below.alloc ?_ (by simp <;> omega) _ | refine Below.drew ?_ | refine below_drewN ?_ _ | exact Below.refl _ _))⟩))
  case rest =>
  obtain ⟨p, T1, c1, g1, rfl, hp1, hbox, hg1, hgp, ho1, hb⟩ := hcut
  have NC := Lib.hid (show Below w.heap.size w wc from N1.out.trans (hb.mono N1.out.size))
  have BX := Lib.hid hbox
  have RC := Lib.hid (RZ.out.below hb)
  have O1 := Lib.hid ho1
  have hne : g1 ≠ p := hgp hn0
  have hpl : p < wc.heap.size := hbox.lt
  have hgl : g1 < wc.heap.size := ho1.lt hn0
  obtain ⟨y, hTy, hyg, -, -⟩ := ho1 0 hn0
  have HTY := Lib.hid hTy
  have HYG := Lib.hid hyg
  have hgw : g1 ≠ w.heap.size := by omega
  have hpw : p ≠ w.heap.size := by omega
  have hgs : w.heap.size ≤ g1 := by omega
  clear hb hbox hgp ho1 x0 x1 hTy hyg HKeep X HA RZ N1
  obtain ⟨x0, x1⟩ := BX.out.box
  go_wp2_with fail
  go_loopw [6] (fun v wr => ∃ j : Nat, j ≤ m + 1 ∧ v = .int .i64 j ∧ Hid (Below w.heap.size w wr) ∧ Hid (BoxF2 wr p (.int .i64 mi) (.slice T1 n c1)) ∧ Hid (BoxF2 wr w.heap.size (.int .i64 0) (.slice none 0 0)) ∧ Hid (OwnC wr g1 T1 n (fun p => .int .i64 (tightF (m + 1) f j p)))) (fun v _ => (m + 1) - (intOf v).toNat)
  case atStart => exact ⟨0, Nat.zero_le _, rfl, NC, BX, RC, O1⟩
  case round =>
    obtain ⟨j, hj, rfl, HB0, CX, CZ, HP⟩ := hrel
    clear x0 x1
    obtain ⟨x0, x1⟩ := CX.out.box
    by_cases hjt : j < m + 1
    rotate_left
    · have d1 := HM2.out j hjt
      obtain rfl : j = m + 1 := by omega
      have HPc := Lib.hid HP.out.cells
      go_wp2_with fail
      refine (HVV.out p T1 c1 _ (HPc.out.below (by repeat (first | with_reducible exact Below.refl _ _ | exact Hid.out (by with_reducible assumption) | refine Below.setCell ?_ (by simp <;> omega) _ | refine below_alloc ?_ _ | refine Below.alloc ?_ (by simp <;> omega) _ | refine Below.drew ?_ | refine below_drewN ?_ _ | exact Below.refl _ _))) (CX.out.box.below (by repeat (first | with_reducible exact Below.refl _ _ | exact Hid.out (by with_reducible assumption) | refine Below.setCell ?_ (by simp <;> omega) _ | refine below_alloc ?_ _ | refine Below.alloc ?_ (by simp <;> omega) _ | refine Below.drew ?_ | refine below_drewN ?_ _ | exact Below.refl _ _)))).mono ?_
      rintro e w5 ⟨rfl, hb⟩
      subst hb
      obtain ⟨k0, k1⟩ := CZ.out.box
      have hfz := CZ.out.fz
      cases v
      · go_wp2_with fail
        refine bodyPost_ret (v := .tuple #[.agg #[.int .i64 0, .slice none 0 0], .bool false]) ?r1 rfl ?r2
        case r1 => simp [results, Try.results90, go_sem, k0, k1]
        case r2 => exact ZoneRes.none_ rfl (by repeat (first | with_reducible exact Below.refl _ _ | exact Hid.out (by with_reducible assumption) | refine Below.setCell ?_ (by simp <;> omega) _ | refine below_alloc ?_ _ | refine Below.alloc ?_ (by simp <;> omega) _ | refine Below.drew ?_ | refine below_drewN ?_ _ | exact Below.refl _ _))
      · go_wp2_with fail
        refine bodyPost_ret (v := .tuple #[.agg #[.int .i64 mi, .slice T1 n c1], .bool true]) ?r1 rfl ?r2
        case r1 => simp [results, Try.results90, go_sem, k0, k1]
        case r2 => exact ⟨T1, c1, g1, rfl, hgs, trivial, own_setP' (own_setP' HP.out (fun _ => hgw)) (fun _ => hgw), (by repeat (first | with_reducible exact Below.refl _ _ | exact Hid.out (by with_reducible assumption) | refine Below.setCell ?_ (by simp <;> omega) _ | refine below_alloc ?_ _ | refine Below.alloc ?_ (by simp <;> omega) _ | refine Below.drew ?_ | refine below_drewN ?_ _ | exact Below.refl _ _))⟩
    have d1 := HM1.out j hjt
    go_wp2_with fail
    go_loopw [7] (fun v wr => ∃ i : Nat, i ≤ m + 1 ∧ v = .int .i64 i ∧ Hid (Below w.heap.size w wr) ∧ Hid (BoxF2 wr p (.int .i64 mi) (.slice T1 n c1)) ∧ Hid (BoxF2 wr w.heap.size (.int .i64 0) (.slice none 0 0)) ∧ Hid (OwnC wr g1 T1 n (fun p => .int .i64 (midZ (m + 1) j (tightF (m + 1) f j) i p)))) (fun v _ => (m + 1) - (intOf v).toNat)
    case atStart => exact ⟨0, Nat.zero_le _, rfl, HB0, CX, CZ, HP⟩
    case round =>
      clear HB0 CX CZ HP x0 x1
      obtain ⟨i, hi, rfl, HB0, CX, CZ, HP⟩ := hrel
      by_cases hit : i < m + 1
      rotate_left
      · have d2 := HM2.out i hit
        obtain rfl : i = m + 1 := by omega
        go_wp2_with fail
        exact ⟨⟨j + 1, by omega, by simp, HB0, CX, CZ, HP⟩, by simp [intOf]; omega⟩
      have d2 := HM1.out i hit
      go_wp2_with fail
      go_loopw [8] (fun v wr => ∃ k : Nat, k ≤ m + 1 ∧ v = .int .i64 k ∧ Hid (Below w.heap.size w wr) ∧ Hid (BoxF2 wr p (.int .i64 mi) (.slice T1 n c1)) ∧ Hid (BoxF2 wr w.heap.size (.int .i64 0) (.slice none 0 0)) ∧ Hid (OwnC wr g1 T1 n (fun p => .int .i64 (rowZ (m + 1) j i (midZ (m + 1) j (tightF (m + 1) f j) i) k p)))) (fun v _ => (m + 1) - (intOf v).toNat)
      case atStart => exact ⟨0, Nat.zero_le _, rfl, HB0, CX, CZ, HP⟩
      case round =>
        clear HB0 CX CZ HP
        obtain ⟨k, hk, rfl, HB0, CX, CZ, HP⟩ := hrel
        obtain ⟨x0, x1⟩ := CX.out.box
        by_cases hkt : k < m + 1
        rotate_left
        · have d3 := HM2.out k hkt
          obtain rfl : k = m + 1 := by omega
          go_wp2_with fail
          exact ⟨⟨i + 1, by omega, by simp, HB0, CX, CZ, HP⟩, by simp [intOf]; omega⟩
        have d3 := HM1.out k hkt
        have HF0 := Lib.hid (HLE.out j i k (i * (m + 1) + k) hit hkt)
        generalize hF : rowZ (m + 1) j i (midZ (m + 1) j (tightF (m + 1) f j) i) k = F at *
        have HST := Lib.hid (fun (v : Int) h => rowZ_step (M := m + 1) (j := j) (i := i) (k := k) (f := midZ (m + 1) j (tightF (m + 1) f j) i) (v := v) h)
        have HSY := Lib.hid (fun h => rowZ_stay (M := m + 1) (j := j) (i := i) (k := k) (f := midZ (m + 1) j (tightF (m + 1) f j) i) h)
        rw [hF] at HST HSY
        clear hF
        obtain ⟨qi, ei, hqi⟩ := HWI.out i hit
        obtain ⟨qj, ej, hqj⟩ := HWI.out j hjt
        obtain ⟨eij, hpij⟩ := hqi j hjt
        obtain ⟨eik, hpik⟩ := hqi k hkt
        obtain ⟨ejk, hpjk⟩ := hqj k hkt
        have HFb := Lib.hid (HF0.out hpik)
        have hTT := HTY.out
        have hcell : ∀ q, q < n → wr.cell? (y.add q) = some (.int .i64 (F q)) ∧ wr.frozen? (y.add q) = false := fun q hq => by
          obtain ⟨x, hx, -, h3, h4⟩ := HP.out q hq
          rw [hTT] at hx
          cases hx
          exact ⟨h4, h3⟩
        obtain ⟨cij, -⟩ := hcell _ hpij
        obtain ⟨cik, fik⟩ := hcell _ hpik
        obtain ⟨cjk, -⟩ := hcell _ hpjk
        have HSET := Lib.hid (fun (v : Int) => OwnC.set HP.out hTT hpik (.int .i64 v))
        have nb : (y.add (i * (m + 1) + k)).block ≠ p := by rw [block_add, HYG.out]; exact hne
        have nz : (y.add (i * (m + 1) + k)).block ≠ w.heap.size := by rw [block_add, HYG.out]; exact hgw
        have hge : w.heap.size ≤ (y.add (i * (m + 1) + k)).block := by rw [block_add, HYG.out]; exact hgs
        clear hcell hqi hqj HF0 HWI HLE HM1 HM2
        have HSTb := Lib.hid (fun v h => HST.out v h)
        subst hTT
        have dij : ((i * (m + 1) + j : Nat) : Int) < n := by omega
        have dik : ((i * (m + 1) + k : Nat) : Int) < n := by omega
        have djk : ((j * (m + 1) + k : Nat) : Int) < n := by omega
        clear HST
        generalize hv1 : F (i * (m + 1) + k) = v1 at *
        generalize hv2 : F (i * (m + 1) + j) = v2 at *
        generalize hv3 : F (j * (m + 1) + k) = v3 at *
        generalize hpos : i * (m + 1) + k = pos at *
        generalize hpos2 : i * (m + 1) + j = pos2 at *
        generalize hpos3 : j * (m + 1) + k = pos3 at *
        clear hpos hpos2 hpos3 hv1 hv2 hv3 hpij hpik hpjk
        have HAD := Lib.hid (addB.eq_1 v2 v3)
        have HMI := Lib.hid (minB.eq_1 v1 (addB v2 v3))
        generalize addB v2 v3 = vs at *
        generalize minB v1 vs = vm at *
        generalize hwq : IntKind.i64.wrap (v2 + v3) = q at *
        by_cases h2 : v2 = 1000000000
        · have b1 : (v2 != 1000000000) = false := by rw [h2]; rfl
          have HQ := Lib.hid (HSY.out (by have e : vs = 1000000000 := (HAD.out).trans (if_pos (.inl h2)); rw [HMI.out, e, if_neg (by have := HFb.out; omega)]))
          have HP2 := Lib.hid HP.out
          rw [HQ.out] at HP2
          clear h2 HAD HMI
          go_wp2_with fail
          exact ⟨⟨k + 1, by omega, by simp, HB0, CX, CZ, HP2⟩, by simp [intOf]; omega⟩
        have b1 : (v2 != 1000000000) = true := bne_iff_ne.2 h2
        by_cases h3 : v3 = 1000000000
        · have b2 : (v3 != 1000000000) = false := by rw [h3]; rfl
          have HQ := Lib.hid (HSY.out (by have e : vs = 1000000000 := (HAD.out).trans (if_pos (.inr h3)); rw [HMI.out, e, if_neg (by have := HFb.out; omega)]))
          have HP2 := Lib.hid HP.out
          rw [HQ.out] at HP2
          clear h2 h3 HAD HMI
          go_wp2_with fail
          exact ⟨⟨k + 1, by omega, by simp, HB0, CX, CZ, HP2⟩, by simp [intOf]; omega⟩
        have b2 : (v3 != 1000000000) = true := bne_iff_ne.2 h3
        have HAE := Lib.hid (show vs = q by rw [HAD.out, if_neg (by rintro (h | h); exact h2 h; exact h3 h)])
        clear h2 h3 HAD
        by_cases h4 : q < v1
        · have HMV := Lib.hid (show q = vm by rw [HMI.out, HAE.out, if_pos h4])
          have HQ := Lib.hid (HSTb.out q HMV.out)
          have HO2 := Lib.hid (HSET.out q)
          rw [HQ.out] at HO2
          clear HMI HAE HMV
          go_wp2_with fail
          exact ⟨⟨k + 1, by omega, by simp, HB0.out.setCell hge _, CX.out.keep (Below.heap_setCell _ _ _ _ (fun e => nb e.symm)), CZ.out.keep (Below.heap_setCell _ _ _ _ (fun e => nz e.symm)), HO2⟩, by simp [intOf]; omega⟩
        · have HQ := Lib.hid (HSY.out (by rw [HMI.out, HAE.out, if_neg h4]))
          have HP2 := Lib.hid HP.out
          rw [HQ.out] at HP2
          clear HMI HAE
          go_wp2_with fail
          exact ⟨⟨k + 1, by omega, by simp, HB0, CX, CZ, HP2⟩, by simp [intOf]; omega⟩
theorem specTightZone_any (s : Int) (A : Option Addr) (n c : Nat) (f : Nat → Int) (w : World) (hn : n ≤ 1048576) (hA : Cells w A n (fun i => .int .i64 (f i))) :
    Calls Try.prog 61 #[.agg #[.int .i64 s, .slice A n c]] w fun e w' => ZoneRes w w' e (tightOk s n f) (ifI (tightOk s n f) s) (ifN (tightOk s n f) n) (tightG s f) := by
  have HA := Lib.hid hA
  have HL := Lib.hid (fun P W h1 b => l07Zone_any P s A n c f W hn h1 b)
  have HOK := Lib.hid (fun (h : validZ s n f = true) => show 1 ≤ s ∧ s ≤ 4 ∧ okZ (s + 1).toNat n f = true from by
    unfold validZ at h
    simp only [Bool.and_eq_true] at h
    exact ⟨(inB_iff.1 h.1).1, (inB_iff.1 h.1).2, h.2⟩)
  have HU := Lib.hid (show tightOk s n f = (validZ s n f && validZ s n (tightG s f)) from rfl)
  have HTG := Lib.hid (show tightG s f = tightF (s + 1).toNat f (s + 1).toNat from rfl)
  clear hA
  have Z0 := Lib.hid (show BoxF2 _ (w.heap.size + 1) _ _ from by simpa using (BoxF2.new (w.alloc (.cells #[.int .i64 s, .slice A n c] 36)) 36 (.int .i64 0) (.slice none 0 0)))
  obtain ⟨k0, k1⟩ := Z0.out.box
  have hfz := Z0.out.fz
  have B0 := Lib.hid ((Box2.new w 36 (.int .i64 s) (.slice A n c)).alloc (.cells #[.int .i64 0, .slice none 0 0] 36))
  generalize tightOk s n f = v at *
  cases hv : validZ s n f
  · rw [hv] at HL HU
    obtain rfl : v = false := by rw [HU.out]; rfl
    clear hv HOK
    go_enter Try.func61, Try.ntmps61
    go_wp2_with fail
    refine (HL.out w.heap.size _ (HA.out.below (by repeat (first | with_reducible exact Below.refl _ _ | exact Hid.out (by with_reducible assumption) | refine Below.setCell ?_ (by simp <;> omega) _ | refine below_alloc ?_ _ | refine Below.alloc ?_ (by simp <;> omega) _ | refine Below.drew ?_ | refine below_drewN ?_ _ | exact Below.refl _ _))) B0.out).mono ?_
    rintro e w' ⟨rfl, rfl⟩
    go_wp2_with fail
    refine bodyPost_ret (v := .tuple #[.agg #[.int .i64 0, .slice none 0 0], .bool false]) ?r1 rfl ?r2
    case r1 => simp [results, Try.results61, go_sem, k0, k1]
    case r2 => exact ZoneRes.none_ rfl (by repeat (first | with_reducible exact Below.refl _ _ | exact Hid.out (by with_reducible assumption) | refine Below.setCell ?_ (by simp <;> omega) _ | refine below_alloc ?_ _ | refine Below.alloc ?_ (by simp <;> omega) _ | refine Below.drew ?_ | refine below_drewN ?_ _ | exact Below.refl _ _))
  obtain ⟨s1, s2, hok⟩ := HOK.out hv
  rw [hv] at HL HU
  clear hv HOK
  obtain ⟨m, rfl⟩ : ∃ m : Nat, s = (m : Int) := ⟨s.toNat, by omega⟩
  have hmt : ((m : Int) + 1).toNat = m + 1 := by omega
  rw [hmt] at hok HTG
  have HT := Lib.hid (fun P W h1 b => l07Tight_any P m A n c f W (by omega) (by omega) (okZ_iff.1 hok).1 (okZ_le hok) h1 b)
  rw [HTG.out]
  have HU2 := Lib.hid (show v = okZ (m + 1) n (tightF (m + 1) f (m + 1)) by rw [HU.out, Bool.true_and, HTG.out]; exact validZ_nat m n _ (by omega) (by omega))
  rw [← HU2.out] at HT
  clear HU HU2 HTG hok
  go_enter Try.func61, Try.ntmps61
  go_wp2_with fail
  refine (HL.out w.heap.size _ (HA.out.below (by repeat (first | with_reducible exact Below.refl _ _ | exact Hid.out (by with_reducible assumption) | refine Below.setCell ?_ (by simp <;> omega) _ | refine below_alloc ?_ _ | refine Below.alloc ?_ (by simp <;> omega) _ | refine Below.drew ?_ | refine below_drewN ?_ _ | exact Below.refl _ _))) B0.out).mono ?_
  rintro e w' ⟨rfl, rfl⟩
  go_wp2_with fail
  refine (HT.out w.heap.size _ (HA.out.below (by repeat (first | with_reducible exact Below.refl _ _ | exact Hid.out (by with_reducible assumption) | refine Below.setCell ?_ (by simp <;> omega) _ | refine below_alloc ?_ _ | refine Below.alloc ?_ (by simp <;> omega) _ | refine Below.drew ?_ | refine below_drewN ?_ _ | exact Below.refl _ _))) B0.out).mono ?_
  rintro e w2 ⟨A2, c2, g2, rfl, hg2, -, ho2, hb⟩
  have N2 := Lib.hid (show Below w.heap.size w w2 from Below.trans (by repeat (first | with_reducible exact Below.refl _ _ | exact Hid.out (by with_reducible assumption) | refine Below.setCell ?_ (by simp <;> omega) _ | refine below_alloc ?_ _ | refine Below.alloc ?_ (by simp <;> omega) _ | refine Below.drew ?_ | refine below_drewN ?_ _ | exact Below.refl _ _)) (hb.mono (by simp <;> omega)))
  have Z2 := Lib.hid (Z0.out.below hb)
  have O2 := Lib.hid ho2
  have hg3 : w.heap.size + 2 ≤ g2 := by simp at hg2; omega
  clear hb ho2 k0 k1 hfz hg2
  obtain ⟨k0, k1⟩ := Z2.out.box
  have hfz := Z2.out.fz
  go_wp2_with fail
  refine bodyPost_ret (v := .tuple #[.agg #[.int .i64 (ifI v m), .slice A2 (ifN v n) c2], .bool v]) ?r1 rfl ?r2
  case r1 => simp [results, Try.results61, go_sem, k0, k1]
  case r2 => exact ⟨A2, c2, g2, rfl, by omega, trivial, own_setP' (own_setP' O2.out (fun _ => by omega)) (fun _ => by omega), (by repeat (first | with_reducible exact Below.refl _ _ | exact Hid.out (by with_reducible assumption) | refine Below.setCell ?_ (by simp <;> omega) _ | refine below_alloc ?_ _ | refine Below.alloc ?_ (by simp <;> omega) _ | refine Below.drew ?_ | refine below_drewN ?_ _ | exact Below.refl _ _))⟩
end Go.Proofs.Ytfpombhhnojjhaa
