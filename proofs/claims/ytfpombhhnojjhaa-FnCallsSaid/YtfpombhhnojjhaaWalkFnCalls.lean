/- The law on partners and depths walked. -/
import Derived.Test.YtfpombhhnojjhaaCallM
import Derived.Test.YtfpombhhnojjhaaDrawB
import Derived.Deep.CutRange
set_option linter.unusedVariables false
set_option linter.unusedSimpArgs false
namespace Go.Proofs.Ytfpombhhnojjhaa
open Go.RowKit
def kinds3 (i : Nat) : Int := if i = 0 then 0 else if i = 1 then 1 else 2
theorem kinds3_cells {w : World} {t : TypeId} : Cells (w.alloc (.cells #[.int .i64 0, .int .i64 1, .int .i64 2] t)) (some ⟨w.heap.size, 0, none⟩) 3 (fun i => .int .i64 (kinds3 i)) := by
  intro k hk
  have : k = 0 ∨ k = 1 ∨ k = 2 := by omega
  rcases this with rfl | rfl | rfl <;> exact ⟨_, rfl, by rw [add0]; simp [go_sem, kinds3]⟩
theorem kinds3_ok {n : Nat} {f : Nat → Int} (hn : n ≤ 12) (h : ∀ i, i < n → 0 ≤ f i ∧ f i ≤ 2) : partOk n f 3 kinds3 = true := by
  unfold partOk
  rw [show allP kindB kinds3 3 = true from by decide, show inB ((3 : Nat) : Int) 1 4 = true from by decide]
  simp only [Bool.true_and]
  exact wordB_iff.2 ⟨fun i hi => by have := h i hi; omega, hn⟩
/-- What the law asks of each letter. -/
theorem calls_at {n : Nat} {f : Nat → Int} (h : ∀ i, i < n → 0 ≤ f i ∧ f i ≤ 2) {k : Nat} (hk : k < n) :
    (f k = 0 ∧ partF n f kinds3 k = -1 ∧ depF n f kinds3 k = (depV f kinds3 k : Int) ∧ depV f kinds3 (k + 1) = depV f kinds3 k) ∨
    (f k = 1 ∧ partF n f kinds3 k = -1 ∧ depF n f kinds3 k = (depV f kinds3 k : Int) + 1 ∧ depV f kinds3 (k + 1) = depV f kinds3 k + 1) ∨
    (f k = 2 ∧ partF n f kinds3 k = -1 ∧ depF n f kinds3 k = 0 ∧ depV f kinds3 k = 0 ∧ depV f kinds3 (k + 1) = 0) ∨
    (∃ p : Nat, f k = 1 ∧ partF n f kinds3 k = p ∧ p < n ∧ partF n f kinds3 p = k ∧ f p = 2 ∧ k < p ∧ depF n f kinds3 k = (depV f kinds3 k : Int) + 1 ∧ depV f kinds3 (k + 1) = depV f kinds3 k + 1) ∨
    (∃ p : Nat, f k = 2 ∧ partF n f kinds3 k = p ∧ p < n ∧ partF n f kinds3 p = k ∧ f p = 1 ∧ p < k ∧ depF n f kinds3 k = (depV f kinds3 k : Int) - 1 ∧ 0 < depV f kinds3 k ∧ depV f kinds3 (k + 1) = depV f kinds3 k - 1) := by
  have hc : ∀ i, i < n → kinds3 (f i).toNat = f i := fun i hi => by
    obtain ⟨a, b⟩ := h i hi
    have : f i = 0 ∨ f i = 1 ∨ f i = 2 := by omega
    rcases this with e | e | e <;> rw [e] <;> rfl
  have hI := pinv_all (f := f) (g := kinds3) (c := fun i => kinds3 (f i).toNat) (fun _ => rfl) n
  have hD : depF n f kinds3 k = (depV f kinds3 (k + 1) : Int) := depL_getD f kinds3 n k hk
  obtain ⟨a, b⟩ := h k hk
  have hck := hc k hk
  rcases hI.ok k hk with h0 | ⟨p, h1, h2, h3, h4, h5⟩
  · have h0' : partF n f kinds3 k = -1 := h0
    have : f k = 0 ∨ f k = 1 ∨ f k = 2 := by omega
    rcases this with e | e | e
    · have hd := dep_0 (f := f) (g := kinds3) (t := k) (by rw [hck]; omega) (by rw [hck]; omega)
      exact .inl ⟨e, h0', by rw [hD, hd], hd⟩
    · have hd := dep_1 (f := f) (g := kinds3) (t := k) (by rw [hck]; omega)
      exact .inr (.inl ⟨e, h0', by rw [hD, hd]; simp, hd⟩)
    · have hd := dep_2 (f := f) (g := kinds3) (t := k) (by rw [hck]; omega)
      have hz := (ret_part hk (by rw [hck]; omega)).1 h0'
      exact .inr (.inr (.inl ⟨e, h0', by rw [hD, hd, hz]; rfl, hz, by rw [hd, hz]⟩))
  · have h1' : partF n f kinds3 k = p := h1
    have h3' : partF n f kinds3 p = k := h3
    have h4 : kinds3 (f k).toNat + kinds3 (f p).toNat = 3 := h4
    have h5 : kinds3 (f k).toNat = 2 ↔ p < k := h5
    rw [hck, hc p h2] at h4
    rw [hck] at h5
    obtain ⟨pa, pb⟩ := h p h2
    have hkp : p ≠ k := fun e => by rw [e] at h4; omega
    have : f k = 1 ∨ f k = 2 := by omega
    rcases this with e | e
    · have hd := dep_1 (f := f) (g := kinds3) (t := k) (by rw [hck]; omega)
      have : ¬ p < k := fun q => by have := h5.2 q; omega
      exact .inr (.inr (.inr (.inl ⟨p, e, h1', h2, h3', by omega, by omega, by rw [hD, hd]; simp, hd⟩)))
    · have hd := dep_2 (f := f) (g := kinds3) (t := k) (by rw [hck]; omega)
      have hz : ¬ depV f kinds3 k = 0 := fun q => by have := (ret_part (f := f) (g := kinds3) hk (by rw [hck]; omega)).2 q; omega
      exact .inr (.inr (.inr (.inr ⟨p, e, h1', h2, h3', by omega, h5.1 e, by rw [hD, hd]; omega, by omega, hd⟩)))
set_option maxRecDepth 20000 in
set_option maxHeartbeats 8000000 in
theorem fnCalls.walk (A : Option Addr) (n c : Nat) (z0 : List Int) (B : Option Addr) (m d : Nat) (z1 : List Int) (w : World) (H0 : IsRow .u8 w A n c z0) (H1 : IsRow .u8 w B m d z1) :
    Calls Try.prog 12 #[.slice A n c, .slice B m d] w fun e w' => e = .returned (.bool true) ∧ Below w.heap.size w w' := by
  have na := isRowU8_len H0
  have nb := isRowU8_len H1
  have HL := Lib.hid (b10Long_any A n c B m d w na nb)
  obtain ⟨ca, fa⟩ := isRowU8_cells H0
  obtain ⟨cb, fb⟩ := isRowU8_cells H1
  generalize (fun i => z0.getD i 0) = f0 at *
  generalize (fun i => z1.getD i 0) = f1 at *
  have HA := Lib.hid ca
  have HB := Lib.hid cb
  have FA := Lib.hid fa
  have FB := Lib.hid fb
  clear H0 H1 ca cb fa fb
  by_cases hlen : n ≤ 1048576 ∧ m ≤ 1048576
  rotate_left
  · have hbb : (!(decide (n ≤ 1048576) && decide (m ≤ 1048576))) = true := by
      by_cases h1 : n ≤ 1048576
      · have h2 : ¬ m ≤ 1048576 := fun h => hlen ⟨h1, h⟩
        simp [h2]
      · simp [h1]
    rw [hbb] at HL
    go_enter Try.func12, Try.ntmps12
    go_wp2_with fail
    refine HL.out.mono ?_
    rintro e w' ⟨rfl, rfl⟩
    go_wp2_with fail
    go_ret
    exact ⟨rfl, Below.refl _ _⟩
  obtain ⟨hn, hm⟩ := hlen
  have hbb : (!(decide (n ≤ 1048576) && decide (m ≤ 1048576))) = false := by simp [hn, hm]
  rw [hbb] at HL
  clear hbb
  have HAT := Lib.hid (fun W h => b10At_any B m d f1 0 13 W hm (by omega) (by omega) h FB.out)
  have hat := atB_range (n := m) (f := f1) (i := 0) (k := 13)
  generalize atB m f1 0 13 = r0 at *
  obtain ⟨N, rfl⟩ : ∃ N : Nat, r0 = (N : Int) := ⟨r0.toNat, by omega⟩
  have hN : N ≤ 12 := by omega
  clear hat
  have HW := Lib.hid (fun W h => B10Word_any A n c f0 3 N W hn (by omega) (by omega) h FA.out)
  have HK := Lib.hid (kinds3_cells (w := w) (t := 2))
  go_enter Try.func12, Try.ntmps12
  go_wp2_with fail
  refine HL.out.mono ?_
  rintro e w' ⟨rfl, rfl⟩
  go_wp2_with fail
  refine (HAT.out _ (HB.out.below (by repeat (first | with_reducible exact Below.refl _ _ | exact Hid.out (by with_reducible assumption) | refine Below.setCell ?_ (by simp <;> omega) _ | refine below_alloc ?_ _ | refine Below.alloc ?_ (by simp <;> omega) _ | refine Below.drew ?_ | refine below_drewN ?_ _ | exact Below.refl _ _)))).mono ?_
  rintro e w' ⟨rfl, rfl⟩
  go_wp2_with fail
  refine (HW.out _ (HA.out.below (by repeat (first | with_reducible exact Below.refl _ _ | exact Hid.out (by with_reducible assumption) | refine Below.setCell ?_ (by simp <;> omega) _ | refine below_alloc ?_ _ | refine Below.alloc ?_ (by simp <;> omega) _ | refine Below.drew ?_ | refine below_drewN ?_ _ | exact Below.refl _ _)))).mono ?_
  rintro e w1 ⟨v, L, rfl, ho, hl, hx, hb⟩
  obtain ⟨A1, c1, g1, rfl, -, hoc⟩ := own_valsI ho hl.symm
  obtain ⟨F, hFd⟩ : ∃ F : Nat → Int, F = (fun i => L.getD i 0) := ⟨_, rfl⟩
  have HC := Lib.hid (show Cells w1 A1 N (fun i => .int .i64 (F i)) from by rw [hFd]; exact hoc.cells)
  have HK1 := Lib.hid (HK.out.below hb)
  have HB1 := Lib.hid (show Below w.heap.size w w1 from Below.trans (by repeat (first | with_reducible exact Below.refl _ _ | exact Hid.out (by with_reducible assumption) | refine Below.setCell ?_ (by simp <;> omega) _ | refine below_alloc ?_ _ | refine Below.alloc ?_ (by simp <;> omega) _ | refine Below.drew ?_ | refine below_drewN ?_ _ | exact Below.refl _ _)) (hb.mono (by simp <;> omega)))
  have hF' : ∀ i, i < N → 0 ≤ F i ∧ F i ≤ 2 := fun i hi => by
    have hm : L.getD i 0 ∈ L := by
      have : i < L.length := by omega
      simp only [List.getD_eq_getElem?_getD, List.getElem?_eq_getElem this, Option.getD_some]
      exact List.getElem_mem this
    have := hx _ hm
    rw [hFd]
    show 0 ≤ L.getD i 0 ∧ L.getD i 0 ≤ 2
    omega
  clear ho hl hx hoc hb HK hFd
  have hok := kinds3_ok hN hF'
  have HAT2 := Lib.hid (fun k (hk : k < N) => calls_at hF' hk)
  have HP := Lib.hid (fun W h1 h2 => implPartnersOf_any A1 N c1 F (some ⟨w.heap.size, 0, none⟩) 3 3 kinds3 W (by omega) h1 (by omega) h2)
  have HD := Lib.hid (fun W h1 h2 => implDepthsOf_any A1 N c1 F (some ⟨w.heap.size, 0, none⟩) 3 3 kinds3 W (by omega) h1 (by omega) h2)
  unfold partN at HP HD
  rw [hok] at HP HD
  clear hok hF'
  go_wp2_with fail
  refine (HP.out _ (HC.out.below (by repeat (first | with_reducible exact Below.refl _ _ | exact Hid.out (by with_reducible assumption) | refine Below.setCell ?_ (by simp <;> omega) _ | refine below_alloc ?_ _ | refine Below.alloc ?_ (by simp <;> omega) _ | refine Below.drew ?_ | refine below_drewN ?_ _ | exact Below.refl _ _))) (HK1.out.below (by repeat (first | with_reducible exact Below.refl _ _ | exact Hid.out (by with_reducible assumption) | refine Below.setCell ?_ (by simp <;> omega) _ | refine below_alloc ?_ _ | refine Below.alloc ?_ (by simp <;> omega) _ | refine Below.drew ?_ | refine below_drewN ?_ _ | exact Below.refl _ _)))).mono ?_
  rintro e w2 ⟨A2, c2, g2, rfl, -, -, ho2, hb2⟩
  have HC2 := Lib.hid (show Cells w2 A2 N (fun i => .int .i64 (partF N F kinds3 i)) from ho2.cells)
  have HN2 := Lib.hid hb2
  have HB2 := Lib.hid (show Below w.heap.size w w2 from HB1.out.trans (hb2.mono HB1.out.size))
  clear ho2 hb2
  simp only [ifN, if_true]
  go_wp2_with fail
  refine (HD.out _ ((HC.out.below HN2.out).below (by repeat (first | with_reducible exact Below.refl _ _ | exact Hid.out (by with_reducible assumption) | refine Below.setCell ?_ (by simp <;> omega) _ | refine below_alloc ?_ _ | refine Below.alloc ?_ (by simp <;> omega) _ | refine Below.drew ?_ | refine below_drewN ?_ _ | exact Below.refl _ _))) ((HK1.out.below HN2.out).below (by repeat (first | with_reducible exact Below.refl _ _ | exact Hid.out (by with_reducible assumption) | refine Below.setCell ?_ (by simp <;> omega) _ | refine below_alloc ?_ _ | refine Below.alloc ?_ (by simp <;> omega) _ | refine Below.drew ?_ | refine below_drewN ?_ _ | exact Below.refl _ _)))).mono ?_
  rintro e w3 ⟨A3, c3, g3, rfl, -, -, ho3, hb3⟩
  have HC3 := Lib.hid (show Cells w3 A3 N (fun i => .int .i64 (depF N F kinds3 i)) from ho3.cells)
  have HC2b := Lib.hid (HC2.out.below hb3)
  have HC1b := Lib.hid ((HC.out.below HN2.out).below hb3)
  have HB3 := Lib.hid (show Below w.heap.size w w3 from HB2.out.trans (hb3.mono HB2.out.size))
  clear ho3 hb3 HC HC2 HK1 HN2 HB1 HB2 HP HD
  simp only [ifN, if_true]
  go_wp2_with fail
  go_loopw [12, 57] (fun bv iv wr => ∃ k q : Nat, k ≤ N ∧ iv = .int .i64 k ∧ bv = .int .i64 ((depV F kinds3 k : Nat) : Int) ∧ Hid (wr = w3.drewN q)) (fun _ iv _ => N - (intOf iv).toNat)
  case atStart => exact ⟨0, 0, Nat.zero_le _, rfl, rfl, rfl⟩
  case round =>
    obtain ⟨k, q, hk, rfl, rfl, hw⟩ := hrel
    by_cases hlt : k < N
    rotate_left
    · have d1 : ¬ (k : Int) < N := by omega
      have HF := Lib.hid (show Below w.heap.size w wr from by rw [hw.out]; exact below_drewN HB3.out _)
      generalize ((depV F kinds3 k : Nat) : Int) = dn at *
      go_wp2_with fail
      go_ret
      exact ⟨rfl, HF.out⟩
    have d1 : (k : Int) < N := by omega
    obtain ⟨x1, rfl, y1⟩ := HC1b.out k hlt
    obtain ⟨x2, rfl, y2⟩ := HC2b.out k hlt
    obtain ⟨x3, rfl, y3⟩ := HC3.out k hlt
    have e1 : wr.cell? (x1.add k) = some (.int .i64 (F k)) := by rw [hw.out]; exact y1
    have e2 : wr.cell? (x2.add k) = some (.int .i64 (partF N F kinds3 k)) := by rw [hw.out]; exact y2
    have e3 : wr.cell? (x3.add k) = some (.int .i64 (depF N F kinds3 k)) := by rw [hw.out]; exact y3
    clear y1 y2 y3
    have HRR := Lib.hid (fun p (hp : p < N) => show wr.cell? (x1.add p) = some (.int .i64 (F p)) ∧ wr.cell? (x2.add p) = some (.int .i64 (partF N F kinds3 p)) from by
      obtain ⟨a1, q1, s1⟩ := HC1b.out p hp
      obtain ⟨a2, q2, s2⟩ := HC2b.out p hp
      cases q1
      cases q2
      exact ⟨by rw [hw.out]; exact s1, by rw [hw.out]; exact s2⟩)
    have hq0 : 0 ≤ ((depV F kinds3 k : Nat) : Int) := by omega
    have hq1 : ((depV F kinds3 k : Nat) : Int) ≤ 1000 := by have := dep_le F kinds3 k; omega
    rcases HAT2.out k hlt with ⟨a1, a2, a3, a4⟩ | ⟨a1, a2, a3, a4⟩ | ⟨a1, a2, a3, a4, a5⟩ | ⟨p, a1, a2, a3, a4, a5, a6, a7, a8⟩ | ⟨p, a1, a2, a3, a4, a5, a6, a7, a8, a9⟩
    · rw [a1] at e1
      rw [a2] at e2
      rw [a3] at e3
      have HX := Lib.hid a4
      clear a1 a2 a3 a4 HAT2 HRR
      generalize depV F kinds3 k = D at *
      go_wp2_with fail
      go_quiet (fail)
      go_wp2_with fail
      exact ⟨⟨k + 1, q + nq, by omega, by simp, by rw [HX.out], Lib.hid (by rw [hw.out]; exact World.drewN_drewN ..)⟩, by simp [intOf]; omega⟩
    · rw [a1] at e1
      rw [a2] at e2
      rw [a3] at e3
      have HX := Lib.hid a4
      clear a1 a2 a3 a4 HAT2 HRR
      generalize depV F kinds3 k = D at *
      have d2 : ¬ (D : Int) + 1 < 0 := by omega
      go_wp2_with fail
      go_quiet (fail)
      go_wp2_with fail
      exact ⟨⟨k + 1, q + nq, by omega, by simp, by simp [HX.out], Lib.hid (by rw [hw.out]; exact World.drewN_drewN ..)⟩, by simp [intOf]; omega⟩
    · rw [a1] at e1
      rw [a2] at e2
      rw [a3] at e3
      have HX := Lib.hid a5
      rw [a4] at hq0 hq1 ⊢
      clear a1 a2 a3 a4 a5 HAT2 HRR
      go_wp2_with fail
      go_quiet (fail)
      go_wp2_with fail
      exact ⟨⟨k + 1, q + nq, by omega, by simp, by rw [HX.out], Lib.hid (by rw [hw.out]; exact World.drewN_drewN ..)⟩, by simp [intOf]; omega⟩
    · rw [a1] at e1
      rw [a2] at e2
      rw [a7] at e3
      obtain ⟨e4, e5⟩ := HRR.out p a3
      rw [a5] at e4
      rw [a4] at e5
      have HX := Lib.hid a8
      have d2 : (p : Int) < N := by omega
      have d3 : ¬ (p : Int) < k := by omega
      have n1 : ¬ N ≤ p := by omega
      have n2 : ¬ p < k := by omega
      have n3 : 0 ≤ (p : Int) := by omega
      have b1 : ((p : Int) != -1) = true := by simp <;> omega
      have b2 : IntKind.i64.wrap 3 = 3 := by decide
      have d4 : ¬ (N : Int) ≤ p := by omega
      clear a1 a2 a4 a5 a7 a8 HAT2 HRR
      generalize depV F kinds3 k = D at *
      have d5 : ¬ (D : Int) + 1 < 0 := by omega
      go_wp2_with fail
      go_quiet (fail)
      go_wp2_with fail
      exact ⟨⟨k + 1, q + nq, by omega, by simp, by simp [HX.out], Lib.hid (by rw [hw.out]; exact World.drewN_drewN ..)⟩, by simp [intOf]; omega⟩
    · rw [a1] at e1
      rw [a2] at e2
      rw [a7] at e3
      obtain ⟨e4, e5⟩ := HRR.out p a3
      rw [a5] at e4
      rw [a4] at e5
      have HX := Lib.hid a9
      have HX2 := Lib.hid a8
      have d2 : (p : Int) < N := by omega
      have d3 : (p : Int) < k := by omega
      have n1 : ¬ N ≤ p := by omega
      have n2 : p < k := by omega
      have n3 : 0 ≤ (p : Int) := by omega
      have b1 : ((p : Int) != -1) = true := by simp <;> omega
      have b2 : IntKind.i64.wrap 3 = 3 := by decide
      have d4 : ¬ (N : Int) ≤ p := by omega
      clear a1 a2 a4 a5 a7 a9 HAT2 HRR
      generalize depV F kinds3 k = D at *
      have d5 : ¬ (D : Int) - 1 < 0 := by omega
      have hwd : IntKind.i64.wrap ((D : Int) - 1) = (D : Int) - 1 := by rw [IntKind.wrap_i64]; omega
      have hDD : ((D - 1 : Nat) : Int) = (D : Int) - 1 := by omega
      go_wp2_with fail
      go_quiet (fail)
      go_wp2_with fail
      exact ⟨⟨k + 1, q + nq, by omega, by simp, by rw [HX.out, hDD], Lib.hid (by rw [hw.out]; exact World.drewN_drewN ..)⟩, by simp [intOf]; omega⟩
end Go.Proofs.Ytfpombhhnojjhaa
