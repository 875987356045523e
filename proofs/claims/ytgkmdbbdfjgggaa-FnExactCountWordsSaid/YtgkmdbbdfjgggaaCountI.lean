/- Counting words: the program's. -/
import Derived.Test.YtgkmdbbdfjgggaaCountS
import Derived.Test.YtgkmdbbdfjgggaaReadsW
set_option linter.unusedVariables false
namespace Go.Proofs.Ytgkmdbbdfjgggaa
open Go.RowKit

/-- What is counted of a state's words so far. -/
def partW (l : Nat) (f : Nat → Int) (g : Nat → Bool) (q i a : Nat) : Int := sumTo (fun a => wordsF l f g q (f (i * l + a)).toNat) a
theorem partW_range (l : Nat) (f : Nat → Int) (g : Nat → Bool) (q i : Nat) {a : Nat} (ha : a ≤ l) : 0 ≤ partW l f g q i a ∧ partW l f g q i a ≤ ((l ^ (q + 1) : Nat) : Int) := by
  have nn : ∀ b, b < l → 0 ≤ wordsF l f g q (f (i * l + b)).toNat := fun b _ => (wordsF_range l f g q _).1
  refine ⟨sumTo_nonneg fun b hb => nn b (by omega), ?_⟩
  have h1 : partW l f g q i a ≤ partW l f g q i l := sumTo_mono nn ha
  have h2 : partW l f g q i l = wordsF l f g (q + 1) i := rfl
  have := (wordsF_range l f g (q + 1) i).2
  omega
/-- Row of counts, as far as it is filled. -/
def fillW (V U : Nat → Int) (k j : Nat) : Int := if j < k then V j else U j

set_option maxRecDepth 20000 in
set_option maxHeartbeats 8000000 in
theorem implCountWords_any
  (s l : Int) (A B : Option Addr) (n c m d : Nat) (f : Nat → Int) (g : Nat → Bool) (x : Int) (w : World) (hn : n ≤ 1048576) (hm : m ≤ 1048576) (hA : Cells w A n (fun i => .int .i64 (f i))) (hB : Cells w B m (fun i => .bool (g i)))
  : Calls Try.prog 29 #[.agg #[.int .i64 s, .int .i64 l, .slice A n c, .slice B m d], .int .i64 x] w fun e w' => e = .returned (.tuple #[.int .i64 (countP s l n m f g x), .bool (countOk s l n m f x)]) ∧ Below w.heap.size w w' := by
  obtain ⟨ci, hci, hcz, hcs, hcb⟩ := info_parts infoCW
  have HP := Lib.hid (fun W h => implValidPlain_any s l A B n c m d f W (by omega) (by omega) h)
  have HX := Lib.hid (fun W => between_any x 0 12 W)
  have HA := Lib.hid hA
  have HB := Lib.hid hB
  have HO := Lib.hid (show countOk s l n m f x = (validP s l n m f && inB x 0 12) from rfl)
  have HC := Lib.hid (show countOk s l n m f x = false → countP s l n m f g x = 0 from fun h => by unfold countP; rw [h]; rfl)
  clear hA hB
  cases hv : validP s l n m f
  · have h1 : countOk s l n m f x = false := by rw [HO.out, hv]; rfl
    have h2 := HC.out h1
    rw [h1, h2]
    have hv' := Lib.hid hv
    clear h1 h2 hv HO HC
    go_enter Try.func29, Try.ntmps29
    go_wp2_with fail
    refine (HP.out _ (HA.out.below (by repeat (first | exact Below.refl _ _ | exact Hid.out (by assumption) | refine below_alloc ?_ _ | refine Below.setCell ?_ (by simp <;> omega) _ | refine Below.alloc ?_ (by simp <;> omega) _ | refine Below.drew ?_ | refine below_drewN ?_ _)))).mono ?_
    rw [hv'.out]
    rintro e w1 ⟨rfl, hb⟩
    have N1 := Lib.hid (show Below w.heap.size w w1 from Below.trans (by repeat (first | exact Below.refl _ _ | exact Hid.out (by assumption) | refine below_alloc ?_ _ | refine Below.setCell ?_ (by simp <;> omega) _ | refine Below.alloc ?_ (by simp <;> omega) _ | refine Below.drew ?_ | refine below_drewN ?_ _)) (hb.mono (by simp)))
    clear hb
    go_wp2_with fail
    refine bodyPost_ret (v := .tuple #[.int .i64 0, .bool false]) (by simp [results, Try.results29, go_sem]) rfl ⟨rfl, N1.out⟩
  · cases hx : inB x 0 12
    · have h1 : countOk s l n m f x = false := by rw [HO.out, hv, hx]; rfl
      have h2 := HC.out h1
      rw [h1, h2]
      have hv' := Lib.hid hv
      have hx' := Lib.hid hx
      clear h1 h2 hv hx HO HC
      go_enter Try.func29, Try.ntmps29
      go_wp2_with fail
      refine (HP.out _ (HA.out.below (by repeat (first | exact Below.refl _ _ | exact Hid.out (by assumption) | refine below_alloc ?_ _ | refine Below.setCell ?_ (by simp <;> omega) _ | refine Below.alloc ?_ (by simp <;> omega) _ | refine Below.drew ?_ | refine below_drewN ?_ _)))).mono ?_
      rw [hv'.out]
      rintro e w1 ⟨rfl, hb⟩
      have N1 := Lib.hid (show Below w.heap.size w w1 from Below.trans (by repeat (first | exact Below.refl _ _ | exact Hid.out (by assumption) | refine below_alloc ?_ _ | refine Below.setCell ?_ (by simp <;> omega) _ | refine Below.alloc ?_ (by simp <;> omega) _ | refine Below.drew ?_ | refine below_drewN ?_ _)) (hb.mono (by simp)))
      clear hb
      go_wp2_with fail
      refine (HX.out _).mono ?_
      rw [hx'.out]
      rintro e w2 ⟨rfl, rfl⟩
      go_wp2_with fail
      refine bodyPost_ret (v := .tuple #[.int .i64 0, .bool false]) (by simp [results, Try.results29, go_sem]) rfl ⟨rfl, N1.out⟩
    · have h1 : countOk s l n m f x = true := by rw [HO.out, hv, hx]; rfl
      obtain ⟨x1, x2⟩ := inB_iff.1 hx
      obtain ⟨X, rfl⟩ : ∃ X : Nat, x = X := ⟨x.toNat, by omega⟩
      obtain ⟨S, L, rfl, rfl, s1, s2, l1, l2, rfl, rfl, hf⟩ := validP_nat hv
      have h2 := countP_ok (g := g) h1
      rw [h1, h2]
      have hv' := Lib.hid hv
      have hx' := Lib.hid hx
      have HF := Lib.hid hf
      have hsl : m * L ≤ 256 := Nat.mul_le_mul s2 l2
      have HNx := Lib.hid (fun t z W h1 h2 h3 h4 h => nextOf_any m L A B (m * L) c m d f t z W hn h1 h2 h3 h4 h)
      clear h1 h2 hv hx HO HC hf
      go_enter Try.func29, Try.ntmps29
      go_wp2_with fail
      refine (HP.out _ (HA.out.below (by repeat (first | exact Below.refl _ _ | exact Hid.out (by assumption) | refine below_alloc ?_ _ | refine Below.setCell ?_ (by simp <;> omega) _ | refine Below.alloc ?_ (by simp <;> omega) _ | refine Below.drew ?_ | refine below_drewN ?_ _)))).mono ?_
      rw [hv'.out]
      rintro e wb ⟨rfl, hb⟩
      have NB := Lib.hid (show Below w.heap.size w wb from Below.trans (by repeat (first | exact Below.refl _ _ | exact Hid.out (by assumption) | refine below_alloc ?_ _ | refine Below.setCell ?_ (by simp <;> omega) _ | refine Below.alloc ?_ (by simp <;> omega) _ | refine Below.drew ?_ | refine below_drewN ?_ _)) (hb.mono (by simp)))
      have XB := Lib.hid (Box4.below (Box4.new w 28 (.int .i64 m) (.int .i64 L) (.slice A (m * L) c) (.slice B m d)) hb)
      clear hb
      have HAb := Lib.hid (HA.out.below NB.out)
      have HBb := Lib.hid (HB.out.below NB.out)
      go_wp2_with fail
      refine (HX.out _).mono ?_
      rw [hx'.out]
      rintro e w2 ⟨rfl, rfl⟩
      clear HP HX hv' hx'
      obtain ⟨r0, r1, r2, r3⟩ := XB.out
      go_wp2_with (first
        | (at_make; refine wpList_make_full _ rfl _ _ 22 rfl wb.heap.size 2 ci (.int .i64 0) 1 Try.underlying22 hci hcz hcs .i64 .i64 _ _ m rfl rfl rfl rfl (by rw [hcb]; omega) (by unfold maxLen; omega) (Nat.le_refl _) ?_
           intro w0 hown0 hgrow0
           have NB0 := Lib.hid ((Below.refl wb.heap.size wb).grown hgrow0 (Nat.le_refl _) (fun _ h => by cases h))
           obtain ⟨hz0, ho0⟩ := made_zeros hown0
           have HO0 := Lib.hid ho0
           have XB0 := Lib.hid (XB.out.below NB0.out)
           obtain ⟨y0, y1, y2, y3⟩ := XB0.out
           clear hown0 hgrow0 ho0)
        | go_in)
      clear r0 r1 r2 r3 y0 y1 y2 y3
      obtain ⟨G0, hG0⟩ : ∃ G0, G0 = wb.heap.size := ⟨_, rfl⟩
      have HG0 := Lib.hid (Nat.le_of_eq hG0.symm)
      rw [← hG0] at HO0 ⊢
      clear hG0
      go_loopw [7, 8, 26] (fun _ _ i wr => ∃ k : Nat, k ≤ m ∧ i = .int .i64 k ∧ Hid (Below wb.heap.size wb wr) ∧ Hid (OwnC wr G0 (some ⟨G0, 0, none⟩) m (fun j => .int .i64 (fillW (wordsF L f g 0) (fun _ => 0) k j)))) (fun _ _ i _ => m - (intOf i).toNat)
      case atStart => exact ⟨0, Nat.zero_le _, rfl, NB0.out, HO0.out.congr fun j _ => by unfold fillW; rw [if_neg (by omega)]⟩
      case round =>
        obtain ⟨k, hk, rfl, HB1, HO1⟩ := hrel
        obtain ⟨wo, rfl⟩ : ∃ wo : World, wo = wr := ⟨_, rfl⟩
        by_cases hlt : k < m
        · have d1 : (k : Int) < m := by omega
          obtain ⟨y, rfl, hy0⟩ := HBb.out k hlt
          have hy : wo.cell? (y.add k) = some (.bool (g k)) := by rw [HB1.out.cell (World.block_lt_of_cell? _ _ hy0)]; exact hy0
          obtain ⟨c1, c2⟩ := HO1.out.at0 hlt
          have HST := Lib.hid (fun v => OwnC.set0 HO1.out hlt v)
          have HW0 := Lib.hid (show wordsF L f g 0 k = if g k then 1 else 0 from rfl)
          generalize fillW (wordsF L f g 0) (fun _ => 0) k k = u at *
          clear hy0
          cases hg : g k
          · rw [hg] at hy HW0
            clear hg
            go_wp2_with fail
            refine ⟨⟨k + 1, by omega, by simp, HB1.out, HO1.out.congr fun j hj => ?_⟩, by simp [intOf]; omega⟩
            unfold fillW
            by_cases e : j = k
            · subst e; rw [if_neg (by omega), if_pos (by omega), HW0.out]; rfl
            · by_cases e2 : j < k
              · rw [if_pos e2, if_pos (by omega)]
              · rw [if_neg e2, if_neg (by omega)]
          · rw [hg] at hy HW0
            clear hg
            go_wp2_with fail
            refine ⟨⟨k + 1, by omega, by simp, Below.setCell HB1.out HG0.out _, OwnC.congr (HST.out _) fun j hj => ?_⟩, by simp [intOf]; omega⟩
            show _ = Value.int .i64 (fillW (wordsF L f g 0) (fun _ => 0) (k + 1) j)
            by_cases e : j = k
            · subst e; rw [if_pos rfl]; unfold fillW; rw [if_pos (by omega), HW0.out]; rfl
            · rw [if_neg e]
              unfold fillW
              by_cases e2 : j < k
              · rw [if_pos e2, if_pos (by omega)]
              · rw [if_neg e2, if_neg (by omega)]
        · have d1 : ¬ (k : Int) < m := by omega
          obtain rfl : m = k := by omega
          have HO1b := Lib.hid (show OwnC wo G0 (some ⟨G0, 0, none⟩) m (fun j => .int .i64 (wordsF L f g 0 j)) from HO1.out.congr fun j hj => by unfold fillW; rw [if_pos hj])
          clear HO1 HO0
          go_wp2_with fail
          go_loopw [6, 9, 10, 11, 37] (fun a _ _ _ i wr => ∃ q G : Nat, q ≤ X ∧ i = .int .i64 q ∧ a = .slice (some ⟨G, 0, none⟩) m m ∧ Hid (wb.heap.size ≤ G) ∧ Hid (Below wb.heap.size wb wr) ∧ Hid (OwnC wr G (some ⟨G, 0, none⟩) m (fun j => .int .i64 (wordsF L f g q j)))) (fun _ _ _ _ i _ => X - (intOf i).toNat)
          case atStart => exact ⟨0, G0, Nat.zero_le _, rfl, rfl, HG0.out, HB1.out, HO1b.out⟩
          case round =>
            obtain ⟨q, G, hq, rfl, rfl, HG, HB2, HO2⟩ := hrel
            have XR := Lib.hid (XB.out.below HB2.out)
            obtain ⟨r0, r1, r2, r3⟩ := XR.out
            obtain ⟨w1, rfl⟩ : ∃ w1 : World, w1 = wr := ⟨_, rfl⟩
            by_cases hlq : q < X
            · have d2 : (q : Int) < X := by omega
              have HGo := Lib.hid (HO2.out.lt (show 0 < m by omega))
              have dn := XR.out.lt
              go_wp2_with (first
                | (at_make; refine wpList_make_full _ rfl _ _ 22 rfl w1.heap.size 2 ci (.int .i64 0) 1 Try.underlying22 hci hcz hcs .i64 .i64 _ _ m rfl rfl rfl rfl (by rw [hcb]; omega) (by unfold maxLen; omega) (Nat.le_refl _) ?_
                   intro w3 hown3 hgrow3
                   have NB3 := Lib.hid ((Below.refl w1.heap.size w1).grown hgrow3 (Nat.le_refl _) (fun _ h => by cases h))
                   obtain ⟨hz3, ho3⟩ := made_zeros hown3
                   have HO3 := Lib.hid ho3
                   have HB3 := Lib.hid (HB2.out.trans (NB3.out.mono HB2.out.size))
                   have HO2b := Lib.hid (HO2.out.below NB3.out)
                   have XR3 := Lib.hid (XR.out.below NB3.out)
                   obtain ⟨p0, p1, p2, p3⟩ := XR3.out
                   clear hown3 hgrow3 ho3)
                | go_in)
              clear p0 p1 p2 p3 r0 r1 r2 r3 dn
              have HG2 := Lib.hid HB2.out.size
              have GG := Lib.hid (show G ≠ w1.heap.size from fun e => by have := HGo.out; omega)
              generalize w1.heap.size = G2 at *
              go_loopw [10, 11, 44] (fun _ _ i wr => ∃ p : Nat, p ≤ m ∧ i = .int .i64 p ∧ Hid (Below wb.heap.size wb wr) ∧ Hid (OwnC wr G (some ⟨G, 0, none⟩) m (fun j => .int .i64 (wordsF L f g q j))) ∧ Hid (OwnC wr G2 (some ⟨G2, 0, none⟩) m (fun j => .int .i64 (fillW (wordsF L f g (q + 1)) (fun _ => 0) p j)))) (fun _ _ i _ => m - (intOf i).toNat)
              case atStart => exact ⟨0, Nat.zero_le _, rfl, HB3.out, HO2b.out, HO3.out.congr fun j _ => by unfold fillW; rw [if_neg (by omega)]⟩
              case round =>
                obtain ⟨p, hp, rfl, HB4, HO4, HO5⟩ := hrel
                have XR4 := Lib.hid (XB.out.below HB4.out)
                obtain ⟨r0, r1, r2, r3⟩ := XR4.out
                obtain ⟨wp, rfl⟩ : ∃ wp : World, wp = wr := ⟨_, rfl⟩
                by_cases hlp : p < m
                · have d3 : (p : Int) < m := by omega
                  go_wp2_with fail
                  go_loopw [11, 49] (fun _ i wr => ∃ a : Nat, a ≤ L ∧ i = .int .i64 a ∧ Hid (Below wb.heap.size wb wr) ∧ Hid (OwnC wr G (some ⟨G, 0, none⟩) m (fun j => .int .i64 (wordsF L f g q j))) ∧ Hid (OwnC wr G2 (some ⟨G2, 0, none⟩) m (fun j => .int .i64 (if j = p then partW L f g q p a else fillW (wordsF L f g (q + 1)) (fun _ => 0) p j)))) (fun _ i _ => L - (intOf i).toNat)
                  case atStart =>
                    refine ⟨0, Nat.zero_le _, rfl, HB4.out, HO4.out, HO5.out.congr fun j hj => ?_⟩
                    by_cases e : j = p
                    · subst e; rw [if_pos rfl]; unfold fillW; rw [if_neg (by omega)]; rfl
                    · rw [if_neg e]
                  case round =>
                    obtain ⟨a, ha, rfl, HB6, HO6, HO7⟩ := hrel
                    clear r0 r1 r2 r3
                    have XR6 := Lib.hid (XB.out.below HB6.out)
                    obtain ⟨r0, r1, r2, r3⟩ := XR6.out
                    obtain ⟨wq, rfl⟩ : ∃ wq : World, wq = wr := ⟨_, rfl⟩
                    by_cases hla : a < L
                    · have d4 : (a : Int) < L := by omega
                      have hpl : p * L + a < m * L := by
                        have : p * L + L ≤ m * L := by rw [← Nat.succ_mul]; exact Nat.mul_le_mul_right _ hlp
                        omega
                      have hpe : (p : Int) * L = ((p * L : Nat) : Int) := (Int.natCast_mul p L).symm
                      obtain ⟨f1, f2⟩ := HF.out (p * L + a) hpl
                      obtain ⟨z, hz⟩ : ∃ z : Nat, f (p * L + a) = z := ⟨(f (p * L + a)).toNat, by omega⟩
                      have hzm : z < m := by omega
                      have HXX := Lib.hid (show ∀ W, Cells W A (m * L) (fun i => .int .i64 (f i)) → Calls Try.prog 58 #[.agg #[.int .i64 m, .int .i64 L, .slice A (m * L) c, .slice B m d], .int .i64 p, .int .i64 a] W fun e w' => e = .returned (.int .i64 z) ∧ Below W.heap.size W w' from fun W h => by
                        have := HNx.out p a W (by rw [hpe]; omega) (by rw [hpe]; omega) (by rw [hpe]; omega) (by omega) h
                        rw [hpe, show ((p * L : Nat) : Int) + (a : Int) = ((p * L + a : Nat) : Int) from rfl, Int.toNat_natCast, hz] at this
                        exact this)
                      have HPW := Lib.hid (show partW L f g q p (a + 1) = partW L f g q p a + wordsF L f g q z from by
                        show partW L f g q p a + wordsF L f g q (f (p * L + a)).toNat = _
                        rw [hz]; rfl)
                      obtain ⟨n1, n2⟩ := partW_range L f g q p (a := a) (by omega)
                      obtain ⟨n3, n4⟩ := wordsF_range L f g q z
                      have n5 := pow_le_4 (l := L) (n := q + 1) (by omega) (by omega)
                      have n6 := pow_le_4 (l := L) (n := q) (by omega) (by omega)
                      have HSp := Lib.hid (show OwnC wq G2 (some ⟨G2, 0, none⟩) m (fun j => if j = p then .int .i64 (partW L f g q p a) else .int .i64 (fillW (wordsF L f g (q + 1)) (fun _ => 0) p j)) from HO7.out.congr fun j _ => by
                        by_cases e : j = p
                        · rw [if_pos e, if_pos e]
                        · rw [if_neg e, if_neg e])
                      have HV2 := Lib.hid (show OwnC wq G (some ⟨G, 0, none⟩) m (fun j => .int .i64 (wordsF L f g q j)) from HO6.out)
                      have c0 : wq.frozen? ⟨G2, p, none⟩ = false ∧ wq.cell? ⟨G2, p, none⟩ = some (.int .i64 (partW L f g q p a)) := by
                        have := HSp.out.at0 hlp; rw [if_pos rfl] at this; exact this
                      obtain ⟨c1, c2⟩ := c0
                      obtain ⟨-, c3⟩ := HV2.out.at0 hzm
                      have C1 := Lib.hid c1
                      have C2 := Lib.hid c2
                      have C3 := Lib.hid c3
                      have L1 := HO7.out.lt (show 0 < m by omega)
                      have L2 := HO6.out.lt (show 0 < m by omega)
                      have b1 : partW L f g q p a ≤ 67108864 := by omega
                      have b2 : wordsF L f g q z ≤ 67108864 := by omega
                      clear hpe f1 f2 hz n2 n4 n5 n6
                      generalize hu : partW L f g q p a = u at *
                      have HU := Lib.hid hu
                      clear hu
                      generalize hv : wordsF L f g q z = v at *
                      clear hv
                      go_wp2_with fail
                      go_region_with ((go_at_call 58; refine (HXX.out _ (HAb.out.below (HB6.out.trans (Below.mono (by repeat (first | exact Below.refl _ _ | exact Hid.out (by assumption) | refine below_alloc ?_ _ | refine Below.setCell ?_ (by simp <;> omega) _ | refine Below.alloc ?_ (by simp <;> omega) _ | refine Below.drew ?_ | refine below_drewN ?_ _)) HB6.out.size)))).mono ?_; rintro e w8 ⟨rfl, hb⟩; have N8 := Lib.hid (show Below wq.heap.size wq w8 from Below.trans (by repeat (first | exact Below.refl _ _ | exact Hid.out (by assumption) | refine below_alloc ?_ _ | refine Below.setCell ?_ (by simp <;> omega) _ | refine Below.alloc ?_ (by simp <;> omega) _ | refine Below.drew ?_ | refine below_drewN ?_ _)) (hb.mono (by simp))); have k1 := (N8.out.frozen (p := ⟨G2, p, none⟩) L1).trans C1.out; have k2 := (N8.out.cell (p := ⟨G2, p, none⟩) L1).trans C2.out; have k3 := (N8.out.cell (p := ⟨G, z, none⟩) L2).trans C3.out; clear hb))
                      all_goals (
                        go_wp2_with fail
                        refine ⟨⟨a + 1, by omega, by simp, ?b1, ?b2, ?b3⟩, by simp [intOf]; omega⟩
                        case b1 => exact Below.setCell (HB6.out.trans (N8.out.mono HB6.out.size)) HG2.out _
                        case b2 => exact OwnC.far0 (HV2.out.below N8.out) GG.out _
                        case b3 =>
                          refine OwnC.congr (OwnC.set0 (HSp.out.below N8.out) hlp (.int .i64 (u + v))) fun j hj => ?_
                          by_cases e : j = p
                          · rw [if_pos e, if_pos e, HPW.out]
                          · rw [if_neg e, if_neg e, if_neg e])
                    · have d4 : ¬ (a : Int) < L := by omega
                      obtain rfl : L = a := by omega
                      go_wp2_with fail
                      refine ⟨⟨p + 1, by omega, by simp, HB6.out, HO6.out, HO7.out.congr fun j hj => ?_⟩, by simp [intOf]; omega⟩
                      unfold fillW
                      by_cases e : j = p
                      · subst e; rw [if_pos rfl, if_pos (by omega)]; rfl
                      · rw [if_neg e]
                        by_cases e2 : j < p
                        · rw [if_pos e2, if_pos (by omega)]
                        · rw [if_neg e2, if_neg (by omega)]
                · have d3 : ¬ (p : Int) < m := by omega
                  obtain rfl : m = p := by omega
                  go_wp2_with fail
                  exact ⟨⟨q + 1, G2, by omega, by simp, rfl, HG2.out, HB4.out, HO5.out.congr fun j hj => by unfold fillW; rw [if_pos hj]⟩, by simp [intOf]; omega⟩
            · have d2 : ¬ (q : Int) < X := by omega
              obtain rfl : X = q := by omega
              obtain ⟨-, c3⟩ := HO2.out.at0 (show 0 < m by omega)
              have dm : (0 : Int) < m := by omega
              generalize hv : wordsF L f g X 0 = v at *
              have HV := Lib.hid hv
              clear hv
              go_wp2_with fail
              refine bodyPost_ret (v := .tuple #[.int .i64 v, .bool true]) (by simp [results, Try.results29, go_sem]) rfl ⟨by rw [HV.out], NB.out.trans (HB2.out.mono NB.out.size)⟩
end Go.Proofs.Ytgkmdbbdfjgggaa
