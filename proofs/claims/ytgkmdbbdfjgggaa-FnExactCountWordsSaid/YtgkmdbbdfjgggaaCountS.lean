/- Counting words: the reference's. -/
import Derived.Test.YtgkmdbbdfjgggaaCountM2
import Derived.Test.YtgkmdbbdfjgggaaPlainV
import Derived.Test.YtgkmdbbdfjgggaaBoxP
import Derived.Laws.OwnMore
set_option linter.unusedVariables false
namespace Go.Proofs.Ytgkmdbbdfjgggaa
open Go.RowKit

theorem infoCW : (Try.prog.info? 2).map (fun i => (i.zero, i.size, i.bytes)) = some (some (.int .i64 0), 1, 8) := by kernel_rfl
/-- A row of zeros that was just made. -/
theorem made_zeros {w : World} {base : Nat} {e : TypeId} {g c n : Nat} (h : w.ownsRow base e 1 (.slice (some ⟨g, 0, none⟩) n c) n (madeCells (Value.int .i64 0).cells (n * 1)).toList) :
    g < w.heap.size ∧ OwnC w g (some ⟨g, 0, none⟩) n (fun _ => .int .i64 0) := by
  obtain ⟨h1, h2⟩ := OwnC.made h
  rw [Nat.mul_one] at h2
  refine ⟨h1, h2.congr fun k hk => ?_⟩
  simp [madeCells, Value.cells, List.getD, hk, Nat.mod_one]
theorem OwnC.at0 {w : World} {g n k : Nat} {V : Nat → Value} (h : OwnC w g (some ⟨g, 0, none⟩) n V) (hk : k < n) : w.frozen? ⟨g, k, none⟩ = false ∧ w.cell? ⟨g, k, none⟩ = some (V k) := by
  obtain ⟨x, hx, _, h3, h4⟩ := h k hk
  cases hx
  rw [add0] at h3 h4
  exact ⟨h3, h4⟩
theorem OwnC.set0 {w : World} {g n k : Nat} {V : Nat → Value} (h : OwnC w g (some ⟨g, 0, none⟩) n V) (hk : k < n) (v : Value) : OwnC (w.setCell ⟨g, k, none⟩ v) g (some ⟨g, 0, none⟩) n (fun i => if i = k then v else V i) := by
  have := h.set rfl hk v
  rw [add0] at this
  exact this
theorem OwnC.far0 {w : World} {g q k n : Nat} {A : Option Addr} {V : Nat → Value} (h : OwnC w g A n V) (hq : g ≠ q) (v : Value) : OwnC (w.setCell ⟨q, k, none⟩ v) g A n V :=
  h.within (lo := q) (hi := q + 1) (Within.setCell w (p := ⟨q, k, none⟩) (Nat.le_refl _) (Nat.lt_succ_self _) v) (fun _ => by omega)
def countOk (s l : Int) (n m : Nat) (f : Nat → Int) (x : Int) : Bool := validP s l n m f && inB x 0 12
def countP (s l : Int) (n m : Nat) (f : Nat → Int) (g : Nat → Bool) (x : Int) : Int := if countOk s l n m f x then wordsF l.toNat f g x.toNat 0 else 0
/-- What a valid plain machine tells. -/
theorem validP_nat {s l : Int} {n m : Nat} {f : Nat → Int} (h : validP s l n m f = true) : ∃ S L : Nat, s = S ∧ l = L ∧ 1 ≤ S ∧ S ≤ 64 ∧ 1 ≤ L ∧ L ≤ 4 ∧ n = S * L ∧ m = S ∧ (∀ i, i < S * L → 0 ≤ f i ∧ (f i).toNat < S) := by
  obtain ⟨s1, s2, l1, l2, h3, h4, h5⟩ := validP_iff.1 h
  obtain ⟨S, rfl⟩ : ∃ S : Nat, s = S := ⟨s.toNat, by omega⟩
  obtain ⟨L, rfl⟩ : ∃ L : Nat, l = L := ⟨l.toNat, by omega⟩
  have e : (S : Int) * L = ((S * L : Nat) : Int) := (Int.natCast_mul S L).symm
  rw [e] at h3
  exact ⟨S, L, rfl, rfl, by omega, by omega, by omega, by omega, by omega, by omega, fun i hi => by obtain ⟨q1, q2⟩ := h5 i (by omega); exact ⟨q1, by omega⟩⟩
theorem countP_ok {S L : Nat} {n m : Nat} {f : Nat → Int} {g : Nat → Bool} {X : Nat} (h : countOk S L n m f X = true) : countP S L n m f g X = wordsF L f g X 0 := by
  unfold countP; rw [if_pos h]; rfl

set_option maxRecDepth 20000 in
set_option maxHeartbeats 4000000 in
theorem specCountWords_any
  (s l : Int) (A B : Option Addr) (n c m d : Nat) (f : Nat → Int) (g : Nat → Bool) (x : Int) (w : World) (hn : n ≤ 1048576) (hm : m ≤ 1048576) (hA : Cells w A n (fun i => .int .i64 (f i))) (hB : Cells w B m (fun i => .bool (g i)))
  : Calls Try.prog 28 #[.agg #[.int .i64 s, .int .i64 l, .slice A n c, .slice B m d], .int .i64 x] w fun e w' => e = .returned (.tuple #[.int .i64 (countP s l n m f g x), .bool (countOk s l n m f x)]) ∧ Below w.heap.size w w' := by
  obtain ⟨ci, hci, hcz, hcs, hcb⟩ := info_parts infoCW
  have HP := Lib.hid (fun P W b h => l02Plain_any P s l A B n c m d f W (by omega) (by omega) h (Box4.c0 b) (Box4.c1 b) (Box4.c2 b) (Box4.c3 b))
  have HX := Lib.hid (fun W => l00In_any x 0 12 W)
  have HA := Lib.hid hA
  have HB := Lib.hid hB
  have HO := Lib.hid (show countOk s l n m f x = (validP s l n m f && inB x 0 12) from rfl)
  have HC := Lib.hid (show countOk s l n m f x = false → countP s l n m f g x = 0 from fun h => by unfold countP; rw [h]; rfl)
  clear hA hB
  cases hv : validP s l n m f
  · have h1 : countOk s l n m f x = false := by rw [HO.out, hv]; rfl
    have h2 := HC.out h1
    rw [h1, h2]
    have hv' := Lib.hid hv
    clear h1 h2 hv HO HC
    go_enter Try.func28, Try.ntmps28
    go_wp2_with fail
    refine (HP.out _ _ (Box4.new w _ _ _ _ _) (HA.out.below (by repeat (first | exact Below.refl _ _ | exact Hid.out (by assumption) | refine below_alloc ?_ _ | refine Below.setCell ?_ (by simp <;> omega) _ | refine Below.alloc ?_ (by simp <;> omega) _ | refine Below.drew ?_ | refine below_drewN ?_ _)))).mono ?_
    rw [hv'.out]
    rintro e w1 ⟨rfl, u, rfl⟩
    go_wp2_with fail
    refine bodyPost_ret (v := .tuple #[.int .i64 0, .bool false]) (by simp [results, Try.results28, go_sem]) rfl ⟨rfl, (by repeat (first | exact Below.refl _ _ | exact Hid.out (by assumption) | refine below_alloc ?_ _ | refine Below.setCell ?_ (by simp <;> omega) _ | refine Below.alloc ?_ (by simp <;> omega) _ | refine Below.drew ?_ | refine below_drewN ?_ _))⟩
  · cases hx : inB x 0 12
    · have h1 : countOk s l n m f x = false := by rw [HO.out, hv, hx]; rfl
      have h2 := HC.out h1
      rw [h1, h2]
      have hv' := Lib.hid hv
      have hx' := Lib.hid hx
      clear h1 h2 hv hx HO HC
      go_enter Try.func28, Try.ntmps28
      go_wp2_with fail
      refine (HP.out _ _ (Box4.new w _ _ _ _ _) (HA.out.below (by repeat (first | exact Below.refl _ _ | exact Hid.out (by assumption) | refine below_alloc ?_ _ | refine Below.setCell ?_ (by simp <;> omega) _ | refine Below.alloc ?_ (by simp <;> omega) _ | refine Below.drew ?_ | refine below_drewN ?_ _)))).mono ?_
      rw [hv'.out]
      rintro e w1 ⟨rfl, u, rfl⟩
      go_wp2_with fail
      refine (HX.out _).mono ?_
      rw [hx'.out]
      rintro e w1 ⟨rfl, rfl⟩
      go_wp2_with fail
      refine bodyPost_ret (v := .tuple #[.int .i64 0, .bool false]) (by simp [results, Try.results28, go_sem]) rfl ⟨rfl, (by repeat (first | exact Below.refl _ _ | exact Hid.out (by assumption) | refine below_alloc ?_ _ | refine Below.setCell ?_ (by simp <;> omega) _ | refine Below.alloc ?_ (by simp <;> omega) _ | refine Below.drew ?_ | refine below_drewN ?_ _))⟩
    · have h1 : countOk s l n m f x = true := by rw [HO.out, hv, hx]; rfl
      obtain ⟨x1, x2⟩ := inB_iff.1 hx
      obtain ⟨X, rfl⟩ : ∃ X : Nat, x = X := ⟨x.toNat, by omega⟩
      obtain ⟨S, L, rfl, rfl, s1, s2, l1, l2, rfl, rfl, hf⟩ := validP_nat hv
      have h2 := countP_ok (g := g) h1
      rw [h1, h2]
      have hv' := Lib.hid hv
      have hx' := Lib.hid hx
      have HF := Lib.hid hf
      have hsl : m * L ≤ 256 := Nat.mul_le_mul s2 l2
      clear h1 h2 hv hx HO HC hf
      go_enter Try.func28, Try.ntmps28
      go_wp2_with fail
      refine (HP.out _ _ (Box4.new w _ _ _ _ _) (HA.out.below (by repeat (first | exact Below.refl _ _ | exact Hid.out (by assumption) | refine below_alloc ?_ _ | refine Below.setCell ?_ (by simp <;> omega) _ | refine Below.alloc ?_ (by simp <;> omega) _ | refine Below.drew ?_ | refine below_drewN ?_ _)))).mono ?_
      rw [hv'.out]
      rintro e w1 ⟨rfl, u, rfl⟩
      go_wp2_with fail
      refine (HX.out _).mono ?_
      rw [hx'.out]
      rintro e w1 ⟨rfl, rfl⟩
      obtain ⟨wb, hwb⟩ : ∃ wb, wb = (w.alloc (.cells #[.int .i64 m, .int .i64 L, .slice A (m * L) c, .slice B m d] 28)).drewN u := ⟨_, rfl⟩
      rw [← hwb]
      have NB := Lib.hid (show Below w.heap.size w wb by rw [hwb]; exact (by repeat (first | exact Below.refl _ _ | exact Hid.out (by assumption) | refine below_alloc ?_ _ | refine Below.setCell ?_ (by simp <;> omega) _ | refine Below.alloc ?_ (by simp <;> omega) _ | refine Below.drew ?_ | refine below_drewN ?_ _)))
      have XB := Lib.hid (show Box4 wb w.heap.size (.int .i64 m) (.int .i64 L) (.slice A (m * L) c) (.slice B m d) by rw [hwb]; exact (Box4.new w _ _ _ _ _).drewN u)
      have HAb := Lib.hid (HA.out.below NB.out)
      have HBb := Lib.hid (HB.out.below NB.out)
      clear hwb HP HX hv' hx'
      obtain ⟨r0, r1, r2, r3⟩ := XB.out
      go_wp2_with (first
        | (at_make; refine wpList_make_full _ rfl _ _ 22 rfl wb.heap.size 2 ci (.int .i64 0) 1 Try.underlying22 hci hcz hcs .i64 .i64 _ _ m rfl rfl rfl rfl (by rw [hcb]; omega) (by unfold maxLen; omega) (Nat.le_refl _) ?_
           intro w0 hown0 hgrow0
           have NB0 := Lib.hid ((Below.refl wb.heap.size wb).grown hgrow0 (Nat.le_refl _) (fun _ h => by cases h))
           obtain ⟨hz0, ho0⟩ := made_zeros hown0
           have HO0 := Lib.hid ho0
           obtain ⟨hf0, hc0⟩ := ho0.at0 (show 0 < m by omega)
           have dm : (0 : Int) < m := by omega
           clear hown0 hgrow0 ho0)
        | go_in)
      clear r0 r1 r2 r3 hc0
      go_loopw [6, 7, 8, 9, 10, 11] (fun a i _ _ _ _ wr => ∃ k G : Nat, k ≤ X ∧ i = .int .i64 k ∧ a = .slice (some ⟨G, 0, none⟩) m m ∧ Hid (wb.heap.size ≤ G) ∧ Hid (Below wb.heap.size wb wr) ∧ Hid (OwnC wr G (some ⟨G, 0, none⟩) m (fun j => .int .i64 (fwdF m L f k j)))) (fun _ i _ _ _ _ _ => X - (intOf i).toNat)
      case atStart =>
        refine ⟨0, wb.heap.size, Nat.zero_le _, rfl, rfl, Nat.le_refl _, Below.setCell NB0.out (by simp) _, (HO0.out.set0 (by omega) _).congr fun j _ => ?_⟩
        simp only [fwdF]
        split <;> rfl
      case round =>
        obtain ⟨k, G, hk, rfl, rfl, HG, HB1, HO1⟩ := hrel
        have XR := Lib.hid (XB.out.below HB1.out)
        obtain ⟨r0, r1, r2, r3⟩ := XR.out
        obtain ⟨wo, rfl⟩ : ∃ wo : World, wo = wr := ⟨_, rfl⟩
        by_cases hlt : k < X
        · have d1 : (k : Int) < X := by omega
          have HGo := Lib.hid (HO1.out.lt (show 0 < m by omega))
          go_wp2_with (first
            | (at_make; refine wpList_make_full _ rfl _ _ 22 rfl wo.heap.size 2 ci (.int .i64 0) 1 Try.underlying22 hci hcz hcs .i64 .i64 _ _ m rfl rfl rfl rfl (by rw [hcb]; omega) (by unfold maxLen; omega) (Nat.le_refl _) ?_
               intro w2 hown2 hgrow2
               have NB2 := Lib.hid ((Below.refl wo.heap.size wo).grown hgrow2 (Nat.le_refl _) (fun _ h => by cases h))
               obtain ⟨hz2, ho2⟩ := made_zeros hown2
               have HO2 := Lib.hid ho2
               have HB2 := Lib.hid (HB1.out.trans (NB2.out.mono HB1.out.size))
               have HO1b := Lib.hid (HO1.out.below NB2.out)
               have XR2 := Lib.hid (XR.out.below NB2.out)
               obtain ⟨p0, p1, p2, p3⟩ := XR2.out
               clear hown2 hgrow2 ho2)
            | go_in)
          clear p0 p1 p2 p3 r0 r1 r2 r3
          have HG2 := Lib.hid HB1.out.size
          have GG := Lib.hid (show G ≠ wo.heap.size from fun e => by have := HGo.out; omega)
          generalize wo.heap.size = G2 at *
          go_loopw [9, 10, 11] (fun i _ _ wr => ∃ p : Nat, p ≤ m ∧ i = .int .i64 p ∧ Hid (Below wb.heap.size wb wr) ∧ Hid (OwnC wr G (some ⟨G, 0, none⟩) m (fun j => .int .i64 (fwdF m L f k j))) ∧ Hid (OwnC wr G2 (some ⟨G2, 0, none⟩) m (fun j => .int .i64 (pushF f L (fwdF m L f k) (p * L) j)))) (fun i _ _ _ => m - (intOf i).toNat)
          case atStart => exact ⟨0, Nat.zero_le _, rfl, HB2.out, HO1b.out, HO2.out.congr fun j _ => by rw [Nat.zero_mul]; rfl⟩
          case round =>
            obtain ⟨p, hp, rfl, HB3, HO3, HO4⟩ := hrel
            have XR3 := Lib.hid (XB.out.below HB3.out)
            obtain ⟨r0, r1, r2, r3⟩ := XR3.out
            obtain ⟨wp, rfl⟩ : ∃ wp : World, wp = wr := ⟨_, rfl⟩
            by_cases hlp : p < m
            · have d2 : (p : Int) < m := by omega
              have hpl : p * L + L ≤ m * L := by rw [← Nat.succ_mul]; exact Nat.mul_le_mul_right _ hlp
              have hpe : (p : Int) * L = ((p * L : Nat) : Int) := (Int.natCast_mul p L).symm
              have hdiv := Lib.hid (fun q (hq : q < L) => show (p * L + q) / L = p by rw [Nat.add_comm, Nat.add_mul_div_right _ _ (by omega), Nat.div_eq_of_lt hq, Nat.zero_add])
              have hsucc := Lib.hid (show (p + 1) * L = p * L + L from Nat.succ_mul p L)
              generalize p * L = pl at *
              have hwm : IntKind.i64.wrap ((p : Int) * L) = (pl : Int) := by rw [hpe, IntKind.wrap_i64]; omega
              clear hpe
              go_wp2_with fail
              go_loopw [10, 11] (fun a _ wr => ∃ q : Nat, q ≤ L ∧ a = .int .i64 q ∧ Hid (Below wb.heap.size wb wr) ∧ Hid (OwnC wr G (some ⟨G, 0, none⟩) m (fun j => .int .i64 (fwdF m L f k j))) ∧ Hid (OwnC wr G2 (some ⟨G2, 0, none⟩) m (fun j => .int .i64 (pushF f L (fwdF m L f k) (pl + q) j)))) (fun a _ _ => L - (intOf a).toNat)
              case atStart => exact ⟨0, Nat.zero_le _, rfl, HB3.out, HO3.out, HO4.out⟩
              case round =>
                obtain ⟨q, hq, rfl, HB5, HO5, HO6⟩ := hrel
                clear r0 r1 r2 r3
                have XR5 := Lib.hid (XB.out.below HB5.out)
                obtain ⟨r0, r1, r2, r3⟩ := XR5.out
                obtain ⟨wq, rfl⟩ : ∃ wq : World, wq = wr := ⟨_, rfl⟩
                by_cases hlq : q < L
                · have d3 : (q : Int) < L := by omega
                  have d4 : (pl : Int) + q < m * L := by rw [← Int.natCast_mul]; omega
                  obtain ⟨f1, f2⟩ := HF.out (pl + q) (by omega)
                  obtain ⟨z, hz⟩ : ∃ z : Nat, f (pl + q) = z := ⟨(f (pl + q)).toNat, by omega⟩
                  obtain ⟨y, rfl, hy0⟩ := HAb.out (pl + q) (by omega)
                  have hy : wq.cell? (y.add (pl + q)) = some (.int .i64 z) := by rw [HB5.out.cell (World.block_lt_of_cell? _ _ hy0), hy0, ← hz]
                  have hzm : z < m := by omega
                  have d5 : (z : Int) < m := by omega
                  obtain ⟨c1, c2⟩ := HO6.out.at0 hzm
                  obtain ⟨-, c3⟩ := HO5.out.at0 hlp
                  have HFF := fun i hi => (HF.out i hi).2
                  have n1 := push_nonneg (f := f) (l := L) (fwd_nonneg (f := f) (s := m) (l := L) k) (pl + q) z
                  have n2 := fwd_nonneg (f := f) (s := m) (l := L) k p
                  have n3 := push_le (by omega) HFF k (t := pl + q) (by omega) hzm
                  have n4 := fwd_le (by omega) HFF k hlp
                  have n5 := pow_le_4 (l := L) (n := k + 1) (by omega) (by omega)
                  have n6 := pow_le_4 (l := L) (n := k) (by omega) (by omega)
                  have HST := Lib.hid (fun v => OwnC.set0 HO6.out hzm v)
                  have HPU := Lib.hid (show ∀ j, pushF f L (fwdF m L f k) (pl + q + 1) j = if j = z then pushF f L (fwdF m L f k) (pl + q) j + fwdF m L f k p else pushF f L (fwdF m L f k) (pl + q) j from fun j => by
                    show (if j = (f (pl + q)).toNat then _ else _) = _
                    rw [hz, hdiv.out q hlq]
                    rfl)
                  generalize hu : pushF f L (fwdF m L f k) (pl + q) z = u at *
                  have HU := Lib.hid hu
                  clear hu HFF f1 f2 hz hy0
                  generalize hv : fwdF m L f k p = v at *
                  have HV := Lib.hid hv
                  clear hv
                  have b1 : u ≤ 67108864 := by omega
                  have b2 : v ≤ 67108864 := by omega
                  clear n3 n4 n5 n6
                  go_wp2_with fail
                  go_region
                  all_goals (
                    go_wp2_with fail
                    refine ⟨⟨q + 1, by omega, by simp, ?b1, ?b2, ?b3⟩, by simp [intOf]; omega⟩
                    case b1 => exact Below.drew (Below.setCell HB5.out HG2.out _)
                    case b2 => exact OwnC.far0 HO5.out GG.out _
                    case b3 =>
                      refine OwnC.congr (HST.out (.int .i64 (u + v))) fun j hj => ?_
                      show _ = Value.int .i64 (pushF f L (fwdF m L f k) (pl + q + 1) j)
                      rw [HPU.out j]
                      by_cases e : j = z
                      · subst e
                        rw [if_pos rfl, if_pos rfl, HU.out]
                      · rw [if_neg e, if_neg e])
                · have d3 : ¬ (q : Int) < L := by omega
                  have e : q = L := by omega
                  subst e
                  go_wp2_with fail
                  exact ⟨⟨p + 1, by omega, by simp, HB5.out, HO5.out, HO6.out.congr fun j _ => by rw [hsucc.out]⟩, by simp [intOf]; omega⟩
            · have d2 : ¬ (p : Int) < m := by omega
              have e : p = m := by omega
              subst e
              go_wp2_with fail
              exact ⟨⟨k + 1, G2, by omega, by simp, rfl, HG2.out, HB3.out, HO4.out.congr fun j _ => rfl⟩, by simp [intOf]; omega⟩
        · have d1 : ¬ (k : Int) < X := by omega
          have e : k = X := by omega
          subst e
          have HFF := fun i hi => (HF.out i hi).2
          have HEnd := Lib.hid (ends_words g (by omega) HFF k)
          have HR := Lib.hid (fun i (hi : i ≤ m) => ends_range g (by omega) HFF k hi)
          have HN := Lib.hid (fun i => fwd_nonneg (f := f) (s := m) (l := L) k i)
          have HL := Lib.hid (fun i (hi : i < m) => fwd_le (by omega) HFF k hi)
          have HW := Lib.hid (pow_le_4 (l := L) (n := k) (by omega) (by omega))
          have HBc := Lib.hid (HBb.out.below HB1.out)
          clear HFF
          go_wp2_with fail
          go_loop [12, 13] (fun t i => ∃ p : Nat, p ≤ m ∧ i = .int .i64 p ∧ t = .int .i64 (endsF g (fwdF m L f k) p)) (fun _ i => m - (intOf i).toNat)
          case atStart => exact ⟨0, Nat.zero_le _, rfl, rfl⟩
          case round =>
            obtain ⟨p, hp, rfl, rfl⟩ := hrel
            by_cases hlp : p < m
            · have d2 : (p : Int) < m := by omega
              obtain ⟨y, rfl, hy0⟩ := HBc.out p hlp
              have hy : wo.cell? (y.add p) = some (.bool (g p)) := hy0
              obtain ⟨-, c3⟩ := HO1.out.at0 hlp
              have n1 := HR.out p (by omega)
              have n2 := HN.out p
              have n3 := HL.out p hlp
              have n4 := HW.out
              have HS := Lib.hid (show endsF g (fwdF m L f k) (p + 1) = endsF g (fwdF m L f k) p + (if g p then fwdF m L f k p else 0) from rfl)
              obtain ⟨n1a, n1b⟩ := n1
              have b1 : endsF g (fwdF m L f k) p ≤ 67108864 := by omega
              have b2 : fwdF m L f k p ≤ 67108864 := by omega
              clear hy0 n3 n4 n1b
              generalize endsF g (fwdF m L f k) p = t at *
              generalize fwdF m L f k p = v at *
              cases hg : g p
              · rw [hg] at hy
                have HS2 := Lib.hid (show endsF g (fwdF m L f k) (p + 1) = t by rw [HS.out, hg]; simp)
                clear hg
                go_wp2_with fail
                go_round
                case rel => exact ⟨p + 1, by omega, by go_num, by rw [HS2.out]⟩
                case measure => simp [intOf]; omega
              · rw [hg] at hy
                have HS2 := Lib.hid (show endsF g (fwdF m L f k) (p + 1) = t + v by rw [HS.out, hg]; simp)
                clear hg
                go_wp2_with fail
                go_round
                case rel => exact ⟨p + 1, by omega, by go_num, by rw [HS2.out]⟩
                case measure => simp [intOf]; omega
            · have d2 : ¬ (p : Int) < m := by omega
              have e : p = m := by omega
              subst e
              go_wp2_with fail
              refine bodyPost_ret (v := .tuple #[.int .i64 (endsF g (fwdF p L f k) p), .bool true]) (by simp [results, Try.results28, go_sem]) rfl ⟨by rw [HEnd.out], NB.out.trans (HB1.out.mono NB.out.size)⟩
end Go.Proofs.Ytgkmdbbdfjgggaa
