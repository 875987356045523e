/- Games: whether they are valid: the reference. -/
import Derived.Test.YtfpombhhnojjhaaGameI
set_option linter.unusedVariables false
set_option linter.unusedSimpArgs false
namespace Go.Proofs.Ytfpombhhnojjhaa
open Go.RowKit
/-- One node. -/
def nodeB (cnt : Int) (L : Nat → Nat) (f g : Nat → Int) (F : Nat → Nat → Int) (k : Nat) : Bool := inB (f k) 0 1 && (inB (g k) 0 8 && movesB cnt (L k) (F k))
theorem gameB_iff {n m o : Nat} {L : Nat → Nat} {f g : Nat → Int} {F : Nat → Nat → Int} : gameB n m o L f g F = true ↔ (1 ≤ n ∧ n ≤ 16 ∧ m = n ∧ o = n ∧ ∀ k, k < n → nodeB (n : Int) L f g F k = true) := by
  unfold gameB mostB nodeB
  simp only [Bool.and_eq_true, decide_eq_true_eq, allP_iff, inB_iff]
  constructor
  · rintro ⟨⟨h1, h2⟩, ⟨h3, h4⟩, ⟨h5, h6⟩, h7⟩
    have e1 : o = n := by omega
    have e2 : m = n := by omega
    subst e1 e2
    exact ⟨by omega, by omega, rfl, rfl, fun k hk => ⟨h4 k hk, h6 k hk, h7 k hk⟩⟩
  · rintro ⟨h1, h2, rfl, rfl, h3⟩
    exact ⟨by omega, ⟨rfl, fun k hk => (h3 k hk).1⟩, ⟨rfl, fun k hk => (h3 k hk).2.1⟩, fun k hk => (h3 k hk).2.2⟩
theorem gameB_no {n m o : Nat} {L : Nat → Nat} {f g : Nat → Int} {F : Nat → Nat → Int} (h : ¬ (1 ≤ n ∧ n ≤ 16 ∧ m = n ∧ o = n)) : gameB n m o L f g F = false := by
  cases e : gameB n m o L f g F
  · rfl
  · obtain ⟨a, b, c, d, -⟩ := gameB_iff.1 e
    exact absurd ⟨a, b, c, d⟩ h
theorem gameB_node {n m o : Nat} {L : Nat → Nat} {f g : Nat → Int} {F : Nat → Nat → Int} {k : Nat} (hk : k < n) (h : nodeB (n : Int) L f g F k = false) : gameB n m o L f g F = false := by
  cases e : gameB n m o L f g F
  · rfl
  · obtain ⟨-, -, -, -, q⟩ := gameB_iff.1 e
    rw [q k hk] at h
    cases h
/-- The steps so far keep to what is asked: then the number before is no less than -1. -/
theorem prev_ge {cnt : Int} {f : Nat → Int} : ∀ {k : Nat}, (∀ j, j < k → stepB cnt f j = true) → -1 ≤ prevF f k
  | 0, _ => by unfold prevF; simp
  | k + 1, h => by
    have h1 := h k (by omega)
    have h2 := prev_ge (cnt := cnt) (f := f) (k := k) (fun j hj => h j (by omega))
    unfold stepB at h1
    have h3 := inB_iff.1 h1
    show -1 ≤ f k
    omega
theorem moves_no {cnt : Int} {n : Nat} {f : Nat → Int} {k : Nat} (hk : k < n) (h : stepB cnt f k = false) : movesB cnt n f = false := by
  unfold movesB ascB
  rw [allP_no (f := fun i => i) hk h]
  simp
theorem moves_yes {cnt : Int} {n : Nat} {f : Nat → Int} (hn : 0 < n) (h : ∀ k, k < n → stepB cnt f k = true) : movesB cnt n f = true := by
  unfold movesB ascB
  rw [decide_eq_true hn, allP_iff.2 h]
  rfl
set_option maxRecDepth 20000 in
set_option maxHeartbeats 8000000 in
theorem l07Game_any (Q : Nat) (A B C : Option Addr) (n c m d o q : Nat) (P : Nat → Option Addr) (L K : Nat → Nat) (f g : Nat → Int) (F : Nat → Nat → Int) (w : World) (hn : n ≤ 1048576) (hm : m ≤ 1048576) (ho : o ≤ 1048576) (hL : ∀ i, i < o → L i ≤ 1048576)
    (hA : Cells w A n (fun i => .int .i64 (f i))) (hB : Cells w B m (fun i => .int .i64 (g i))) (hC : RRows w C o P L K F) (b : Box3 w Q (.slice A n c) (.slice B m d) (.slice C o q)) :
    Calls Try.prog 92 #[.pointer (some ⟨Q, 0, none⟩)] w fun e w' => e = .returned (.bool (gameB n m o L f g F)) ∧ ∃ z, w' = w.drewN z := by
  have X0 := Lib.hid b
  obtain ⟨x0, x1, x2⟩ := b
  by_cases hsz : 1 ≤ n ∧ n ≤ 16 ∧ m = n ∧ o = n
  rotate_left
  · rw [gameB_no hsz]
    clear hA hB hC hL
    by_cases h1 : 1 ≤ n
    rotate_left
    · have d1 : (n : Int) < 1 := by omega
      go_enter Try.func92, Try.ntmps92
      go_wp2_with fail
      go_ret
      exact ⟨rfl, 0, rfl⟩
    have d1 : ¬ (n : Int) < 1 := by omega
    by_cases h2 : n ≤ 16
    rotate_left
    · have d2 : (16 : Int) < n := by omega
      go_enter Try.func92, Try.ntmps92
      go_wp2_with fail
      go_ret
      exact ⟨rfl, 0, rfl⟩
    have d2 : ¬ (16 : Int) < n := by omega
    by_cases h3 : m = n
    rotate_left
    · have b3 : ((m : Int) != n) = true := by simp; omega
      go_enter Try.func92, Try.ntmps92
      go_wp2_with fail
      go_ret
      exact ⟨rfl, 0, rfl⟩
    have b3 : ((m : Int) != n) = false := by simp; omega
    have b4 : ((o : Int) != n) = true := by simp; omega
    go_enter Try.func92, Try.ntmps92
    go_wp2_with fail
    go_ret
    exact ⟨rfl, 0, rfl⟩
  obtain ⟨h1, h2, h3, h4⟩ := hsz
  have HNO := Lib.hid (fun k (hk : k < n) h => gameB_node (m := m) (o := o) (L := L) (f := f) (g := g) (F := F) hk h)
  have HYES := Lib.hid (fun (h : ∀ k, k < n → nodeB (n : Int) L f g F k = true) => gameB_iff.2 ⟨h1, h2, h3, h4, h⟩)
  have hA := Lib.hid hA
  have hB := Lib.hid hB
  have hC := Lib.hid hC
  have HL := Lib.hid hL
  subst h3 h4
  clear hL
  have d1 : ¬ (o : Int) < 1 := by omega
  have d2 : ¬ (16 : Int) < o := by omega
  have hwo : IntKind.i64.wrap ((o : Int) - 1) = (o : Int) - 1 := by rw [IntKind.wrap_i64]; omega
  generalize gameB o o o L f g F = r at *
  go_enter Try.func92, Try.ntmps92
  go_wp2_with fail
  go_loopw [40] (fun iv wr => ∃ k z : Nat, k ≤ o ∧ iv = .int .i64 k ∧ Hid (wr = w.drewN z) ∧ Hid (∀ j, j < k → nodeB (o : Int) L f g F j = true)) (fun iv _ => o - (intOf iv).toNat)
  case atStart => exact ⟨0, 0, Nat.zero_le _, rfl, rfl, fun j hj => by omega⟩
  case round =>
    obtain ⟨k, z, hk, rfl, hw, HP⟩ := hrel
    have X1 := Lib.hid (show Box3 wr Q _ _ _ from by rw [hw.out]; exact X0.out.below (drewN_below _ _ _))
    clear x0 x1 x2
    obtain ⟨x0, x1, x2⟩ := X1.out
    by_cases hlt : k < o
    rotate_left
    · have e1 : ¬ (k : Int) < o := by omega
      obtain rfl : o = k := by omega
      have HR := Lib.hid (HYES.out HP.out)
      go_wp2_with fail
      go_ret
      exact ⟨ret_bool HR.out.symm, z, hw.out⟩
    have e1 : (k : Int) < o := by omega
    obtain ⟨xa, rfl, ya⟩ := hA.out k hlt
    obtain ⟨xb, rfl, yb⟩ := hB.out k hlt
    obtain ⟨xc, rfl, yc⟩ := hC.out.top k hlt
    have ca : wr.cell? (xa.add k) = some (.int .i64 (f k)) := by rw [hw.out]; exact ya
    have cb : wr.cell? (xb.add k) = some (.int .i64 (g k)) := by rw [hw.out]; exact yb
    have cc : wr.cell? (xc.add k) = some (.slice (P k) (L k) (K k)) := by rw [hw.out]; exact yc
    have HR := Lib.hid (hC.out.row k hlt)
    have hlk := HL.out k hlt
    have HNk := Lib.hid (HNO.out k hlt)
    have HPk := Lib.hid (show nodeB (o : Int) L f g F k = true → ∀ j, j < k + 1 → nodeB (o : Int) L f g F j = true from fun e j hj => by
      rcases Nat.lt_or_ge j k with h | h
      · exact HP.out j h
      · have : j = k := by omega
        subst this
        exact e)
    have HD := Lib.hid (show nodeB (o : Int) L f g F k = (inB (f k) 0 1 && (inB (g k) 0 8 && movesB (o : Int) (L k) (F k))) from rfl)
    have HMN := Lib.hid (fun j (hj : j < L k) h => moves_no (cnt := (o : Int)) (f := F k) hj h)
    have HMY := Lib.hid (fun (h0 : 0 < L k) h => moves_yes (cnt := (o : Int)) (f := F k) h0 h)
    have HM0 := Lib.hid (show ¬ 0 < L k → movesB (o : Int) (L k) (F k) = false from fun h => by unfold movesB; rw [decide_eq_false h]; rfl)
    have YC := Lib.hid (show w.cell? (xc.add k) = some (.slice (P k) (L k) (K k)) from yc)
    clear ya yb yc HP HNO HYES
    generalize nodeB (o : Int) L f g F k = nb at *
    generalize movesB (o : Int) (L k) (F k) = mb at *
    generalize f k = u at *
    generalize g k = v at *
    generalize P k = pk at *
    generalize L k = lk at *
    generalize K k = kk at *
    generalize hFk : F k = fk at *
    clear hFk
    cases hu : inB u 0 1
    · have J1 := Lib.hid (fun W => l00In_is hu W)
      have HF := Lib.hid (HNk.out (by rw [HD.out, hu]; rfl))
      clear hu HNk HPk HD
      go_wp2_with fail
      refine (J1.out _).mono ?_
      rintro e w' ⟨rfl, hww⟩
      obtain rfl := hww.symm
      clear hww
      go_wp2_with fail
      go_ret
      exact ⟨ret_bool HF.out.symm, z, hw.out⟩
    have J1 := Lib.hid (fun W => l00In_is hu W)
    rw [hu] at HD
    clear hu
    cases hv : inB v 0 8
    · have J2 := Lib.hid (fun W => l00In_is hv W)
      have HF := Lib.hid (HNk.out (by rw [HD.out, hv]; rfl))
      clear hv HNk HPk HD
      go_wp2_with fail
      refine (J1.out _).mono ?_
      rintro e w' ⟨rfl, hww⟩
      obtain rfl := hww.symm
      clear hww
      go_wp2_with fail
      refine (J2.out _).mono ?_
      rintro e w' ⟨rfl, hww⟩
      obtain rfl := hww.symm
      clear hww
      go_wp2_with fail
      go_ret
      exact ⟨ret_bool HF.out.symm, z, hw.out⟩
    have J2 := Lib.hid (fun W => l00In_is hv W)
    rw [hv] at HD
    clear hv
    by_cases hl0 : 0 < lk
    rotate_left
    · have HF := Lib.hid (HNk.out (by rw [HD.out, HM0.out hl0]; rfl))
      have e2 : (lk : Int) < 1 := by omega
      clear HNk HPk HD HM0 HMN HMY
      go_wp2_with fail
      refine (J1.out _).mono ?_
      rintro e w' ⟨rfl, hww⟩
      obtain rfl := hww.symm
      clear hww
      go_wp2_with fail
      refine (J2.out _).mono ?_
      rintro e w' ⟨rfl, hww⟩
      obtain rfl := hww.symm
      clear hww
      go_wp2_with fail
      go_ret
      exact ⟨ret_bool HF.out.symm, z, hw.out⟩
    have e2 : ¬ (lk : Int) < 1 := by omega
    have HMY2 := Lib.hid (HMY.out hl0)
    clear HMY HM0
    go_wp2_with fail
    refine (J1.out _).mono ?_
    rintro e w' ⟨rfl, hww⟩
    obtain rfl := hww.symm
    clear hww
    go_wp2_with fail
    refine (J2.out _).mono ?_
    rintro e w' ⟨rfl, hww⟩
    obtain rfl := hww.symm
    clear hww
    go_wp2_with fail
    generalize wr = wo at *
    go_loopw [82] (fun iv wz => ∃ k2 z2 : Nat, k2 ≤ lk ∧ iv = .int .i64 k2 ∧ Hid (wz = w.drewN z2) ∧ Hid (∀ j, j < k2 → stepB (o : Int) fk j = true)) (fun iv _ => lk - (intOf iv).toNat)
    case atStart => exact ⟨0, z, Nat.zero_le _, rfl, hw, fun j hj => by omega⟩
    case round =>
      obtain ⟨k2, z2, hk2, rfl, hw2, HS⟩ := hrel
      by_cases hl2 : k2 < lk
      rotate_left
      · have e3 : ¬ (k2 : Int) < lk := by omega
        obtain rfl : lk = k2 := by omega
        have HF := Lib.hid (HPk.out (by rw [HD.out, HMY2.out HS.out]; rfl))
        go_wp2_with fail
        exact ⟨⟨k + 1, z2, by omega, by simp, hw2, HF⟩, by simp [intOf]; omega⟩
      have X2 := Lib.hid (show Box3 wr Q _ _ _ from by rw [hw2.out]; exact X0.out.below (drewN_below _ _ _))
      clear x0 x1 x2 ca cb cc
      obtain ⟨x0, x1, x2⟩ := X2.out
      have e3 : (k2 : Int) < lk := by omega
      obtain ⟨y, rfl, hy0⟩ := HR.out k2 hl2
      have cc : wr.cell? (xc.add k) = some (.slice (some y) lk kk) := by rw [hw2.out]; exact YC.out
      have cy : wr.cell? (y.add k2) = some (.int .i64 (fk k2)) := by rw [hw2.out]; exact hy0
      have HSN := Lib.hid (fun h => HNk.out (by rw [HD.out, HMN.out k2 hl2 h]; rfl))
      have HSY := Lib.hid (show stepB (o : Int) fk k2 = true → ∀ j, j < k2 + 1 → stepB (o : Int) fk j = true from fun e j hj => by
        rcases Nat.lt_or_ge j k2 with h | h
        · exact HS.out j h
        · have : j = k2 := by omega
          subst this
          exact e)
      have HSD := Lib.hid (show stepB (o : Int) fk k2 = inB (fk k2) (prevF fk k2 + 1) ((o : Int) - 1) from rfl)
      have hpg := prev_ge HS.out
      have HPV0 := Lib.hid (show k2 = 0 → prevF fk k2 = -1 from fun h => by rw [h]; rfl)
      have HPV1 := Lib.hid (show ∀ k1, k2 = k1 + 1 → prevF fk k2 = fk k1 from fun k1 h => by rw [h]; rfl)
      have HRW := Lib.hid (show ∀ k1, k1 < lk → wr.cell? (y.add k1) = some (.int .i64 (fk k1)) from fun k1 h => by
        obtain ⟨y', q', r'⟩ := HR.out k1 h
        cases q'
        rw [hw2.out]
        exact r')
      clear hy0 HS HNk HPk HD HMN HMY2
      generalize fk k2 = t at *
      generalize prevF fk k2 = pv at *
      generalize stepB (o : Int) fk k2 = sb at *
      cases hz : inB t 0 ((o : Int) - 1)
      · have J := Lib.hid (fun W => l00In_is hz W)
        have HF := Lib.hid (HSN.out (by rw [HSD.out]; exact Bool.eq_false_iff.2 fun e => (inB_no hz) (by have := inB_iff.1 e; omega)))
        clear hz HSN HSY HSD
        go_wp2_with fail
        go_quiet ((go_at_call 130; exact Calls.quiet_of_same (J.out _)))
        go_wp2_with fail
        go_ret
        exact ⟨ret_bool HF.out.symm, _, by rw [hw2.out]; exact World.drewN_drewN ..⟩
      have J := Lib.hid (fun W => l00In_is hz W)
      have hzz := inB_iff.1 hz
      have HZ := Lib.hid hzz
      clear hz hzz
      by_cases hk0 : k2 = 0
      · have HF := Lib.hid (HSY.out (by rw [HSD.out]; exact inB_iff.2 (by have := HZ.out; have := HPV0.out hk0; omega)))
        have e5 : decide ((0 : Int) < (k2 : Int)) = false := decide_eq_false (by omega)
        have e5b : decide (0 < k2) = false := decide_eq_false (by omega)
        clear hk0
        clear HSN HSY HSD HPV0 HPV1
        go_wp2_with fail
        go_quiet ((go_at_call 130; exact Calls.quiet_of_same (J.out _)))
        go_wp2_with fail
        exact ⟨⟨k2 + 1, z2 + nq, by omega, by simp, by rw [hw2.out]; exact World.drewN_drewN .., HF⟩, by simp [intOf]; omega⟩
      obtain ⟨k1, hk1⟩ : ∃ k1, k2 = k1 + 1 := ⟨k2 - 1, by omega⟩
      have e5 : decide ((0 : Int) < (k2 : Int)) = true := decide_eq_true (by omega)
      have e5b : decide (0 < k2) = true := decide_eq_true (by omega)
      have e5c : 0 < k2 := by omega
      have e6 : IntKind.i64.wrap ((k2 : Int) - 1) = (k1 : Int) := by rw [IntKind.wrap_i64]; omega
      have e7 : (k1 : Int) < lk := by omega
      have cy1 := HRW.out k1 (by omega)
      have hpv := HPV1.out k1 hk1
      rw [← hpv] at cy1
      clear HPV0 HPV1 HRW hpv
      by_cases hle : t ≤ pv
      · have HF := Lib.hid (HSN.out (by rw [HSD.out]; exact Bool.eq_false_iff.2 fun e => by have := inB_iff.1 e; omega))
        clear HSN HSY HSD hk1
        go_wp2_with fail
        go_quiet ((go_at_call 130; exact Calls.quiet_of_same (J.out _)))
        go_wp2_with fail
        go_ret
        exact ⟨ret_bool HF.out.symm, _, by rw [hw2.out]; exact World.drewN_drewN ..⟩
      · have HF := Lib.hid (HSY.out (by rw [HSD.out]; exact inB_iff.2 (by have := HZ.out; omega)))
        have e8 : ¬ t ≤ pv := hle
        clear HSN HSY HSD hk1
        go_wp2_with fail
        go_quiet ((go_at_call 130; exact Calls.quiet_of_same (J.out _)))
        go_wp2_with fail
        exact ⟨⟨k2 + 1, z2 + nq, by omega, by simp, by rw [hw2.out]; exact World.drewN_drewN .., HF⟩, by simp [intOf]; omega⟩
theorem specValidGame_any (A B C : Option Addr) (n c m d o q : Nat) (P : Nat → Option Addr) (L K : Nat → Nat) (f g : Nat → Int) (F : Nat → Nat → Int) (w : World) (hn : n ≤ 1048576) (hm : m ≤ 1048576) (ho : o ≤ 1048576) (hL : ∀ i, i < o → L i ≤ 1048576)
    (hA : Cells w A n (fun i => .int .i64 (f i))) (hB : Cells w B m (fun i => .int .i64 (g i))) (hC : RRows w C o P L K F) :
    Calls Try.prog 30 #[.agg #[.slice A n c, .slice B m d, .slice C o q]] w fun e w' => e = .returned (.bool (gameB n m o L f g F)) ∧ Below w.heap.size w w' := by
  have HV := Lib.hid (fun Q W y1 y2 y3 b => l07Game_any Q A B C n c m d o q P L K f g F W hn hm ho hL y1 y2 y3 b)
  have hA := Lib.hid hA
  have hB := Lib.hid hB
  have hC := Lib.hid hC
  clear hL
  generalize gameB n m o L f g F = r at *
  go_enter Try.func30, Try.ntmps30
  go_wp2_with fail
  refine (HV.out w.heap.size _ (hA.out.below (by repeat (first | with_reducible exact Below.refl _ _ | exact Hid.out (by with_reducible assumption) | refine Below.setCell ?_ (by simp <;> omega) _ | refine below_alloc ?_ _ | refine Below.alloc ?_ (by simp <;> omega) _ | refine Below.drew ?_ | refine below_drewN ?_ _ | exact Below.refl _ _))) (hB.out.below (by repeat (first | with_reducible exact Below.refl _ _ | exact Hid.out (by with_reducible assumption) | refine Below.setCell ?_ (by simp <;> omega) _ | refine below_alloc ?_ _ | refine Below.alloc ?_ (by simp <;> omega) _ | refine Below.drew ?_ | refine below_drewN ?_ _ | exact Below.refl _ _))) (hC.out.below (by repeat (first | with_reducible exact Below.refl _ _ | exact Hid.out (by with_reducible assumption) | refine Below.setCell ?_ (by simp <;> omega) _ | refine below_alloc ?_ _ | refine Below.alloc ?_ (by simp <;> omega) _ | refine Below.drew ?_ | refine below_drewN ?_ _ | exact Below.refl _ _))) (Box3.new w _ _ _ _)).mono ?_
  rintro e w' ⟨rfl, z, rfl⟩
  go_wp2_with fail
  go_ret
  exact ⟨rfl, (by repeat (first | with_reducible exact Below.refl _ _ | exact Hid.out (by with_reducible assumption) | refine Below.setCell ?_ (by simp <;> omega) _ | refine below_alloc ?_ _ | refine Below.alloc ?_ (by simp <;> omega) _ | refine Below.drew ?_ | refine below_drewN ?_ _ | exact Below.refl _ _))⟩
end Go.Proofs.Ytfpombhhnojjhaa
