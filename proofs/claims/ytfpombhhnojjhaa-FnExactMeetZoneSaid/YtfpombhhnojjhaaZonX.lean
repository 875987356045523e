/- Zones that meet, on both sides. -/
import Derived.Test.YtfpombhhnojjhaaZonP
import Derived.Test.YtfpombhhnojjhaaZonH
import Derived.Test.YtfpombhhnojjhaaDropS
set_option linter.unusedVariables false
set_option linter.unusedSimpArgs false
namespace Go.Proofs.Ytfpombhhnojjhaa
open Go.RowKit
def bothOk (s : Int) (n : Nat) (f : Nat → Int) (s2 : Int) (n2 : Nat) (f2 : Nat → Int) : Bool := validZ s n f && (validZ s2 n2 f2 && decide (s = s2))
def minF (f f2 : Nat → Int) (i : Nat) : Int := minB (f i) (f2 i)
def meetOk (s : Int) (n : Nat) (f : Nat → Int) (s2 : Int) (n2 : Nat) (f2 : Nat → Int) : Bool := bothOk s n f s2 n2 f2 && tightOk s n (minF f f2)
theorem minB_or (x y : Int) : minB x y = x ∨ minB x y = y := by
  unfold minB
  split
  · exact .inr rfl
  · exact .inl rfl
theorem okZ_min {M n : Nat} {f f2 : Nat → Int} (h : okZ M n f = true) (h2 : okZ M n f2 = true) : okZ M n (minF f f2) = true := by
  obtain ⟨a, b, c⟩ := okZ_iff.1 h
  obtain ⟨-, b2, c2⟩ := okZ_iff.1 h2
  refine okZ_iff.2 ⟨a, fun i hi => ?_, fun j hj => ⟨?_, ?_⟩⟩
  · unfold minF
    rcases minB_or (f i) (f2 i) with e | e
    · rw [e]; exact b i hi
    · rw [e]; exact b2 i hi
  · unfold minF
    rcases minB_or (f (j * M + j)) (f2 (j * M + j)) with e | e
    · rw [e]; exact (c j hj).1
    · rw [e]; exact (c2 j hj).1
  · unfold minF
    rcases minB_or (f j) (f2 j) with e | e
    · rw [e]; exact (c j hj).2
    · rw [e]; exact (c2 j hj).2
theorem bothOk_facts {s : Int} {n : Nat} {f : Nat → Int} {s2 : Int} {n2 : Nat} {f2 : Nat → Int} (h : bothOk s n f s2 n2 f2 = true) : ∃ m : Nat, s = (m : Int) ∧ s2 = (m : Int) ∧ 1 ≤ m ∧ m ≤ 4 ∧ n = (m + 1) * (m + 1) ∧ n2 = n ∧ okZ (m + 1) n (minF f f2) = true := by
  unfold bothOk at h
  rw [Bool.and_eq_true, Bool.and_eq_true, decide_eq_true_eq] at h
  obtain ⟨h1, h2, h3⟩ := h
  have n1 := validZ_n h1
  have n3 := validZ_n h2
  unfold validZ at h1 h2
  rw [Bool.and_eq_true] at h1 h2
  have hs := inB_iff.1 h1.1
  have hmt : (s + 1).toNat = s.toNat + 1 := by omega
  have hmt2 : (s2 + 1).toNat = s.toNat + 1 := by omega
  have e : n2 = n := by rw [n1, n3, hmt, hmt2]
  have o1 := h1.2
  have o2 := h2.2
  rw [hmt] at o1 n1
  rw [hmt2, e] at o2
  exact ⟨s.toNat, by omega, by omega, by omega, by omega, n1, e, okZ_min o1 o2⟩
theorem l00Min_any (a b : Int) (w : World) : Calls Try.prog 89 #[.int .i64 a, .int .i64 b] w fun e w' => e = .returned (.int .i64 (minB a b)) ∧ w = w' := by
  have HU := Lib.hid (minB.eq_1 a b)
  generalize minB a b = r at *
  by_cases h : a < b
  · have HZ := Lib.hid (show r = a by rw [HU.out, if_neg (by omega)])
    clear HU
    go_enter Try.func89, Try.ntmps89
    go_wp2_with fail
    go_ret
    exact ⟨ret_int HZ.out.symm, rfl⟩
  · have HZ := Lib.hid (show r = b by rw [HU.out]; by_cases h2 : b < a; · rw [if_pos h2]
                                      rw [if_neg h2]; omega)
    clear HU
    go_enter Try.func89, Try.ntmps89
    go_wp2_with fail
    go_ret
    exact ⟨ret_int HZ.out.symm, rfl⟩
theorem own_below' {w w' : World} {base : Nat} {e : TypeId} {size : Nat} {v : Value} {n : Nat} {xs : List Value} (h : w.ownsRow base e size v n xs) (b : Below w.heap.size w w') : w'.ownsRow base e size v n xs :=
  h.kept (row := none) ⟨b.os, b.tape, b.output, b.size, fun k hk _ => b.block k hk⟩ (by
    cases hv : v.ownBlock
    · exact .inl rfl
    · exact .inr (by simp))
theorem box2_grown {w w' : World} {p : Nat} {v0 v1 : Value} {row : Option Nat} (h : Box2 w p v0 v1) (hg : w.grownBy w' row) (hne : some p ≠ row) : Box2 w' p v0 v1 :=
  ⟨(World.cell?_of_block (hg.block p h.lt hne)).trans h.c0, (World.cell?_of_block (hg.block p h.lt hne)).trans h.c1⟩
theorem Box2.below' {w : World} {p : Nat} {v0 v1 : Value} (h : Box2 w p v0 v1) (q j : Nat) (u : Value) (hne : q ≠ p) : Box2 (w.setCell ⟨q, j, none⟩ u) p v0 v1 :=
  ⟨(World.cell?_setCell_other _ _ _ _ (by first | (simp; done) | (simp; omega))).trans h.c0, (World.cell?_setCell_other _ _ _ _ (by first | (simp; done) | (simp; omega))).trans h.c1⟩
set_option maxRecDepth 20000 in
set_option maxHeartbeats 8000000 in
theorem implMeetZone_any (s : Int) (A : Option Addr) (n c : Nat) (f : Nat → Int) (s2 : Int) (A2 : Option Addr) (n2 c2 : Nat) (f2 : Nat → Int) (w : World) (hn : n ≤ 1048576) (hA : Cells w A n (fun i => .int .i64 (f i))) (hn2 : n2 ≤ 1048576) (hA2 : Cells w A2 n2 (fun i => .int .i64 (f2 i))) :
    Calls Try.prog 25 #[.agg #[.int .i64 s, .slice A n c], .agg #[.int .i64 s2, .slice A2 n2 c2]] w fun e w' => ZoneRes w w' e (meetOk s n f s2 n2 f2) (ifI (meetOk s n f s2 n2 f2) s) (ifN (meetOk s n f s2 n2 f2) n) (tightG s (minF f f2)) := by
  obtain ⟨ia, hia, hza, hsa, hba⟩ := info_parts infoCI
  have HA := Lib.hid hA
  have HA2 := Lib.hid hA2
  have HVA := Lib.hid (fun W h => implValidZone_any s A n c f W hn h)
  have HVB := Lib.hid (fun W h => implValidZone_any s2 A2 n2 c2 f2 W hn2 h)
  have HU := Lib.hid (show bothOk s n f s2 n2 f2 = (validZ s n f && (validZ s2 n2 f2 && decide (s = s2))) from rfl)
  have HBF := Lib.hid (fun (h : bothOk s n f s2 n2 f2 = true) => bothOk_facts h)
  have HMO := Lib.hid (show meetOk s n f s2 n2 f2 = (bothOk s n f s2 n2 f2 && tightOk s n (minF f f2)) from rfl)
  have XA := Lib.hid (((Box2.new w 36 (.int .i64 s) (.slice A n c)).alloc (.cells #[.int .i64 s2, .slice A2 n2 c2] 36)).alloc (.cells #[.int .i64 0, .slice none 0 0] 36))
  have XB := Lib.hid (Box2.alloc (show Box2 _ (w.heap.size + 1) _ _ from by simpa using (Box2.new (w.alloc (.cells #[.int .i64 s, .slice A n c] 36)) 36 (.int .i64 s2) (.slice A2 n2 c2))) (.cells #[.int .i64 0, .slice none 0 0] 36))
  have ZZ := Lib.hid (show BoxF2 _ (w.heap.size + 2) _ _ from by simpa using (BoxF2.new ((w.alloc (.cells #[.int .i64 s, .slice A n c] 36)).alloc (.cells #[.int .i64 s2, .slice A2 n2 c2] 36)) 36 (.int .i64 0) (.slice none 0 0)))
  obtain ⟨xa0, xa1⟩ := XA.out
  obtain ⟨xb0, xb1⟩ := XB.out
  obtain ⟨k0, k1⟩ := ZZ.out.box
  have hfz := ZZ.out.fz
  clear hA hA2
  cases hv : validZ s n f
  · rw [hv] at HVA HU
    have hbo : meetOk s n f s2 n2 f2 = false := by rw [HMO.out, HU.out]; rfl
    rw [hbo]
    clear hbo hv HBF HMO HU
    go_enter Try.func25, Try.ntmps25
    go_wp2_with fail
    refine (HVA.out _ (HA.out.below (by repeat (first | with_reducible exact Below.refl _ _ | exact Hid.out (by with_reducible assumption) | refine Below.setCell ?_ (by simp <;> omega) _ | refine below_alloc ?_ _ | refine Below.alloc ?_ (by simp <;> omega) _ | refine Below.drew ?_ | refine below_drewN ?_ _ | exact Below.refl _ _)))).mono ?_
    rintro e w3 ⟨rfl, hb3⟩
    have N3 := Lib.hid (show Below w.heap.size w w3 from Below.trans (by repeat (first | with_reducible exact Below.refl _ _ | exact Hid.out (by with_reducible assumption) | refine Below.setCell ?_ (by simp <;> omega) _ | refine below_alloc ?_ _ | refine Below.alloc ?_ (by simp <;> omega) _ | refine Below.drew ?_ | refine below_drewN ?_ _ | exact Below.refl _ _)) (hb3.mono (by simp <;> omega)))
    have XA3 := Lib.hid (XA.out.below hb3)
    have XB3 := Lib.hid (XB.out.below hb3)
    have ZZ3 := Lib.hid (ZZ.out.below hb3)
    clear hb3 xa0 xa1 xb0 xb1 k0 k1 hfz
    obtain ⟨xa0, xa1⟩ := XA3.out
    obtain ⟨xb0, xb1⟩ := XB3.out
    obtain ⟨k0, k1⟩ := ZZ3.out.box
    have hfz := ZZ3.out.fz
    go_wp2_with fail
    refine bodyPost_ret (v := .tuple #[.agg #[.int .i64 0, .slice none 0 0], .bool false]) ?r1 rfl ?r2
    case r1 => simp [results, Try.results25, go_sem, k0, k1]
    case r2 => exact ZoneRes.none_ rfl (by repeat (first | with_reducible exact Below.refl _ _ | exact Hid.out (by with_reducible assumption) | refine Below.setCell ?_ (by simp <;> omega) _ | refine below_alloc ?_ _ | refine Below.alloc ?_ (by simp <;> omega) _ | refine Below.drew ?_ | refine below_drewN ?_ _ | exact Below.refl _ _))
  cases hv2 : validZ s2 n2 f2
  · rw [hv2] at HVB HU
    rw [hv] at HVA HU
    have hbo : meetOk s n f s2 n2 f2 = false := by rw [HMO.out, HU.out]; rfl
    rw [hbo]
    clear hbo hv hv2 HBF HMO HU
    go_enter Try.func25, Try.ntmps25
    go_wp2_with fail
    refine (HVA.out _ (HA.out.below (by repeat (first | with_reducible exact Below.refl _ _ | exact Hid.out (by with_reducible assumption) | refine Below.setCell ?_ (by simp <;> omega) _ | refine below_alloc ?_ _ | refine Below.alloc ?_ (by simp <;> omega) _ | refine Below.drew ?_ | refine below_drewN ?_ _ | exact Below.refl _ _)))).mono ?_
    rintro e w3 ⟨rfl, hb3⟩
    have N3 := Lib.hid (show Below w.heap.size w w3 from Below.trans (by repeat (first | with_reducible exact Below.refl _ _ | exact Hid.out (by with_reducible assumption) | refine Below.setCell ?_ (by simp <;> omega) _ | refine below_alloc ?_ _ | refine Below.alloc ?_ (by simp <;> omega) _ | refine Below.drew ?_ | refine below_drewN ?_ _ | exact Below.refl _ _)) (hb3.mono (by simp <;> omega)))
    have XA3 := Lib.hid (XA.out.below hb3)
    have XB3 := Lib.hid (XB.out.below hb3)
    have ZZ3 := Lib.hid (ZZ.out.below hb3)
    clear hb3 xa0 xa1 xb0 xb1 k0 k1 hfz
    obtain ⟨xa0, xa1⟩ := XA3.out
    obtain ⟨xb0, xb1⟩ := XB3.out
    obtain ⟨k0, k1⟩ := ZZ3.out.box
    have hfz := ZZ3.out.fz
    go_wp2_with fail
    refine (HVB.out _ (HA2.out.below (by repeat (first | with_reducible exact Below.refl _ _ | exact Hid.out (by with_reducible assumption) | refine Below.setCell ?_ (by simp <;> omega) _ | refine below_alloc ?_ _ | refine Below.alloc ?_ (by simp <;> omega) _ | refine Below.drew ?_ | refine below_drewN ?_ _ | exact Below.refl _ _)))).mono ?_
    rintro e w4 ⟨rfl, hb4⟩
    have N4 := Lib.hid (show Below w.heap.size w w4 from Below.trans (by repeat (first | with_reducible exact Below.refl _ _ | exact Hid.out (by with_reducible assumption) | refine Below.setCell ?_ (by simp <;> omega) _ | refine below_alloc ?_ _ | refine Below.alloc ?_ (by simp <;> omega) _ | refine Below.drew ?_ | refine below_drewN ?_ _ | exact Below.refl _ _)) (hb4.mono (by have := N3.out.size; first | exact this | (simp; omega))))
    have XA4 := Lib.hid (XA3.out.below hb4)
    have XB4 := Lib.hid (XB3.out.below hb4)
    have ZZ4 := Lib.hid (ZZ3.out.below hb4)
    clear hb4 xa0 xa1 xb0 xb1 k0 k1 hfz
    obtain ⟨xa0, xa1⟩ := XA4.out
    obtain ⟨xb0, xb1⟩ := XB4.out
    obtain ⟨k0, k1⟩ := ZZ4.out.box
    have hfz := ZZ4.out.fz
    go_wp2_with fail
    refine bodyPost_ret (v := .tuple #[.agg #[.int .i64 0, .slice none 0 0], .bool false]) ?r1 rfl ?r2
    case r1 => simp [results, Try.results25, go_sem, k0, k1]
    case r2 => exact ZoneRes.none_ rfl (by repeat (first | with_reducible exact Below.refl _ _ | exact Hid.out (by with_reducible assumption) | refine Below.setCell ?_ (by simp <;> omega) _ | refine below_alloc ?_ _ | refine Below.alloc ?_ (by simp <;> omega) _ | refine Below.drew ?_ | refine below_drewN ?_ _ | exact Below.refl _ _))
  rw [hv2] at HVB HU
  rw [hv] at HVA HU
  by_cases hs : s = s2
  rotate_left
  · have hbo : meetOk s n f s2 n2 f2 = false := by rw [HMO.out, HU.out, decide_eq_false hs]; rfl
    rw [hbo]
    have b3 : (s != s2) = true := bne_iff_ne.2 hs
    clear hbo hv hv2 HBF HMO HU hs
    go_enter Try.func25, Try.ntmps25
    go_wp2_with fail
    refine (HVA.out _ (HA.out.below (by repeat (first | with_reducible exact Below.refl _ _ | exact Hid.out (by with_reducible assumption) | refine Below.setCell ?_ (by simp <;> omega) _ | refine below_alloc ?_ _ | refine Below.alloc ?_ (by simp <;> omega) _ | refine Below.drew ?_ | refine below_drewN ?_ _ | exact Below.refl _ _)))).mono ?_
    rintro e w3 ⟨rfl, hb3⟩
    have N3 := Lib.hid (show Below w.heap.size w w3 from Below.trans (by repeat (first | with_reducible exact Below.refl _ _ | exact Hid.out (by with_reducible assumption) | refine Below.setCell ?_ (by simp <;> omega) _ | refine below_alloc ?_ _ | refine Below.alloc ?_ (by simp <;> omega) _ | refine Below.drew ?_ | refine below_drewN ?_ _ | exact Below.refl _ _)) (hb3.mono (by simp <;> omega)))
    have XA3 := Lib.hid (XA.out.below hb3)
    have XB3 := Lib.hid (XB.out.below hb3)
    have ZZ3 := Lib.hid (ZZ.out.below hb3)
    clear hb3 xa0 xa1 xb0 xb1 k0 k1 hfz
    obtain ⟨xa0, xa1⟩ := XA3.out
    obtain ⟨xb0, xb1⟩ := XB3.out
    obtain ⟨k0, k1⟩ := ZZ3.out.box
    have hfz := ZZ3.out.fz
    go_wp2_with fail
    refine (HVB.out _ (HA2.out.below (by repeat (first | with_reducible exact Below.refl _ _ | exact Hid.out (by with_reducible assumption) | refine Below.setCell ?_ (by simp <;> omega) _ | refine below_alloc ?_ _ | refine Below.alloc ?_ (by simp <;> omega) _ | refine Below.drew ?_ | refine below_drewN ?_ _ | exact Below.refl _ _)))).mono ?_
    rintro e w4 ⟨rfl, hb4⟩
    have N4 := Lib.hid (show Below w.heap.size w w4 from Below.trans (by repeat (first | with_reducible exact Below.refl _ _ | exact Hid.out (by with_reducible assumption) | refine Below.setCell ?_ (by simp <;> omega) _ | refine below_alloc ?_ _ | refine Below.alloc ?_ (by simp <;> omega) _ | refine Below.drew ?_ | refine below_drewN ?_ _ | exact Below.refl _ _)) (hb4.mono (by have := N3.out.size; first | exact this | (simp; omega))))
    have XA4 := Lib.hid (XA3.out.below hb4)
    have XB4 := Lib.hid (XB3.out.below hb4)
    have ZZ4 := Lib.hid (ZZ3.out.below hb4)
    clear hb4 xa0 xa1 xb0 xb1 k0 k1 hfz
    obtain ⟨xa0, xa1⟩ := XA4.out
    obtain ⟨xb0, xb1⟩ := XB4.out
    obtain ⟨k0, k1⟩ := ZZ4.out.box
    have hfz := ZZ4.out.fz
    go_wp2_with fail
    refine bodyPost_ret (v := .tuple #[.agg #[.int .i64 0, .slice none 0 0], .bool false]) ?r1 rfl ?r2
    case r1 => simp [results, Try.results25, go_sem, k0, k1]
    case r2 => exact ZoneRes.none_ rfl (by repeat (first | with_reducible exact Below.refl _ _ | exact Hid.out (by with_reducible assumption) | refine Below.setCell ?_ (by simp <;> omega) _ | refine below_alloc ?_ _ | refine Below.alloc ?_ (by simp <;> omega) _ | refine Below.drew ?_ | refine below_drewN ?_ _ | exact Below.refl _ _))
  have hb1 : bothOk s n f s2 n2 f2 = true := by rw [HU.out, decide_eq_true hs]; rfl
  obtain ⟨m, rfl, rfl, hm1, hm, hq, rfl, hmin⟩ := HBF.out hb1
  have HMO2 := Lib.hid (show meetOk (m : Int) n2 f (m : Int) n2 f2 = tightOk (m : Int) n2 (minF f f2) by rw [HMO.out, hb1]; rfl)
  rw [HMO2.out]
  have HTT := Lib.hid (fun T c5 W h => implTightZone_any (m : Int) T n2 c5 (minF f f2) W hn2 h)
  have HMI := Lib.hid (show ∀ k, minF f f2 k = if f2 k < f k then f2 k else f k from fun k => rfl)
  have HMB := Lib.hid (show ∀ k, minF f f2 k = minB (f k) (f2 k) from fun k => rfl)
  have hn25 : n2 ≤ 25 := by rw [hq]; exact (idx_wrap (m := m) (i := 0) (k := 0) hm (by omega) (by omega)).2.2.2.2
  clear hb1 hv hv2 HBF HMO HU HMO2 hmin hq hs
  generalize tightOk (m : Int) n2 (minF f f2) = vt at *
  generalize tightG (m : Int) (minF f f2) = tg at *
  generalize minF f f2 = mf at *
  generalize hmi : (m : Int) = mi at *
  clear hmi
  go_enter Try.func25, Try.ntmps25
  go_wp2_with fail
  refine (HVA.out _ (HA.out.below (by repeat (first | with_reducible exact Below.refl _ _ | exact Hid.out (by with_reducible assumption) | refine Below.setCell ?_ (by simp <;> omega) _ | refine below_alloc ?_ _ | refine Below.alloc ?_ (by simp <;> omega) _ | refine Below.drew ?_ | refine below_drewN ?_ _ | exact Below.refl _ _)))).mono ?_
  rintro e w3 ⟨rfl, hb3⟩
  have N3 := Lib.hid (show Below w.heap.size w w3 from Below.trans (by repeat (first | with_reducible exact Below.refl _ _ | exact Hid.out (by with_reducible assumption) | refine Below.setCell ?_ (by simp <;> omega) _ | refine below_alloc ?_ _ | refine Below.alloc ?_ (by simp <;> omega) _ | refine Below.drew ?_ | refine below_drewN ?_ _ | exact Below.refl _ _)) (hb3.mono (by simp <;> omega)))
  have XA3 := Lib.hid (XA.out.below hb3)
  have XB3 := Lib.hid (XB.out.below hb3)
  have ZZ3 := Lib.hid (ZZ.out.below hb3)
  clear hb3 xa0 xa1 xb0 xb1 k0 k1 hfz
  obtain ⟨xa0, xa1⟩ := XA3.out
  obtain ⟨xb0, xb1⟩ := XB3.out
  obtain ⟨k0, k1⟩ := ZZ3.out.box
  have hfz := ZZ3.out.fz
  go_wp2_with fail
  refine (HVB.out _ (HA2.out.below (by repeat (first | with_reducible exact Below.refl _ _ | exact Hid.out (by with_reducible assumption) | refine Below.setCell ?_ (by simp <;> omega) _ | refine below_alloc ?_ _ | refine Below.alloc ?_ (by simp <;> omega) _ | refine Below.drew ?_ | refine below_drewN ?_ _ | exact Below.refl _ _)))).mono ?_
  rintro e w4 ⟨rfl, hb4⟩
  have N4 := Lib.hid (show Below w.heap.size w w4 from Below.trans (by repeat (first | with_reducible exact Below.refl _ _ | exact Hid.out (by with_reducible assumption) | refine Below.setCell ?_ (by simp <;> omega) _ | refine below_alloc ?_ _ | refine Below.alloc ?_ (by simp <;> omega) _ | refine Below.drew ?_ | refine below_drewN ?_ _ | exact Below.refl _ _)) (hb4.mono (by have := N3.out.size; first | exact this | (simp; omega))))
  have XA4 := Lib.hid (XA3.out.below hb4)
  have XB4 := Lib.hid (XB3.out.below hb4)
  have ZZ4 := Lib.hid (ZZ3.out.below hb4)
  clear hb4 xa0 xa1 xb0 xb1 k0 k1 hfz
  obtain ⟨xa0, xa1⟩ := XA4.out
  obtain ⟨xb0, xb1⟩ := XB4.out
  obtain ⟨k0, k1⟩ := ZZ4.out.box
  have hfz := ZZ4.out.fz
  obtain ⟨w1, hw1⟩ : ∃ W : World, W = w4 := ⟨_, rfl⟩
  rw [← hw1]
  have N1 := Lib.hid (show Below w.heap.size w w1 by rw [hw1]; exact (by repeat (first | with_reducible exact Below.refl _ _ | exact Hid.out (by with_reducible assumption) | refine Below.setCell ?_ (by simp <;> omega) _ | refine below_alloc ?_ _ | refine Below.alloc ?_ (by simp <;> omega) _ | refine Below.drew ?_ | refine below_drewN ?_ _ | exact Below.refl _ _)))
  have XA1 := Lib.hid (show Box2 w1 w.heap.size _ _ by rw [hw1]; exact XA4.out)
  have XB1 := Lib.hid (show Box2 w1 (w.heap.size + 1) _ _ by rw [hw1]; exact XB4.out)
  have ZZ1 := Lib.hid (show BoxF2 w1 (w.heap.size + 2) _ _ by rw [hw1]; exact ZZ4.out)
  clear hw1 xa0 xa1 xb0 xb1 k0 k1 hfz XA XB ZZ
  obtain ⟨xa0, xa1⟩ := XA1.out
  obtain ⟨xb0, xb1⟩ := XB1.out
  have hz1 : w.heap.size + 2 < w1.heap.size := ZZ1.out.lt
  have Y1 := Lib.hid (BoxF2.new w1 36 (.int .i64 mi) (.slice none 0 0))
  have AA := Lib.hid (((Below.refl w1.heap.size w1).alloc (Nat.le_refl _) (.cells #[.int .i64 mi, .slice none 0 0] 36)))
  obtain ⟨y0, y1⟩ := Y1.out.box
  obtain ⟨xa2, xa3⟩ := XA1.out.below AA.out
  go_wp2_with fail
  go_loopw [31] (fun i wr => ∃ (k : Nat) (v : Value), k ≤ n2 ∧ i = .int .i64 k ∧ Hid (Below w.heap.size w wr) ∧ Hid (Box2 wr (w.heap.size + 1) (.int .i64 mi) (.slice A2 n2 c2)) ∧ Hid (Box2 wr w.heap.size (.int .i64 mi) (.slice A n2 c)) ∧ Hid (BoxF2 wr (w.heap.size + 2) (.int .i64 0) (.slice none 0 0)) ∧ Hid (BoxF2 wr w1.heap.size (.int .i64 mi) v) ∧
    Hid (RowV wr (w1.heap.size + 1) 2 1 v k (fun i => .int .i64 (mf i)) w1.heap.size)) (fun i _ => n2 - (intOf i).toNat)
  case atStart => exact ⟨0, _, Nat.zero_le _, rfl, (by repeat (first | with_reducible exact Below.refl _ _ | exact Hid.out (by with_reducible assumption) | refine Below.setCell ?_ (by simp <;> omega) _ | refine below_alloc ?_ _ | refine Below.alloc ?_ (by simp <;> omega) _ | refine Below.drew ?_ | refine below_drewN ?_ _ | exact Below.refl _ _)), XB1.out.below AA.out, XA1.out.below AA.out, ZZ1.out.below AA.out, Y1, ⟨⟨by simp [listV], .inl ⟨rfl, rfl⟩⟩, by simp [Value.ownBlock]⟩⟩
  case round =>
    obtain ⟨k, v, hk, rfl, HB1, HXB, HXA, HZ, HY, HR⟩ := hrel
    clear y0 y1 xa2 xa3 xb0 xb1 xa0 xa1
    obtain ⟨xb0, xb1⟩ := HXB.out
    obtain ⟨xa0, xa1⟩ := HXA.out
    obtain ⟨y0, y1⟩ := HY.out.box
    by_cases hlt : k < n2
    · have d1 : (k : Int) < n2 := by omega
      have CA := Lib.hid (HA.out.below (HB1.out))
      have CB := Lib.hid (HA2.out.below (HB1.out))
      obtain ⟨x, rfl, hx0⟩ := CA.out k hlt
      have hx : wr.cell? (x.add k) = some (.int .i64 (f k)) := hx0
      obtain ⟨x2, rfl, hx20⟩ := CB.out k hlt
      have hx2 : wr.cell? (x2.add k) = some (.int .i64 (f2 k)) := hx20
      have HE0 := Lib.hid (HMI.out k)
      have HE1 := Lib.hid (HMB.out k)
      have ya : ∀ o, (wr.alloc o).cell? ⟨w1.heap.size, 1, none⟩ = some v := fun o => (HY.out.alloc o).box.c1
      have hzr : w1.heap.size < wr.heap.size := HY.out.lt
      clear hx0 hx20 HMI HMB
      generalize f k = u1 at *
      generalize f2 k = u2 at *
      have HE := Lib.hid HE0.out
      clear HE0 HE1
      go_wp2_with fail
      go_region_law (first
        | (refine step_append_cells _ rfl (.tmp 37) (.tmp 45) 22 rfl (w1.heap.size + 1) 2 ia (.int .i64 0) 1 8 Try.underlying22 hia hza hsa hba rfl (by decide) v k _ rfl (own_below' HR.out.own (by repeat (first | with_reducible exact Below.refl _ _ | exact Hid.out (by with_reducible assumption) | refine Below.setCell ?_ (by simp <;> omega) _ | refine below_alloc ?_ _ | refine Below.alloc ?_ (by simp <;> omega) _ | refine Below.drew ?_ | refine below_drewN ?_ _ | exact Below.refl _ _)))
             (some ⟨_, 0, none⟩) 1 1 (fun _ => .int .i64 (if u2 < u1 then u2 else u1)) rfl (cells_lit1 rfl) (fun _ _ => rfl) (by unfold maxLen; omega) (by omega) (by simp <;> omega) ?_
           intro v1 w2 hown hgrow hwhere
           obtain ⟨g1, cp1, rfl⟩ : ∃ g cp, v1 = .slice (some ⟨g, 0, none⟩) (k + 1) cp := by
             rcases hown.2 with ⟨_, h0⟩ | ⟨g', cap', cur, e1, _⟩
             · simp at h0
             · exact ⟨g', cap', e1⟩
           have HR2 := Lib.hid (show RowV w2 (w1.heap.size + 1) 2 1 (.slice (some ⟨g1, 0, none⟩) (k + 1) cp1) (k + 1) (fun i => .int .i64 (mf i)) w1.heap.size from
             ⟨by rw [listV_one (V := fun i => .int .i64 (mf i)) (by rw [HE.out])] at hown; exact hown,
              fun e => by rcases hwhere with h | h
                          · exact HR.out.ne (h ▸ e)
                          · rw [h] at e; simp at e; omega⟩)
           have HY2 := Lib.hid (BoxF2.grown (BoxF2.below HY.out (by repeat (first | with_reducible exact Below.refl _ _ | exact Hid.out (by with_reducible assumption) | refine Below.setCell ?_ (by simp <;> omega) _ | refine below_alloc ?_ _ | refine Below.alloc ?_ (by simp <;> omega) _ | refine Below.drew ?_ | refine below_drewN ?_ _ | exact Below.refl _ _))) hgrow (fun e => HR.out.ne e.symm))
           have HZ2 := Lib.hid (BoxF2.grown (BoxF2.below HZ.out (by repeat (first | with_reducible exact Below.refl _ _ | exact Hid.out (by with_reducible assumption) | refine Below.setCell ?_ (by simp <;> omega) _ | refine below_alloc ?_ _ | refine Below.alloc ?_ (by simp <;> omega) _ | refine Below.drew ?_ | refine below_drewN ?_ _ | exact Below.refl _ _))) hgrow (fun e => by have := (HR.out.own.lt _ e.symm).1; omega))
           have HG2 := Lib.hid (show Below w.heap.size w w2 from Below.grown (by repeat (first | with_reducible exact Below.refl _ _ | exact Hid.out (by with_reducible assumption) | refine Below.setCell ?_ (by simp <;> omega) _ | refine below_alloc ?_ _ | refine Below.alloc ?_ (by simp <;> omega) _ | refine Below.drew ?_ | refine below_drewN ?_ _ | exact Below.refl _ _)) hgrow (by have := HB1.out.size; simp <;> omega) (fun j hj => by have := (HR.out.own.lt j hj).1; omega))
           have HXB2 := Lib.hid (box2_grown (Box2.below HXB.out (by repeat (first | with_reducible exact Below.refl _ _ | exact Hid.out (by with_reducible assumption) | refine Below.setCell ?_ (by simp <;> omega) _ | refine below_alloc ?_ _ | refine Below.alloc ?_ (by simp <;> omega) _ | refine Below.drew ?_ | refine below_drewN ?_ _ | exact Below.refl _ _))) hgrow (fun e => by have := (HR.out.own.lt _ e.symm).1; omega))
           have HXA2 := Lib.hid (box2_grown (Box2.below HXA.out (by repeat (first | with_reducible exact Below.refl _ _ | exact Hid.out (by with_reducible assumption) | refine Below.setCell ?_ (by simp <;> omega) _ | refine below_alloc ?_ _ | refine Below.alloc ?_ (by simp <;> omega) _ | refine Below.drew ?_ | refine below_drewN ?_ _ | exact Below.refl _ _))) hgrow (fun e => by have := (HR.out.own.lt _ e.symm).1; omega))
           have zz2 := HY2.out.fz 1
           obtain ⟨w20, w21⟩ := HY2.out.box
           clear hown hgrow hwhere))
      all_goals (
        go_wp2_with fail
        exact ⟨⟨k + 1, _, by omega, by simp, (by repeat (first | with_reducible exact Below.refl _ _ | exact Hid.out (by with_reducible assumption) | refine Below.setCell ?_ (by simp <;> omega) _ | refine below_alloc ?_ _ | refine Below.alloc ?_ (by simp <;> omega) _ | refine Below.drew ?_ | refine below_drewN ?_ _ | exact Below.refl _ _)), HXB2.out.below' w1.heap.size 1 _ (by omega), HXA2.out.below' w1.heap.size 1 _ (by omega), HZ2.out.far (by omega), HY2.out.set1, HR2.out.setP 1 _⟩, by simp [intOf]; omega⟩)
    · have d1 : ¬ (k : Int) < n2 := by omega
      obtain rfl : n2 = k := by omega
      obtain ⟨k0, k1⟩ := HZ.out.box
      have hfz := HZ.out.fz
      obtain ⟨A1, c1, g1, rfl, hg1, hgp, ho1⟩ := HR.out.ownC
      have O1 := Lib.hid (show OwnC wr g1 A1 n2 (fun i => .int .i64 (mf i)) by rw [Nat.mul_one] at ho1; exact ho1)
      have OC := Lib.hid O1.out.cells
      clear ho1 hg1 hgp HR
      go_wp2_with fail
      refine (HTT.out A1 c1 _ (OC.out.below (by repeat (first | with_reducible exact Below.refl _ _ | exact Hid.out (by with_reducible assumption) | refine Below.setCell ?_ (by simp <;> omega) _ | refine below_alloc ?_ _ | refine Below.alloc ?_ (by simp <;> omega) _ | refine Below.drew ?_ | refine below_drewN ?_ _ | exact Below.refl _ _)))).mono ?_
      rintro e w5 ⟨A5, c5, g5, rfl, hg5, -, ho5, hb5⟩
      have N5 := Lib.hid (show Below w.heap.size w w5 from Below.trans (by repeat (first | with_reducible exact Below.refl _ _ | exact Hid.out (by with_reducible assumption) | refine Below.setCell ?_ (by simp <;> omega) _ | refine below_alloc ?_ _ | refine Below.alloc ?_ (by simp <;> omega) _ | refine Below.drew ?_ | refine below_drewN ?_ _ | exact Below.refl _ _)) (hb5.mono (by have := HB1.out.size; first | exact this | (simp; omega))))
      have Z5 := Lib.hid (HZ.out.below hb5)
      have O5 := Lib.hid ho5
      have hg6 : w.heap.size + 2 < g5 := by have := HZ.out.lt; first | omega | (simp at hg5; omega)
      clear hb5 ho5 k0 k1 hfz
      obtain ⟨k0, k1⟩ := Z5.out.box
      have hfz := Z5.out.fz
      go_wp2_with fail
      refine bodyPost_ret (v := .tuple #[.agg #[.int .i64 (ifI vt mi), .slice A5 (ifN vt n2) c5], .bool vt]) ?r1 rfl ?r2
      case r1 => simp [results, Try.results25, go_sem, k0, k1]
      case r2 => exact ⟨A5, c5, g5, rfl, by omega, trivial, own_setP' (own_setP' O5.out (fun _ => by omega)) (fun _ => by omega), (by repeat (first | with_reducible exact Below.refl _ _ | exact Hid.out (by with_reducible assumption) | refine Below.setCell ?_ (by simp <;> omega) _ | refine below_alloc ?_ _ | refine Below.alloc ?_ (by simp <;> omega) _ | refine Below.drew ?_ | refine below_drewN ?_ _ | exact Below.refl _ _))⟩
set_option maxRecDepth 20000 in
set_option maxHeartbeats 8000000 in
theorem specMeetZone_any (s : Int) (A : Option Addr) (n c : Nat) (f : Nat → Int) (s2 : Int) (A2 : Option Addr) (n2 c2 : Nat) (f2 : Nat → Int) (w : World) (hn : n ≤ 1048576) (hA : Cells w A n (fun i => .int .i64 (f i))) (hn2 : n2 ≤ 1048576) (hA2 : Cells w A2 n2 (fun i => .int .i64 (f2 i))) :
    Calls Try.prog 23 #[.agg #[.int .i64 s, .slice A n c], .agg #[.int .i64 s2, .slice A2 n2 c2]] w fun e w' => ZoneRes w w' e (meetOk s n f s2 n2 f2) (ifI (meetOk s n f s2 n2 f2) s) (ifN (meetOk s n f s2 n2 f2) n) (tightG s (minF f f2)) := by
  obtain ⟨ia, hia, hza, hsa, hba⟩ := info_parts infoCI
  have HA := Lib.hid hA
  have HA2 := Lib.hid hA2
  have HVA := Lib.hid (fun P W h b => l07Zone_any P s A n c f W hn h b)
  have HVB := Lib.hid (fun P W h b => l07Zone_any P s2 A2 n2 c2 f2 W hn2 h b)
  have HU := Lib.hid (show bothOk s n f s2 n2 f2 = (validZ s n f && (validZ s2 n2 f2 && decide (s = s2))) from rfl)
  have HBF := Lib.hid (fun (h : bothOk s n f s2 n2 f2 = true) => bothOk_facts h)
  have HMO := Lib.hid (show meetOk s n f s2 n2 f2 = (bothOk s n f s2 n2 f2 && tightOk s n (minF f f2)) from rfl)
  have XA := Lib.hid (((Box2.new w 36 (.int .i64 s) (.slice A n c)).alloc (.cells #[.int .i64 s2, .slice A2 n2 c2] 36)).alloc (.cells #[.int .i64 0, .slice none 0 0] 36))
  have XB := Lib.hid (Box2.alloc (show Box2 _ (w.heap.size + 1) _ _ from by simpa using (Box2.new (w.alloc (.cells #[.int .i64 s, .slice A n c] 36)) 36 (.int .i64 s2) (.slice A2 n2 c2))) (.cells #[.int .i64 0, .slice none 0 0] 36))
  have ZZ := Lib.hid (show BoxF2 _ (w.heap.size + 2) _ _ from by simpa using (BoxF2.new ((w.alloc (.cells #[.int .i64 s, .slice A n c] 36)).alloc (.cells #[.int .i64 s2, .slice A2 n2 c2] 36)) 36 (.int .i64 0) (.slice none 0 0)))
  obtain ⟨xa0, xa1⟩ := XA.out
  obtain ⟨xb0, xb1⟩ := XB.out
  obtain ⟨k0, k1⟩ := ZZ.out.box
  have hfz := ZZ.out.fz
  clear hA hA2
  cases hv : validZ s n f
  · rw [hv] at HVA HU
    have hbo : meetOk s n f s2 n2 f2 = false := by rw [HMO.out, HU.out]; rfl
    rw [hbo]
    clear hbo hv HBF HMO HU
    go_enter Try.func23, Try.ntmps23
    go_wp2_with fail
    refine (HVA.out w.heap.size _ (HA.out.below (by repeat (first | with_reducible exact Below.refl _ _ | exact Hid.out (by with_reducible assumption) | refine Below.setCell ?_ (by simp <;> omega) _ | refine below_alloc ?_ _ | refine Below.alloc ?_ (by simp <;> omega) _ | refine Below.drew ?_ | refine below_drewN ?_ _ | exact Below.refl _ _))) XA.out).mono ?_
    rintro e w3 ⟨rfl, rfl⟩
    go_wp2_with fail
    refine bodyPost_ret (v := .tuple #[.agg #[.int .i64 0, .slice none 0 0], .bool false]) ?r1 rfl ?r2
    case r1 => simp [results, Try.results23, go_sem, k0, k1]
    case r2 => exact ZoneRes.none_ rfl (by repeat (first | with_reducible exact Below.refl _ _ | exact Hid.out (by with_reducible assumption) | refine Below.setCell ?_ (by simp <;> omega) _ | refine below_alloc ?_ _ | refine Below.alloc ?_ (by simp <;> omega) _ | refine Below.drew ?_ | refine below_drewN ?_ _ | exact Below.refl _ _))
  cases hv2 : validZ s2 n2 f2
  · rw [hv2] at HVB HU
    rw [hv] at HVA HU
    have hbo : meetOk s n f s2 n2 f2 = false := by rw [HMO.out, HU.out]; rfl
    rw [hbo]
    clear hbo hv hv2 HBF HMO HU
    go_enter Try.func23, Try.ntmps23
    go_wp2_with fail
    refine (HVA.out w.heap.size _ (HA.out.below (by repeat (first | with_reducible exact Below.refl _ _ | exact Hid.out (by with_reducible assumption) | refine Below.setCell ?_ (by simp <;> omega) _ | refine below_alloc ?_ _ | refine Below.alloc ?_ (by simp <;> omega) _ | refine Below.drew ?_ | refine below_drewN ?_ _ | exact Below.refl _ _))) XA.out).mono ?_
    rintro e w3 ⟨rfl, rfl⟩
    go_wp2_with fail
    refine (HVB.out (w.heap.size + 1) _ (HA2.out.below (by repeat (first | with_reducible exact Below.refl _ _ | exact Hid.out (by with_reducible assumption) | refine Below.setCell ?_ (by simp <;> omega) _ | refine below_alloc ?_ _ | refine Below.alloc ?_ (by simp <;> omega) _ | refine Below.drew ?_ | refine below_drewN ?_ _ | exact Below.refl _ _))) XB.out).mono ?_
    rintro e w4 ⟨rfl, rfl⟩
    go_wp2_with fail
    refine bodyPost_ret (v := .tuple #[.agg #[.int .i64 0, .slice none 0 0], .bool false]) ?r1 rfl ?r2
    case r1 => simp [results, Try.results23, go_sem, k0, k1]
    case r2 => exact ZoneRes.none_ rfl (by repeat (first | with_reducible exact Below.refl _ _ | exact Hid.out (by with_reducible assumption) | refine Below.setCell ?_ (by simp <;> omega) _ | refine below_alloc ?_ _ | refine Below.alloc ?_ (by simp <;> omega) _ | refine Below.drew ?_ | refine below_drewN ?_ _ | exact Below.refl _ _))
  rw [hv2] at HVB HU
  rw [hv] at HVA HU
  by_cases hs : s = s2
  rotate_left
  · have hbo : meetOk s n f s2 n2 f2 = false := by rw [HMO.out, HU.out, decide_eq_false hs]; rfl
    rw [hbo]
    have b3 : (s != s2) = true := bne_iff_ne.2 hs
    clear hbo hv hv2 HBF HMO HU hs
    go_enter Try.func23, Try.ntmps23
    go_wp2_with fail
    refine (HVA.out w.heap.size _ (HA.out.below (by repeat (first | with_reducible exact Below.refl _ _ | exact Hid.out (by with_reducible assumption) | refine Below.setCell ?_ (by simp <;> omega) _ | refine below_alloc ?_ _ | refine Below.alloc ?_ (by simp <;> omega) _ | refine Below.drew ?_ | refine below_drewN ?_ _ | exact Below.refl _ _))) XA.out).mono ?_
    rintro e w3 ⟨rfl, rfl⟩
    go_wp2_with fail
    refine (HVB.out (w.heap.size + 1) _ (HA2.out.below (by repeat (first | with_reducible exact Below.refl _ _ | exact Hid.out (by with_reducible assumption) | refine Below.setCell ?_ (by simp <;> omega) _ | refine below_alloc ?_ _ | refine Below.alloc ?_ (by simp <;> omega) _ | refine Below.drew ?_ | refine below_drewN ?_ _ | exact Below.refl _ _))) XB.out).mono ?_
    rintro e w4 ⟨rfl, rfl⟩
    go_wp2_with fail
    refine bodyPost_ret (v := .tuple #[.agg #[.int .i64 0, .slice none 0 0], .bool false]) ?r1 rfl ?r2
    case r1 => simp [results, Try.results23, go_sem, k0, k1]
    case r2 => exact ZoneRes.none_ rfl (by repeat (first | with_reducible exact Below.refl _ _ | exact Hid.out (by with_reducible assumption) | refine Below.setCell ?_ (by simp <;> omega) _ | refine below_alloc ?_ _ | refine Below.alloc ?_ (by simp <;> omega) _ | refine Below.drew ?_ | refine below_drewN ?_ _ | exact Below.refl _ _))
  have hb1 : bothOk s n f s2 n2 f2 = true := by rw [HU.out, decide_eq_true hs]; rfl
  obtain ⟨m, rfl, rfl, hm1, hm, hq, rfl, hmin⟩ := HBF.out hb1
  have HMO2 := Lib.hid (show meetOk (m : Int) n2 f (m : Int) n2 f2 = tightOk (m : Int) n2 (minF f f2) by rw [HMO.out, hb1]; rfl)
  rw [HMO2.out]
  have HTT0 := Lib.hid (fun P T c5 W h b => l07Tight_any P m T n2 c5 (minF f f2) W hm hm1 hq (okZ_le hmin) h b)
  have HTE := Lib.hid (show tightOk (m : Int) n2 (minF f f2) = okZ (m + 1) n2 (tightF (m + 1) (minF f f2) (m + 1)) by
    unfold tightOk
    rw [validZ_nat m n2 _ hm1 hm, hmin, Bool.true_and, validZ_nat m n2 _ hm1 hm, show ((m : Int) + 1).toNat = m + 1 by omega])
  have HTG := Lib.hid (show tightG (m : Int) (minF f f2) = tightF (m + 1) (minF f f2) (m + 1) by unfold tightG; rw [show ((m : Int) + 1).toNat = m + 1 by omega])
  have HTT := Lib.hid (show ∀ P T c5 W, Cells W T n2 (fun i => .int .i64 (minF f f2 i)) → Box2 W P (.int .i64 (m : Int)) (.slice T n2 c5) → Calls Try.prog 90 #[.pointer (some ⟨P, 0, none⟩)] W fun e w' => ZoneRes W w' e (tightOk (m : Int) n2 (minF f f2)) (ifI (tightOk (m : Int) n2 (minF f f2)) (m : Int)) (ifN (tightOk (m : Int) n2 (minF f f2)) n2) (tightG (m : Int) (minF f f2)) from fun P T c5 W h b => by rw [HTE.out, HTG.out]; exact HTT0.out P T c5 W h b)
  clear HTT0 HTE HTG
  have HMI := Lib.hid (show ∀ k, minF f f2 k = if f2 k < f k then f2 k else f k from fun k => rfl)
  have HMB := Lib.hid (show ∀ k, minF f f2 k = minB (f k) (f2 k) from fun k => rfl)
  have hn25 : n2 ≤ 25 := by rw [hq]; exact (idx_wrap (m := m) (i := 0) (k := 0) hm (by omega) (by omega)).2.2.2.2
  clear hb1 hv hv2 HBF HMO HU HMO2 hmin hq hs
  generalize tightOk (m : Int) n2 (minF f f2) = vt at *
  generalize tightG (m : Int) (minF f f2) = tg at *
  generalize minF f f2 = mf at *
  generalize hmi : (m : Int) = mi at *
  clear hmi
  go_enter Try.func23, Try.ntmps23
  go_wp2_with fail
  refine (HVA.out w.heap.size _ (HA.out.below (by repeat (first | with_reducible exact Below.refl _ _ | exact Hid.out (by with_reducible assumption) | refine Below.setCell ?_ (by simp <;> omega) _ | refine below_alloc ?_ _ | refine Below.alloc ?_ (by simp <;> omega) _ | refine Below.drew ?_ | refine below_drewN ?_ _ | exact Below.refl _ _))) XA.out).mono ?_
  rintro e w3 ⟨rfl, rfl⟩
  go_wp2_with fail
  refine (HVB.out (w.heap.size + 1) _ (HA2.out.below (by repeat (first | with_reducible exact Below.refl _ _ | exact Hid.out (by with_reducible assumption) | refine Below.setCell ?_ (by simp <;> omega) _ | refine below_alloc ?_ _ | refine Below.alloc ?_ (by simp <;> omega) _ | refine Below.drew ?_ | refine below_drewN ?_ _ | exact Below.refl _ _))) XB.out).mono ?_
  rintro e w4 ⟨rfl, rfl⟩
  obtain ⟨w1, hw1⟩ : ∃ W : World, W = ((w.alloc (.cells #[.int .i64 mi, .slice A n2 c] 36)).alloc (.cells #[.int .i64 mi, .slice A2 n2 c2] 36)).alloc (.cells #[.int .i64 0, .slice none 0 0] 36) := ⟨_, rfl⟩
  rw [← hw1]
  have N1 := Lib.hid (show Below w.heap.size w w1 by rw [hw1]; exact (by repeat (first | with_reducible exact Below.refl _ _ | exact Hid.out (by with_reducible assumption) | refine Below.setCell ?_ (by simp <;> omega) _ | refine below_alloc ?_ _ | refine Below.alloc ?_ (by simp <;> omega) _ | refine Below.drew ?_ | refine below_drewN ?_ _ | exact Below.refl _ _)))
  have XA1 := Lib.hid (show Box2 w1 w.heap.size _ _ by rw [hw1]; exact XA.out)
  have XB1 := Lib.hid (show Box2 w1 (w.heap.size + 1) _ _ by rw [hw1]; exact XB.out)
  have ZZ1 := Lib.hid (show BoxF2 w1 (w.heap.size + 2) _ _ by rw [hw1]; exact ZZ.out)
  clear hw1 xa0 xa1 xb0 xb1 k0 k1 hfz XA XB ZZ
  obtain ⟨xa0, xa1⟩ := XA1.out
  obtain ⟨xb0, xb1⟩ := XB1.out
  have hz1 : w.heap.size + 2 < w1.heap.size := ZZ1.out.lt
  have Y1 := Lib.hid (BoxF2.new w1 36 (.int .i64 mi) (.slice none 0 0))
  have AA := Lib.hid (((Below.refl w1.heap.size w1).alloc (Nat.le_refl _) (.cells #[.int .i64 mi, .slice none 0 0] 36)))
  obtain ⟨y0, y1⟩ := Y1.out.box
  obtain ⟨xa2, xa3⟩ := XA1.out.below AA.out
  go_wp2_with fail
  go_loopw [28] (fun i wr => ∃ (k : Nat) (v : Value), k ≤ n2 ∧ i = .int .i64 k ∧ Hid (Below w.heap.size w wr) ∧ Hid (Box2 wr (w.heap.size + 1) (.int .i64 mi) (.slice A2 n2 c2)) ∧ Hid (Box2 wr w.heap.size (.int .i64 mi) (.slice A n2 c)) ∧ Hid (BoxF2 wr (w.heap.size + 2) (.int .i64 0) (.slice none 0 0)) ∧ Hid (BoxF2 wr w1.heap.size (.int .i64 mi) v) ∧
    Hid (RowV wr (w1.heap.size + 1) 2 1 v k (fun i => .int .i64 (mf i)) w1.heap.size)) (fun i _ => n2 - (intOf i).toNat)
  case atStart => exact ⟨0, _, Nat.zero_le _, rfl, (by repeat (first | with_reducible exact Below.refl _ _ | exact Hid.out (by with_reducible assumption) | refine Below.setCell ?_ (by simp <;> omega) _ | refine below_alloc ?_ _ | refine Below.alloc ?_ (by simp <;> omega) _ | refine Below.drew ?_ | refine below_drewN ?_ _ | exact Below.refl _ _)), XB1.out.below AA.out, XA1.out.below AA.out, ZZ1.out.below AA.out, Y1, ⟨⟨by simp [listV], .inl ⟨rfl, rfl⟩⟩, by simp [Value.ownBlock]⟩⟩
  case round =>
    obtain ⟨k, v, hk, rfl, HB1, HXB, HXA, HZ, HY, HR⟩ := hrel
    clear y0 y1 xa2 xa3 xb0 xb1 xa0 xa1
    obtain ⟨xb0, xb1⟩ := HXB.out
    obtain ⟨xa0, xa1⟩ := HXA.out
    obtain ⟨y0, y1⟩ := HY.out.box
    by_cases hlt : k < n2
    · have d1 : (k : Int) < n2 := by omega
      have CA := Lib.hid (HA.out.below (HB1.out))
      have CB := Lib.hid (HA2.out.below (HB1.out))
      obtain ⟨x, rfl, hx0⟩ := CA.out k hlt
      have hx : wr.cell? (x.add k) = some (.int .i64 (f k)) := hx0
      obtain ⟨x2, rfl, hx20⟩ := CB.out k hlt
      have hx2 : wr.cell? (x2.add k) = some (.int .i64 (f2 k)) := hx20
      have HE0 := Lib.hid (HMI.out k)
      have HE1 := Lib.hid (HMB.out k)
      have ya : ∀ o, (wr.alloc o).cell? ⟨w1.heap.size, 1, none⟩ = some v := fun o => (HY.out.alloc o).box.c1
      have hzr : w1.heap.size < wr.heap.size := HY.out.lt
      clear hx0 hx20 HMI HMB
      have HXC := Lib.hid (show ∀ W, Below w.heap.size w W → (W.cell? (x.add k) = some (.int .i64 (f k)) ∧ W.cell? (x2.add k) = some (.int .i64 (f2 k))) from fun W hW => by
        obtain ⟨x', q, r⟩ := (HA.out.below hW) k hlt
        cases q
        obtain ⟨x2', q2, r2⟩ := (HA2.out.below hW) k hlt
        cases q2
        exact ⟨r, r2⟩)
      generalize f k = u1 at *
      generalize f2 k = u2 at *
      have HMN := Lib.hid (fun W => l00Min_any u1 u2 W)
      rw [← HE1.out] at HMN
      have HE := Lib.hid (show mf k = mf k from rfl)
      clear HE0 HE1
      generalize hmk : mf k = mk at *
      go_wp2_with fail
      have HKeep := Lib.hid (show ∀ W, Below wr.heap.size wr W → (W.cell? ⟨w1.heap.size, 1, none⟩ = some v ∧ W.cell? ⟨w.heap.size, 1, none⟩ = some (.slice (some x) n2 c) ∧ W.cell? (x.add k) = some (.int .i64 u1) ∧ W.cell? ⟨w.heap.size + 1, 1, none⟩ = some (.slice (some x2) n2 c2) ∧ W.cell? (x2.add k) = some (.int .i64 u2)) from fun W hW =>
        ⟨(HY.out.below hW).box.c1, (HXA.out.below hW).c1, by rw [hW.cell (World.block_lt_of_cell? _ _ hx)]; exact hx, (HXB.out.below hW).c1, by rw [hW.cell (World.block_lt_of_cell? _ _ hx2)]; exact hx2⟩)
      refine wp_region_noPanic ?_
      refine wp_region_S (fun W => W.cell? ⟨w1.heap.size, 1, none⟩ = some v ∧ W.cell? ⟨w.heap.size, 1, none⟩ = some (.slice (some x) n2 c) ∧ W.cell? (x.add k) = some (.int .i64 u1) ∧ W.cell? ⟨w.heap.size + 1, 1, none⟩ = some (.slice (some x2) n2 c2) ∧ W.cell? (x2.add k) = some (.int .i64 u2)) 16 (by kernel_rfl) ?_ (fun hHeld => ?_)
      · (try dsimp only)
        exact HKeep.out _ (by repeat (first | with_reducible exact Below.refl _ _ | exact Hid.out (by with_reducible assumption) | refine Below.setCell ?_ (by simp <;> omega) _ | refine below_alloc ?_ _ | refine Below.alloc ?_ (by simp <;> omega) _ | refine Below.drew ?_ | refine below_drewN ?_ _ | exact Below.refl _ _))
      (refine wpAnyS_take (i := 0) (v := ?_) rfl (by kernel_rfl) (by kernel_rfl) (by kernel_rfl) (fun _ _ _ h => h) (by kernel_rfl) (by kernel_rfl) (Or.inl ⟨by rfl, ?_⟩) (by assumption) ?_; rotate_left 1; focus ((intro w hSw; (try dsimp only at hSw); (try simp only [Act.put, List.getElem_toArray, List.getElem_cons_succ, List.getElem_cons_zero, List.setIfInBounds_toArray, List.set_cons_zero, List.set_cons_succ]); go_simp; (try with_reducible rfl)); done); (try simp only [Act.put, List.getElem_toArray, List.getElem_cons_succ, List.getElem_cons_zero, List.setIfInBounds_toArray, List.set_cons_zero, List.set_cons_succ]))
      (refine wpAnyS_take (i := 1) (v := ?_) rfl (by kernel_rfl) (by kernel_rfl) (by kernel_rfl) (fun _ _ _ h => h) (by kernel_rfl) (by kernel_rfl) (Or.inl ⟨by rfl, ?_⟩) (by assumption) ?_; rotate_left 1; focus ((intro w hSw; (try dsimp only at hSw); (try simp only [Act.put, List.getElem_toArray, List.getElem_cons_succ, List.getElem_cons_zero, List.setIfInBounds_toArray, List.set_cons_zero, List.set_cons_succ]); go_simp; (try with_reducible rfl)); done); (try simp only [Act.put, List.getElem_toArray, List.getElem_cons_succ, List.getElem_cons_zero, List.setIfInBounds_toArray, List.set_cons_zero, List.set_cons_succ]))
      (refine wpAnyS_take (i := 2) (v := ?_) rfl (by kernel_rfl) (by kernel_rfl) (by kernel_rfl) (fun _ _ _ h => h) (by kernel_rfl) (by kernel_rfl) (Or.inl ⟨by rfl, ?_⟩) (by assumption) ?_; rotate_left 1; focus ((intro w hSw; (try dsimp only at hSw); (try simp only [Act.put, List.getElem_toArray, List.getElem_cons_succ, List.getElem_cons_zero, List.setIfInBounds_toArray, List.set_cons_zero, List.set_cons_succ]); go_simp; (try with_reducible rfl)); done); (try simp only [Act.put, List.getElem_toArray, List.getElem_cons_succ, List.getElem_cons_zero, List.setIfInBounds_toArray, List.set_cons_zero, List.set_cons_succ]))
      (refine wpAnyS_take (i := 3) (v := ?_) rfl (by kernel_rfl) (by kernel_rfl) (by kernel_rfl) (fun _ _ _ h => h) (by kernel_rfl) (by kernel_rfl) (Or.inl ⟨by rfl, ?_⟩) (by assumption) ?_; rotate_left 1; focus ((intro w hSw; (try dsimp only at hSw); (try simp only [Act.put, List.getElem_toArray, List.getElem_cons_succ, List.getElem_cons_zero, List.setIfInBounds_toArray, List.set_cons_zero, List.set_cons_succ]); go_simp; (try with_reducible rfl)); done); (try simp only [Act.put, List.getElem_toArray, List.getElem_cons_succ, List.getElem_cons_zero, List.setIfInBounds_toArray, List.set_cons_zero, List.set_cons_succ]))
      (refine wpAnyS_take (i := 4) (v := ?_) rfl (by kernel_rfl) (by kernel_rfl) (by kernel_rfl) (fun _ _ _ h => h) (by kernel_rfl) (by kernel_rfl) (Or.inl ⟨by rfl, ?_⟩) (by assumption) ?_; rotate_left 1; focus ((intro w hSw; (try dsimp only at hSw); (try simp only [Act.put, List.getElem_toArray, List.getElem_cons_succ, List.getElem_cons_zero, List.setIfInBounds_toArray, List.set_cons_zero, List.set_cons_succ]); go_simp; (try with_reducible rfl)); done); (try simp only [Act.put, List.getElem_toArray, List.getElem_cons_succ, List.getElem_cons_zero, List.setIfInBounds_toArray, List.set_cons_zero, List.set_cons_succ]))
      (refine wpAnyS_take (i := 5) (v := ?_) rfl (by kernel_rfl) (by kernel_rfl) (by kernel_rfl) (fun _ _ _ h => h) (by kernel_rfl) (by kernel_rfl) (Or.inl ⟨by rfl, ?_⟩) (by assumption) ?_; rotate_left 1; focus ((intro w hSw; (try dsimp only at hSw); (try simp only [Act.put, List.getElem_toArray, List.getElem_cons_succ, List.getElem_cons_zero, List.setIfInBounds_toArray, List.set_cons_zero, List.set_cons_succ]); go_simp; (try with_reducible rfl)); done); (try simp only [Act.put, List.getElem_toArray, List.getElem_cons_succ, List.getElem_cons_zero, List.setIfInBounds_toArray, List.set_cons_zero, List.set_cons_succ]))
      (refine wpAnyS_take (i := 6) (v := ?_) rfl (by kernel_rfl) (by kernel_rfl) (by kernel_rfl) (fun _ _ _ h => h) (by kernel_rfl) (by kernel_rfl) (Or.inl ⟨by rfl, ?_⟩) (by assumption) ?_; rotate_left 1; focus ((intro w hSw; (try dsimp only at hSw); (try simp only [Act.put, List.getElem_toArray, List.getElem_cons_succ, List.getElem_cons_zero, List.setIfInBounds_toArray, List.set_cons_zero, List.set_cons_succ]); go_simp; (try with_reducible rfl)); done); (try simp only [Act.put, List.getElem_toArray, List.getElem_cons_succ, List.getElem_cons_zero, List.setIfInBounds_toArray, List.set_cons_zero, List.set_cons_succ]))
      (refine wpAnyS_take (i := 7) (v := ?_) rfl (by kernel_rfl) (by kernel_rfl) (by kernel_rfl) (fun _ _ _ h => h) (by kernel_rfl) (by kernel_rfl) (Or.inl ⟨by rfl, ?_⟩) (by assumption) ?_; rotate_left 1; focus ((intro w hSw; (try dsimp only at hSw); (try simp only [Act.put, List.getElem_toArray, List.getElem_cons_succ, List.getElem_cons_zero, List.setIfInBounds_toArray, List.set_cons_zero, List.set_cons_succ]); go_simp; (try with_reducible rfl)); done); (try simp only [Act.put, List.getElem_toArray, List.getElem_cons_succ, List.getElem_cons_zero, List.setIfInBounds_toArray, List.set_cons_zero, List.set_cons_succ]))
      (refine wpAnyS_take (i := 8) (v := ?_) rfl (by kernel_rfl) (by kernel_rfl) (by kernel_rfl) (fun _ _ _ h => h) (by kernel_rfl) (by kernel_rfl) (Or.inl ⟨by rfl, ?_⟩) (by assumption) ?_; rotate_left 1; focus ((intro w hSw; (try dsimp only at hSw); (try simp only [Act.put, List.getElem_toArray, List.getElem_cons_succ, List.getElem_cons_zero, List.setIfInBounds_toArray, List.set_cons_zero, List.set_cons_succ]); go_simp; (try with_reducible rfl)); done); (try simp only [Act.put, List.getElem_toArray, List.getElem_cons_succ, List.getElem_cons_zero, List.setIfInBounds_toArray, List.set_cons_zero, List.set_cons_succ]))
      (refine wpAnyS_take (i := 9) (v := ?_) rfl (by kernel_rfl) (by kernel_rfl) (by kernel_rfl) (fun _ _ _ h => h) (by kernel_rfl) (by kernel_rfl) (Or.inl ⟨by rfl, ?_⟩) (by assumption) ?_; rotate_left 1; focus ((intro w hSw; (try dsimp only at hSw); (try simp only [Act.put, List.getElem_toArray, List.getElem_cons_succ, List.getElem_cons_zero, List.setIfInBounds_toArray, List.set_cons_zero, List.set_cons_succ]); go_simp; (try with_reducible rfl)); done); (try simp only [Act.put, List.getElem_toArray, List.getElem_cons_succ, List.getElem_cons_zero, List.setIfInBounds_toArray, List.set_cons_zero, List.set_cons_succ]))
      (refine wpAnyS_take (i := 10) (v := ?_) rfl (by kernel_rfl) (by kernel_rfl) (by kernel_rfl) (fun _ _ _ h => h) (by kernel_rfl) (by kernel_rfl) (Or.inl ⟨by rfl, ?_⟩) (by assumption) ?_; rotate_left 1; focus ((intro w hSw; (try dsimp only at hSw); (try simp only [Act.put, List.getElem_toArray, List.getElem_cons_succ, List.getElem_cons_zero, List.setIfInBounds_toArray, List.set_cons_zero, List.set_cons_succ]); go_simp; (try with_reducible rfl)); done); (try simp only [Act.put, List.getElem_toArray, List.getElem_cons_succ, List.getElem_cons_zero, List.setIfInBounds_toArray, List.set_cons_zero, List.set_cons_succ]))
      (refine wpAnyS_take (i := 11) (v := ?_) rfl (by kernel_rfl) (by kernel_rfl) (by kernel_rfl) (fun _ _ _ h => h) (by kernel_rfl) (by kernel_rfl) (Or.inl ⟨by rfl, ?_⟩) (by assumption) ?_; rotate_left 1; focus ((intro w hSw; (try dsimp only at hSw); (try simp only [Act.put, List.getElem_toArray, List.getElem_cons_succ, List.getElem_cons_zero, List.setIfInBounds_toArray, List.set_cons_zero, List.set_cons_succ]); go_simp; (try with_reducible rfl)); done); (try simp only [Act.put, List.getElem_toArray, List.getElem_cons_succ, List.getElem_cons_zero, List.setIfInBounds_toArray, List.set_cons_zero, List.set_cons_succ]))
      refine wpAnyS_one (i := 12) (by kernel_rfl) rfl (fun K hK => ?_)
      try simp only [Act.put, List.getElem_toArray, List.getElem_cons_succ, List.getElem_cons_zero, List.setIfInBounds_toArray, List.set_cons_zero, List.set_cons_succ]
      go_simp
      refine (HMN.out _).mono ?_
      rintro e w' ⟨rfl, rfl⟩
      go_wp2_with fail
      refine hK.out _ _ (fun _ => ?_) ?_
      · (try dsimp only)
        exact HKeep.out _ (by repeat (first | with_reducible exact Below.refl _ _ | exact Hid.out (by with_reducible assumption) | refine Below.setCell ?_ (by simp <;> omega) _ | refine below_alloc ?_ _ | refine Below.alloc ?_ (by simp <;> omega) _ | refine Below.drew ?_ | refine below_drewN ?_ _ | exact Below.refl _ _))
      clear hK K
      try simp only [Act.put, List.getElem_toArray, List.getElem_cons_succ, List.getElem_cons_zero, List.setIfInBounds_toArray, List.set_cons_zero, List.set_cons_succ]
      refine wpAnyS_one (i := 13) (by kernel_rfl) rfl (fun K hK => ?_)
      go_simp
      refine hK.out _ _ (fun _ => ?_) ?_
      · (try dsimp only)
        exact HKeep.out _ (by repeat (first | with_reducible exact Below.refl _ _ | exact Hid.out (by with_reducible assumption) | refine Below.setCell ?_ (by simp <;> omega) _ | refine below_alloc ?_ _ | refine Below.alloc ?_ (by simp <;> omega) _ | refine Below.drew ?_ | refine below_drewN ?_ _ | exact Below.refl _ _))
      clear hK K
      try simp only [Act.put, List.getElem_toArray, List.getElem_cons_succ, List.getElem_cons_zero, List.setIfInBounds_toArray, List.set_cons_zero, List.set_cons_succ]
      refine wpAnyS_one (i := 14) (by kernel_rfl) rfl (fun K hK => ?_)
      refine step_append_cells _ rfl (.tmp 32) (.tmp 44) 22 rfl (w1.heap.size + 1) 2 ia (.int .i64 0) 1 8 Try.underlying22 hia hza hsa hba rfl (by decide) v k _ rfl (own_below' HR.out.own (by repeat (first | with_reducible exact Below.refl _ _ | exact Hid.out (by with_reducible assumption) | refine Below.setCell ?_ (by simp <;> omega) _ | refine below_alloc ?_ _ | refine Below.alloc ?_ (by simp <;> omega) _ | refine Below.drew ?_ | refine below_drewN ?_ _ | exact Below.refl _ _)))
        (some ⟨_, 0, none⟩) 1 1 (fun _ => .int .i64 mk) rfl (cells_lit1 rfl) (fun _ _ => rfl) (by unfold maxLen; omega) (by omega) (by simp <;> omega) ?_
      intro v1 w2 hown hgrow hwhere
      obtain ⟨g1, cp1, rfl⟩ : ∃ g cp, v1 = .slice (some ⟨g, 0, none⟩) (k + 1) cp := by
        rcases hown.2 with ⟨_, h0⟩ | ⟨g', cap', cur, e1, _⟩
        · simp at h0
        · exact ⟨g', cap', e1⟩
      have HR2 := Lib.hid (show RowV w2 (w1.heap.size + 1) 2 1 (.slice (some ⟨g1, 0, none⟩) (k + 1) cp1) (k + 1) (fun i => .int .i64 (mf i)) w1.heap.size from
        ⟨by rw [listV_one (V := fun i => .int .i64 (mf i)) (by rw [hmk])] at hown; exact hown,
         fun e => by rcases hwhere with h | h
                     · exact HR.out.ne (h ▸ e)
                     · rw [h] at e; simp at e; omega⟩)
      have HY2 := Lib.hid (BoxF2.grown (BoxF2.below HY.out (by repeat (first | with_reducible exact Below.refl _ _ | exact Hid.out (by with_reducible assumption) | refine Below.setCell ?_ (by simp <;> omega) _ | refine below_alloc ?_ _ | refine Below.alloc ?_ (by simp <;> omega) _ | refine Below.drew ?_ | refine below_drewN ?_ _ | exact Below.refl _ _))) hgrow (fun e => HR.out.ne e.symm))
      have HZ2 := Lib.hid (BoxF2.grown (BoxF2.below HZ.out (by repeat (first | with_reducible exact Below.refl _ _ | exact Hid.out (by with_reducible assumption) | refine Below.setCell ?_ (by simp <;> omega) _ | refine below_alloc ?_ _ | refine Below.alloc ?_ (by simp <;> omega) _ | refine Below.drew ?_ | refine below_drewN ?_ _ | exact Below.refl _ _))) hgrow (fun e => by have := (HR.out.own.lt _ e.symm).1; omega))
      have HG2 := Lib.hid (show Below w.heap.size w w2 from Below.grown (by repeat (first | with_reducible exact Below.refl _ _ | exact Hid.out (by with_reducible assumption) | refine Below.setCell ?_ (by simp <;> omega) _ | refine below_alloc ?_ _ | refine Below.alloc ?_ (by simp <;> omega) _ | refine Below.drew ?_ | refine below_drewN ?_ _ | exact Below.refl _ _)) hgrow (by have := HB1.out.size; simp <;> omega) (fun j hj => by have := (HR.out.own.lt j hj).1; omega))
      have HXB2 := Lib.hid (box2_grown (Box2.below HXB.out (by repeat (first | with_reducible exact Below.refl _ _ | exact Hid.out (by with_reducible assumption) | refine Below.setCell ?_ (by simp <;> omega) _ | refine below_alloc ?_ _ | refine Below.alloc ?_ (by simp <;> omega) _ | refine Below.drew ?_ | refine below_drewN ?_ _ | exact Below.refl _ _))) hgrow (fun e => by have := (HR.out.own.lt _ e.symm).1; omega))
      have HXA2 := Lib.hid (box2_grown (Box2.below HXA.out (by repeat (first | with_reducible exact Below.refl _ _ | exact Hid.out (by with_reducible assumption) | refine Below.setCell ?_ (by simp <;> omega) _ | refine below_alloc ?_ _ | refine Below.alloc ?_ (by simp <;> omega) _ | refine Below.drew ?_ | refine below_drewN ?_ _ | exact Below.refl _ _))) hgrow (fun e => by have := (HR.out.own.lt _ e.symm).1; omega))
      have zz2 := HY2.out.fz 1
      obtain ⟨w20, w21⟩ := HY2.out.box
      clear hown hgrow hwhere
      refine hK.out _ _ (fun _ => ?_) ?_
      · (try dsimp only)
        obtain ⟨c1, c2⟩ := HXC.out _ HG2.out
        exact ⟨w21, HXA2.out.c1, c1, HXB2.out.c1, c2⟩
      clear hK K
      try simp only [Act.put, List.getElem_toArray, List.getElem_cons_succ, List.getElem_cons_zero, List.setIfInBounds_toArray, List.set_cons_zero, List.set_cons_succ]
      refine wpAnyS_one (i := 15) (by kernel_rfl) rfl (fun K hK => ?_)
      go_simp
      refine hK.out _ _ (fun _ => ?_) ?_
      · (try dsimp only)
        obtain ⟨c1, c2⟩ := HXC.out _ HG2.out
        exact ⟨w21, HXA2.out.c1, c1, HXB2.out.c1, c2⟩
      clear hK K
      try simp only [Act.put, List.getElem_toArray, List.getElem_cons_succ, List.getElem_cons_zero, List.setIfInBounds_toArray, List.set_cons_zero, List.set_cons_succ]
      refine wpAnyS_one (i := 16) (by kernel_rfl) rfl (fun K hK => ?_)
      go_simp
      refine hK.out _ _ (fun hf => Bool.noConfusion (show (true : Bool) = false from hf)) ?_
      clear hK K
      try simp only [Act.put, List.getElem_toArray, List.getElem_cons_succ, List.getElem_cons_zero, List.setIfInBounds_toArray, List.set_cons_zero, List.set_cons_succ]
      refine wpAnyS_done (by kernel_rfl) ?_ _
      refine NoPanic.normal ?_
      go_wp2_with fail
      exact ⟨⟨k + 1, _, by omega, by simp, (by repeat (first | with_reducible exact Below.refl _ _ | exact Hid.out (by with_reducible assumption) | refine Below.setCell ?_ (by simp <;> omega) _ | refine below_alloc ?_ _ | refine Below.alloc ?_ (by simp <;> omega) _ | refine Below.drew ?_ | refine below_drewN ?_ _ | exact Below.refl _ _)), HXB2.out.below' w1.heap.size 1 _ (by omega), HXA2.out.below' w1.heap.size 1 _ (by omega), HZ2.out.far (by omega), HY2.out.set1, HR2.out.setP 1 _⟩, by simp [intOf]; omega⟩
    · have d1 : ¬ (k : Int) < n2 := by omega
      obtain rfl : n2 = k := by omega
      obtain ⟨k0, k1⟩ := HZ.out.box
      have hfz := HZ.out.fz
      obtain ⟨A1, c1, g1, rfl, hg1, hgp, ho1⟩ := HR.out.ownC
      have O1 := Lib.hid (show OwnC wr g1 A1 n2 (fun i => .int .i64 (mf i)) by rw [Nat.mul_one] at ho1; exact ho1)
      have OC := Lib.hid O1.out.cells
      clear ho1 hg1 hgp HR
      go_wp2_with fail
      refine (HTT.out w1.heap.size A1 c1 _ (OC.out.below (by repeat (first | with_reducible exact Below.refl _ _ | exact Hid.out (by with_reducible assumption) | refine Below.setCell ?_ (by simp <;> omega) _ | refine below_alloc ?_ _ | refine Below.alloc ?_ (by simp <;> omega) _ | refine Below.drew ?_ | refine below_drewN ?_ _ | exact Below.refl _ _))) (Box2.below HY.out.box (by repeat (first | with_reducible exact Below.refl _ _ | exact Hid.out (by with_reducible assumption) | refine Below.setCell ?_ (by simp <;> omega) _ | refine below_alloc ?_ _ | refine Below.alloc ?_ (by simp <;> omega) _ | refine Below.drew ?_ | refine below_drewN ?_ _ | exact Below.refl _ _)))).mono ?_
      rintro e w5 ⟨A5, c5, g5, rfl, hg5, -, ho5, hb5⟩
      have N5 := Lib.hid (show Below w.heap.size w w5 from Below.trans (by repeat (first | with_reducible exact Below.refl _ _ | exact Hid.out (by with_reducible assumption) | refine Below.setCell ?_ (by simp <;> omega) _ | refine below_alloc ?_ _ | refine Below.alloc ?_ (by simp <;> omega) _ | refine Below.drew ?_ | refine below_drewN ?_ _ | exact Below.refl _ _)) (hb5.mono (by have := HB1.out.size; first | exact this | (simp; omega))))
      have Z5 := Lib.hid (HZ.out.below hb5)
      have O5 := Lib.hid ho5
      have hg6 : w.heap.size + 2 < g5 := by have := HZ.out.lt; first | omega | (simp at hg5; omega)
      clear hb5 ho5 k0 k1 hfz
      obtain ⟨k0, k1⟩ := Z5.out.box
      have hfz := Z5.out.fz
      go_wp2_with fail
      refine bodyPost_ret (v := .tuple #[.agg #[.int .i64 (ifI vt mi), .slice A5 (ifN vt n2) c5], .bool vt]) ?r1 rfl ?r2
      case r1 => simp [results, Try.results23, go_sem, k0, k1]
      case r2 => exact ⟨A5, c5, g5, rfl, by omega, trivial, own_setP' (own_setP' O5.out (fun _ => by omega)) (fun _ => by omega), (by repeat (first | with_reducible exact Below.refl _ _ | exact Hid.out (by with_reducible assumption) | refine Below.setCell ?_ (by simp <;> omega) _ | refine below_alloc ?_ _ | refine Below.alloc ?_ (by simp <;> omega) _ | refine Below.drew ?_ | refine below_drewN ?_ _ | exact Below.refl _ _))⟩
end Go.Proofs.Ytfpombhhnojjhaa
