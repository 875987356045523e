/- The zone behind a reset of a clock, on both sides. -/
import Derived.Test.YtpelmfanchkpeaaZonR0
set_option linter.unusedVariables false
set_option linter.unusedSimpArgs false
namespace Go.Proofs.Ytpelmfanchkpeaa
open Go.RowKit
theorem resetOk_no {s : Int} {n : Nat} {f : Nat → Int} {c : Int} (h : inB c 1 s = false) : resetOk s n f c = false := by unfold resetOk; rw [h]; simp
theorem resetOk_no2 {s : Int} {n : Nat} {f : Nat → Int} {c : Int} (h : tightOk s n f = false) : resetOk s n f c = false := by unfold resetOk; rw [h]; simp
set_option maxRecDepth 20000 in
set_option maxHeartbeats 4000000 in
theorem implResetZone_any (s : Int) (A : Option Addr) (n c : Nat) (f : Nat → Int) (cl : Int) (w : World) (hn : n ≤ 1048576) (hA : Cells w A n (fun i => .int .i64 (f i))) :
    Calls Try.prog 48 #[.agg #[.int .i64 s, .slice A n c], .int .i64 cl] w fun e w' => ZoneRes w w' e (resetOk s n f cl) (ifI (resetOk s n f cl) s) (ifN (resetOk s n f cl) n) (resetG s cl.toNat f) := by
  have HA := Lib.hid hA
  have Z0 := Lib.hid (show BoxF2 _ (w.heap.size + 1) _ _ from by simpa using (BoxF2.new (w.alloc (.cells #[.int .i64 s, .slice A n c] 41)) 41 (.int .i64 0) (.slice none 0 0)))
  have X0 := Lib.hid ((Box2.new w 41 (.int .i64 s) (.slice A n c)).alloc (.cells #[.int .i64 0, .slice none 0 0] 41))
  obtain ⟨x0, x1⟩ := X0.out
  clear hA
  cases hb : inB cl 1 s
  · have H0 := Lib.hid (between_is hb)
    rw [resetOk_no hb]
    clear hb
    obtain ⟨k0, k1⟩ := Z0.out.box
    have hfz := Z0.out.fz
    go_enter Try.func48, Try.ntmps48
    go_wp2_with fail
    refine (H0.out _).mono ?_
    rintro e w' ⟨rfl, rfl⟩
    go_wp2_with fail
    refine bodyPost_ret (v := .tuple #[.agg #[.int .i64 0, .slice none 0 0], .bool false]) ?r1 rfl ?r2
    case r1 => simp [results, Try.results48, go_sem, k0, k1]
    case r2 => exact ZoneRes.none_ rfl (by repeat (first | with_reducible exact Below.refl _ _ | exact Hid.out (by with_reducible assumption) | refine Below.setCell ?_ (by simp <;> omega) _ | refine below_alloc ?_ _ | refine Below.alloc ?_ (by simp <;> omega) _ | refine Below.drew ?_ | refine below_drewN ?_ _ | exact Below.refl _ _))
  have H0 := Lib.hid (between_is hb)
  have hb2 := inB_iff.1 hb
  cases hv : tightOk s n f
  · have HT := Lib.hid (fun (FN : Nat) i k W h => tightThen_no FN s A n c f i k W hn h hv)
    rw [resetOk_no2 hv]
    clear hv hb hb2
    go_enter Try.func48, Try.ntmps48
    go_wp2_with fail
    refine (H0.out _).mono ?_
    rintro e w' ⟨rfl, rfl⟩
    go_wp2_with fail
    refine (HT.out 74 cl cl _ (HA.out.below (by repeat (first | with_reducible exact Below.refl _ _ | exact Hid.out (by with_reducible assumption) | refine Below.setCell ?_ (by simp <;> omega) _ | refine below_alloc ?_ _ | refine Below.alloc ?_ (by simp <;> omega) _ | refine Below.drew ?_ | refine below_drewN ?_ _ | exact Below.refl _ _)))).mono ?_
    rintro e w2 hr
    obtain ⟨A2, c2, g2, rfl, hg2, -, ho2, hb⟩ := hr 0 0 (fun _ => 0)
    have N2 := Lib.hid (show Below w.heap.size w w2 from Below.trans (by repeat (first | with_reducible exact Below.refl _ _ | exact Hid.out (by with_reducible assumption) | refine Below.setCell ?_ (by simp <;> omega) _ | refine below_alloc ?_ _ | refine Below.alloc ?_ (by simp <;> omega) _ | refine Below.drew ?_ | refine below_drewN ?_ _ | exact Below.refl _ _)) (hb.mono (by simp <;> omega)))
    have Z2 := Lib.hid (Z0.out.below hb)
    clear hb ho2 hr
    obtain ⟨k0, k1⟩ := Z2.out.box
    have hfz := Z2.out.fz
    go_wp2_with fail
    refine bodyPost_ret (v := .tuple #[.agg #[.int .i64 (ifI false 0), .slice A2 (ifN false 0) c2], .bool false]) ?r1 rfl ?r2
    case r1 => simp [results, Try.results48, go_sem, k0, k1]
    case r2 => exact ⟨A2, c2, w.heap.size, rfl, Nat.le_refl _, trivial, OwnC.zero, (by repeat (first | with_reducible exact Below.refl _ _ | exact Hid.out (by with_reducible assumption) | refine Below.setCell ?_ (by simp <;> omega) _ | refine below_alloc ?_ _ | refine Below.alloc ?_ (by simp <;> omega) _ | refine Below.drew ?_ | refine below_drewN ?_ _ | exact Below.refl _ _))⟩
  have hok : resetOk s n f cl = true := by unfold resetOk; rw [hv, hb]; rfl
  rw [hok]
  obtain ⟨m, rfl, hm1, hm, hq⟩ := tightOk_nat hv
  obtain ⟨k, rfl⟩ : ∃ k : Nat, cl = (k : Int) := ⟨cl.toNat, by omega⟩
  have hmt : ((m : Int) + 1).toNat = m + 1 := by omega
  have hLF : resetG (m : Int) (k : Int).toNat f = resetF (m + 1) k (tightG (m : Int) f) (m + 1) := by unfold resetG; rw [hmt, Int.toNat_natCast]
  rw [hLF]
  have HT := Lib.hid (fun W h => tightThen_reset (m : Int) A n c f k 1 (k : Int) (fun q => if q = 0 then tightG (m : Int) f else resetF (m + 1) k (tightG (m : Int) f) (m + 1)) W hn (by rw [hq]; exact Nat.mul_pos (by omega) (by omega)) h hv (by omega) (by omega) rfl
    (fun q W T g1 c1 hqm ho => by
      obtain rfl : q = 0 := by omega
      exact reset_any m T n c1 g1 k (tightG (m : Int) f) W hm (by omega) (by omega) hq ho))
  have e1 : ifI true (m : Int) = (m : Int) := rfl
  have e2 : ifN true n = n := rfl
  rw [e1, e2]
  have HT2 := Lib.hid (fun W h => show Calls Try.prog 72 #[.agg #[.int .i64 (m : Int), .slice A n c], .func (.func 74) #[] #[], .int .i64 (k : Int), .int .i64 (k : Int)] W fun e w' => ZoneRes W w' e true (m : Int) n (resetF (m + 1) k (tightG (m : Int) f) (m + 1)) from HT.out W h)
  clear hv e1 e2 hLF hmt hq HT hok hb hb2
  generalize resetF (m + 1) k (tightG (m : Int) f) (m + 1) = lf at *
  generalize (k : Int) = ki at *
  generalize (m : Int) = mi at *
  go_enter Try.func48, Try.ntmps48
  go_wp2_with fail
  refine (H0.out _).mono ?_
  rintro e w' ⟨rfl, rfl⟩
  go_wp2_with fail
  refine (HT2.out _ (HA.out.below (by repeat (first | with_reducible exact Below.refl _ _ | exact Hid.out (by with_reducible assumption) | refine Below.setCell ?_ (by simp <;> omega) _ | refine below_alloc ?_ _ | refine Below.alloc ?_ (by simp <;> omega) _ | refine Below.drew ?_ | refine below_drewN ?_ _ | exact Below.refl _ _)))).mono ?_
  rintro e w2 ⟨A2, c2, g2, rfl, hg2, -, ho2, hb⟩
  have N2 := Lib.hid (show Below w.heap.size w w2 from Below.trans (by repeat (first | with_reducible exact Below.refl _ _ | exact Hid.out (by with_reducible assumption) | refine Below.setCell ?_ (by simp <;> omega) _ | refine below_alloc ?_ _ | refine Below.alloc ?_ (by simp <;> omega) _ | refine Below.drew ?_ | refine below_drewN ?_ _ | exact Below.refl _ _)) (hb.mono (by simp <;> omega)))
  have Z2 := Lib.hid (Z0.out.below hb)
  have O2 := Lib.hid ho2
  have hg3 : w.heap.size + 2 ≤ g2 := by simp at hg2; omega
  clear hb ho2 hg2
  obtain ⟨k0, k1⟩ := Z2.out.box
  have hfz := Z2.out.fz
  go_wp2_with fail
  refine bodyPost_ret (v := .tuple #[.agg #[.int .i64 mi, .slice A2 n c2], .bool true]) ?r1 rfl ?r2
  case r1 => simp [results, Try.results48, go_sem, k0, k1]
  case r2 => exact ⟨A2, c2, g2, rfl, by omega, trivial, own_setP' (own_setP' O2.out (fun _ => by omega)) (fun _ => by omega), (by repeat (first | with_reducible exact Below.refl _ _ | exact Hid.out (by with_reducible assumption) | refine Below.setCell ?_ (by simp <;> omega) _ | refine below_alloc ?_ _ | refine Below.alloc ?_ (by simp <;> omega) _ | refine Below.drew ?_ | refine below_drewN ?_ _ | exact Below.refl _ _))⟩
set_option maxRecDepth 20000 in
set_option maxHeartbeats 8000000 in
theorem specResetZone_any (s : Int) (A : Option Addr) (n c : Nat) (f : Nat → Int) (cl : Int) (w : World) (hn : n ≤ 1048576) (hA : Cells w A n (fun i => .int .i64 (f i))) :
    Calls Try.prog 47 #[.agg #[.int .i64 s, .slice A n c], .int .i64 cl] w fun e w' => ZoneRes w w' e (resetOk s n f cl) (ifI (resetOk s n f cl) s) (ifN (resetOk s n f cl) n) (resetG s cl.toNat f) := by
  have HA := Lib.hid hA
  have HT := Lib.hid (fun W h => specTightZone_any s A n c f W hn h)
  have Z0 := Lib.hid (show BoxF2 _ (w.heap.size + 1) _ _ from by simpa using (BoxF2.new (w.alloc (.cells #[.int .i64 s, .slice A n c] 41)) 41 (.int .i64 0) (.slice none 0 0)))
  have X0 := Lib.hid ((Box2.new w 41 (.int .i64 s) (.slice A n c)).alloc (.cells #[.int .i64 0, .slice none 0 0] 41))
  obtain ⟨x0, x1⟩ := X0.out
  clear hA
  cases hv : tightOk s n f
  · rw [hv] at HT
    rw [resetOk_no2 hv]
    clear hv
    go_enter Try.func47, Try.ntmps47
    go_wp2_with fail
    refine (HT.out _ (HA.out.below (by repeat (first | with_reducible exact Below.refl _ _ | exact Hid.out (by with_reducible assumption) | refine Below.setCell ?_ (by simp <;> omega) _ | refine below_alloc ?_ _ | refine Below.alloc ?_ (by simp <;> omega) _ | refine Below.drew ?_ | refine below_drewN ?_ _ | exact Below.refl _ _)))).mono ?_
    rintro e w3 ⟨T, c1, g1, rfl, hg1, -, ho, hb⟩
    have N3 := Lib.hid (show Below w.heap.size w w3 from Below.trans (by repeat (first | with_reducible exact Below.refl _ _ | exact Hid.out (by with_reducible assumption) | refine Below.setCell ?_ (by simp <;> omega) _ | refine below_alloc ?_ _ | refine Below.alloc ?_ (by simp <;> omega) _ | refine Below.drew ?_ | refine below_drewN ?_ _ | exact Below.refl _ _)) (hb.mono (by simp <;> omega)))
    have Z4 := Lib.hid (Z0.out.below hb)
    have hz := (Z0.out.below hb).lt
    clear hb ho
    obtain ⟨k0, k1⟩ := Z4.out.box
    have hfz := Z4.out.fz
    have ZF := Lib.hid (((Z4.out.set0 (u := .int .i64 0)).set1 (u := .slice none 0 0)).alloc (.cells #[.int .i64 (ifI false s), .slice T (ifN false n) c1] 41))
    obtain ⟨q0, q1⟩ := ZF.out.box
    go_wp2_with fail
    refine bodyPost_ret (v := .tuple #[.agg #[.int .i64 0, .slice none 0 0], .bool false]) ?r1 rfl ?r2
    case r1 => simp [results, Try.results47, go_sem, q0, q1]
    case r2 => exact ZoneRes.none_ rfl (by repeat (first | with_reducible exact Below.refl _ _ | exact Hid.out (by with_reducible assumption) | refine Below.setCell ?_ (by simp <;> omega) _ | refine below_alloc ?_ _ | refine Below.alloc ?_ (by simp <;> omega) _ | refine Below.drew ?_ | refine below_drewN ?_ _ | exact Below.refl _ _))
  have hvt := hv
  obtain ⟨m, rfl, hm1, hm, hq⟩ := tightOk_nat hv
  rw [hv] at HT
  have HT2 := Lib.hid (fun W h => show Calls Try.prog 37 #[.agg #[.int .i64 (m : Int), .slice A n c]] W (fun e w' => ZoneRes W w' e true (m : Int) n (tightG (m : Int) f)) from HT.out W h)
  clear HT
  cases hb : inB cl 1 (m : Int)
  · have H0 := Lib.hid (l00In_is hb)
    rw [resetOk_no hb]
    clear hv hvt hq hb
    generalize tightG (m : Int) f = tg at *
    generalize (m : Int) = mi at *
    go_enter Try.func47, Try.ntmps47
    go_wp2_with fail
    refine (HT2.out _ (HA.out.below (by repeat (first | with_reducible exact Below.refl _ _ | exact Hid.out (by with_reducible assumption) | refine Below.setCell ?_ (by simp <;> omega) _ | refine below_alloc ?_ _ | refine Below.alloc ?_ (by simp <;> omega) _ | refine Below.drew ?_ | refine below_drewN ?_ _ | exact Below.refl _ _)))).mono ?_
    rintro e w3 ⟨T, c1, g1, rfl, hg1, -, ho, hb⟩
    have N3 := Lib.hid (show Below w.heap.size w w3 from Below.trans (by repeat (first | with_reducible exact Below.refl _ _ | exact Hid.out (by with_reducible assumption) | refine Below.setCell ?_ (by simp <;> omega) _ | refine below_alloc ?_ _ | refine Below.alloc ?_ (by simp <;> omega) _ | refine Below.drew ?_ | refine below_drewN ?_ _ | exact Below.refl _ _)) (hb.mono (by simp <;> omega)))
    have Z4 := Lib.hid ((Z0.out.below hb).alloc (.cells #[.int .i64 mi, .slice T n c1] 41))
    have X4 := Lib.hid ((X0.out.below hb).alloc (.cells #[.int .i64 mi, .slice T n c1] 41))
    have hz := (Z0.out.below hb).lt
    have Z5 := Lib.hid (Z0.out.below hb)
    clear hb ho x0 x1
    obtain ⟨x0, x1⟩ := X4.out
    obtain ⟨k0, k1⟩ := Z5.out.box
    have hfz := Z5.out.fz
    have ZF := Lib.hid (((Z5.out.set0 (u := .int .i64 0)).set1 (u := .slice none 0 0)).alloc (.cells #[.int .i64 mi, .slice T n c1] 41))
    obtain ⟨q0, q1⟩ := ZF.out.box
    go_wp2_with fail
    refine (H0.out _).mono ?_
    rintro e w' ⟨rfl, hw'⟩
    obtain rfl := hw'.symm
    clear hw'
    go_wp2_with fail
    refine bodyPost_ret (v := .tuple #[.agg #[.int .i64 0, .slice none 0 0], .bool false]) ?r1 rfl ?r2
    case r1 => simp [results, Try.results47, go_sem, q0, q1]
    case r2 => exact ZoneRes.none_ rfl (by repeat (first | with_reducible exact Below.refl _ _ | exact Hid.out (by with_reducible assumption) | refine Below.setCell ?_ (by simp <;> omega) _ | refine below_alloc ?_ _ | refine Below.alloc ?_ (by simp <;> omega) _ | refine Below.drew ?_ | refine below_drewN ?_ _ | exact Below.refl _ _))
  have H0 := Lib.hid (l00In_is hb)
  have hb2 := inB_iff.1 hb
  have hok : resetOk (m : Int) n f cl = true := by unfold resetOk; rw [hvt, hb]; rfl
  rw [hok]
  obtain ⟨k, rfl⟩ : ∃ k : Nat, cl = (k : Int) := ⟨cl.toNat, by omega⟩
  have hk1 : 1 ≤ k := by omega
  have hk2 : k ≤ m := by omega
  have hmt : ((m : Int) + 1).toNat = m + 1 := by omega
  have hLF : resetG (m : Int) (k : Int).toNat f = resetF (m + 1) k (tightG (m : Int) f) (m + 1) := by unfold resetG; rw [hmt, Int.toNat_natCast]
  rw [hLF]
  have hTO : okZ (m + 1) ((m + 1) * (m + 1)) (tightG (m : Int) f) = true := by
    have h := hvt
    unfold tightOk at h
    rw [Bool.and_eq_true] at h
    have h2 := h.2
    rw [validZ_nat m n _ hm1 hm] at h2
    rw [hq] at h2
    unfold tightG
    exact h2
  have HRV := Lib.hid (resetF_valid hTO (show k < m + 1 by omega) (by omega))
  have HVV := Lib.hid (fun P2 T c2 W h1 h2 => l07Zone_any P2 (m : Int) T n c2 (resetF (m + 1) k (tightG (m : Int) f) (m + 1)) W hn h1 h2)
  have hvz : validZ (m : Int) n (resetF (m + 1) k (tightG (m : Int) f) (m + 1)) = true := by rw [validZ_nat m n _ hm1 hm, hq]; exact HRV.out.1
  rw [hvz] at HVV
  have e1 : ifI true (m : Int) = (m : Int) := rfl
  have e2 : ifN true n = n := rfl
  rw [e1, e2]
  have hn0 : 0 < n := by rw [hq]; exact Nat.mul_pos (by omega) (by omega)
  have hw1 : IntKind.i64.wrap ((m : Int) + 1) = ((m + 1 : Nat) : Int) := by rw [IntKind.wrap_i64]; omega
  have HM1 := Lib.hid (show ∀ j : Nat, j < m + 1 → (j : Int) < ((m + 1 : Nat) : Int) from fun k h => by omega)
  have HM2 := Lib.hid (show ∀ j : Nat, ¬ j < m + 1 → ¬ (j : Int) < ((m + 1 : Nat) : Int) from fun k h => by omega)
  have HI := Lib.hid (show ∀ i : Nat, i < m + 1 → ∃ q : Int, IntKind.i64.wrap ((i : Int) * ((m + 1 : Nat) : Int)) = q ∧ q = ((i * (m + 1) + 0 : Nat) : Int) ∧ ∀ j : Nat, j < m + 1 → IntKind.i64.wrap (q + (j : Int)) = ((i * (m + 1) + j : Nat) : Int) ∧ i * (m + 1) + j < n from fun i hi => by
    refine ⟨_, (idx_wrap (m := m) (i := i) (k := 0) hm (by omega) (by omega)).2.1, rfl, fun j hj => ?_⟩
    obtain ⟨-, -, e3, e4, -⟩ := idx_wrap (m := m) (i := i) (k := j) hm (by omega) (by omega)
    exact ⟨e3, by rw [hq]; exact e4⟩)
  have HRS := Lib.hid (fun j => rowR_step (m + 1) k j (resetF (m + 1) k (tightG (m : Int) f) j))
  have HCS := Lib.hid (fun j => show _ = fun p => Value.int .i64 (resetF (m + 1) k (tightG (m : Int) f) (j + 1) p) from colR_step (m + 1) k j (rowR (m + 1) k j (resetF (m + 1) k (tightG (m : Int) f) j)))
  have HF0 := Lib.hid (show resetF (m + 1) k (tightG (m : Int) f) 0 = tightG (m : Int) f from rfl)
  have HZR := Lib.hid HRV.out.2
  have hkm : k < m + 1 := by omega
  clear hq hv hvt hb hb2 hok hLF hmt hTO HRV hvz e1 e2
  generalize resetF (m + 1) k (tightG (m : Int) f) = FF at *
  generalize tightG (m : Int) f = tg at *
  generalize hsm : ((m + 1 : Nat) : Int) = sm at *
  generalize hmi : (m : Int) = mi at *
  clear hsm hmi
  go_enter Try.func47, Try.ntmps47
  go_wp2_with fail
  refine (HT2.out _ (HA.out.below (by repeat (first | with_reducible exact Below.refl _ _ | exact Hid.out (by with_reducible assumption) | refine Below.setCell ?_ (by simp <;> omega) _ | refine below_alloc ?_ _ | refine Below.alloc ?_ (by simp <;> omega) _ | refine Below.drew ?_ | refine below_drewN ?_ _ | exact Below.refl _ _)))).mono ?_
  rintro e w3 ⟨T, c1, g1, rfl, hg1, -, ho, hb⟩
  have N3 := Lib.hid (show Below w.heap.size w w3 from Below.trans (by repeat (first | with_reducible exact Below.refl _ _ | exact Hid.out (by with_reducible assumption) | refine Below.setCell ?_ (by simp <;> omega) _ | refine below_alloc ?_ _ | refine Below.alloc ?_ (by simp <;> omega) _ | refine Below.drew ?_ | refine below_drewN ?_ _ | exact Below.refl _ _)) (hb.mono (by simp <;> omega)))
  have Z3 := Lib.hid ((Z0.out.below hb).alloc (.cells #[.int .i64 mi, .slice T n c1] 41))
  have X3 := Lib.hid ((X0.out.below hb).alloc (.cells #[.int .i64 mi, .slice T n c1] 41))
  have hz : w.heap.size + 1 < w3.heap.size := (Z0.out.below hb).lt
  have hg2 : w.heap.size + 2 ≤ g1 := by simp at hg1; omega
  have hg3 : g1 < w3.heap.size := ho.lt hn0
  have Y3 := Lib.hid (Box2.new w3 41 (.int .i64 mi) (.slice T n c1))
  have O3 := Lib.hid (show OwnC _ g1 T n (fun p => .int .i64 (FF 0 p)) by rw [HF0.out]; exact ho.below ((Below.refl _ _).alloc (Nat.le_refl _) (.cells #[.int .i64 mi, .slice T n c1] 41)))
  obtain ⟨y, hTy, hyg, -, -⟩ := ho 0 hn0
  subst hTy
  clear hb ho hg1 x0 x1
  have HBK := Lib.hid (show ∀ j, (y.add j).block = g1 from fun j => by rw [block_add, hyg])
  obtain ⟨x0, x1⟩ := X3.out
  obtain ⟨y0, y1⟩ := Y3.out
  go_wp2_with fail
  refine (H0.out _).mono ?_
  rintro e w' ⟨rfl, hw'⟩
  obtain rfl := hw'.symm
  clear hw'
  go_wp2_with fail
  go_loopw [9] (fun v wr => ∃ q : Nat, q ≤ m + 1 ∧ v = .int .i64 (q : Int) ∧ Hid (Below w.heap.size w wr) ∧ Hid (BoxF2 wr (w.heap.size + 1) (.int .i64 0) (.slice none 0 0)) ∧ Hid (Box2 wr w3.heap.size (.int .i64 mi) (.slice (some y) n c1)) ∧ Hid (OwnC wr g1 (some y) n (fun p => .int .i64 (FF q p)))) (fun v _ => (m + 1) - (intOf v).toNat)
  case atStart => exact ⟨0, Nat.zero_le _, rfl, (by repeat (first | with_reducible exact Below.refl _ _ | exact Hid.out (by with_reducible assumption) | refine Below.setCell ?_ (by simp <;> omega) _ | refine below_alloc ?_ _ | refine Below.alloc ?_ (by simp <;> omega) _ | refine Below.drew ?_ | refine below_drewN ?_ _ | exact Below.refl _ _)), Z3, Y3, O3⟩
  case round =>
    obtain ⟨q, hq, rfl, HB0, CZ, CY, HP⟩ := hrel
    clear y0 y1 x0 x1
    obtain ⟨y0, y1⟩ := CY.out
    by_cases hqt : q < m + 1
    rotate_left
    · have d1 := HM2.out q hqt
      obtain rfl : q = m + 1 := by omega
      obtain ⟨qk, ek, -, hqk⟩ := HI.out k hkm
      obtain ⟨ekk, hpkk⟩ := hqk k hkm
      obtain ⟨x, hx, -, f3, c3⟩ := HP.out _ hpkk
      cases hx
      have HSET := Lib.hid (OwnC.set HP.out rfl hpkk (.int .i64 0))
      have HEQ := Lib.hid (show (fun p => if p = k * (m + 1) + k then Value.int .i64 0 else .int .i64 (FF (m + 1) p)) = fun p => .int .i64 (FF (m + 1) p) by
        funext p
        split
        · rename_i e; rw [e, HZR.out]
        · rfl)
      rw [HEQ.out] at HSET
      have d2 : ((k * (m + 1) + k : Nat) : Int) < n := by omega
      have nc := HBK.out (k * (m + 1) + k)
      generalize k * (m + 1) + k = pos at *
      have CY2 := Lib.hid (CY.out.within (Within.setCell _ (p := y.add pos) (lo := g1) (hi := g1 + 1) (by rw [nc]; exact Nat.le_refl _) (by rw [nc]; omega) (.int .i64 0)) (by omega))
      have CZ2 := Lib.hid (CZ.out.keep (Below.heap_setCell _ (y.add pos) (.int .i64 0) _ (fun e => by omega)))
      have HB2 := Lib.hid (HB0.out.setCell (p := y.add pos) (by omega) (.int .i64 0))
      have HC2 := Lib.hid HSET.out.cells
      obtain ⟨k0, k1⟩ := CZ2.out.box
      have hfz := CZ2.out.fz
      obtain ⟨y2, y3⟩ := CY2.out
      clear hqk HI HM1 HM2 HRS HCS
      go_wp2_with fail
      refine (HVV.out _ _ _ _ HC2.out CY2.out).mono ?_
      rintro e w5 ⟨rfl, hb⟩
      subst hb
      go_wp2_with fail
      refine bodyPost_ret (v := .tuple #[.agg #[.int .i64 mi, .slice (some y) n c1], .bool true]) ?r1 rfl ?r2
      case r1 => simp [results, Try.results47, go_sem, k0, k1]
      case r2 => exact ⟨some y, c1, g1, rfl, by omega, trivial, own_setP' (own_setP' HSET.out (fun _ => by omega)) (fun _ => by omega), (by repeat (first | with_reducible exact Below.refl _ _ | exact Hid.out (by with_reducible assumption) | refine Below.setCell ?_ (by simp <;> omega) _ | refine below_alloc ?_ _ | refine Below.alloc ?_ (by simp <;> omega) _ | refine Below.drew ?_ | refine below_drewN ?_ _ | exact Below.refl _ _))⟩
    have d1 := HM1.out q hqt
    obtain ⟨qk, ek, -, hqk⟩ := HI.out k hkm
    obtain ⟨ekq, hpkq⟩ := hqk q hqt
    obtain ⟨qq, eqq, rfl, hqq⟩ := HI.out q hqt
    obtain ⟨eqk, hpqk⟩ := hqq k hkm
    have hpq0 := (hqq 0 (by omega)).2
    obtain ⟨q0, -, -, hq0⟩ := HI.out 0 (by omega)
    have hp0q := (hq0 q hqt).2
    obtain ⟨x, hx, -, f1, c1'⟩ := HP.out _ hpkq
    cases hx
    obtain ⟨x, hx, -, -, c2'⟩ := HP.out _ hp0q
    cases hx
    have HSET1 := Lib.hid (OwnC.set HP.out rfl hpkq (.int .i64 (FF q (0 * (m + 1) + q))))
    rw [(HRS.out q)] at HSET1
    have HCq := Lib.hid (HCS.out q)
    have d2 : ((k * (m + 1) + q : Nat) : Int) < n := by omega
    have d3 : ((q * (m + 1) + k : Nat) : Int) < n := by omega
    have d4 : ((0 * (m + 1) + q : Nat) : Int) < n := by omega
    have d5 : ((q * (m + 1) + 0 : Nat) : Int) < n := by omega
    clear hqk hqq hq0 HI HM1 HM2 HRS HCS HVV HZR
    rw [Nat.zero_mul, Nat.zero_add] at c2' d4 HSET1
    generalize hv1 : FF q q = v1 at *
    have nc1 := HBK.out (k * (m + 1) + q)
    have nc2 := HBK.out (q * (m + 1) + k)
    obtain ⟨wx, hwx⟩ : ∃ U : World, U = wr.setCell (y.add (k * (m + 1) + q)) (.int .i64 v1) := ⟨_, rfl⟩
    rw [← hwx] at HSET1
    obtain ⟨x, hx, -, f2, c3'⟩ := HSET1.out _ hpqk
    cases hx
    obtain ⟨x, hx, -, -, c4'⟩ := HSET1.out _ hpq0
    cases hx
    dsimp only at c3' c4'
    have HSET2 := Lib.hid (OwnC.set HSET1.out rfl hpqk (.int .i64 (rowR (m + 1) k q (FF q) (q * (m + 1) + 0))))
    rw [HCq.out] at HSET2
    generalize rowR (m + 1) k q (FF q) (q * (m + 1) + 0) = v2 at *
    generalize rowR (m + 1) k q (FF q) (q * (m + 1) + k) = v3 at *
    generalize FF q (k * (m + 1) + q) = v4 at *
    generalize q * (m + 1) + k = pos2 at *
    generalize q * (m + 1) + 0 = pos0 at *
    generalize k * (m + 1) + q = pos1 at *
    have W1 := Lib.hid (show Within g1 (g1 + 1) wr wx by rw [hwx]; exact Within.setCell _ (by rw [nc1]; exact Nat.le_refl _) (by rw [nc1]; omega) _)
    have CY1 := Lib.hid (CY.out.within W1.out (by omega))
    have CZ1 := Lib.hid (CZ.out.keep (W1.out.block _ CZ.out.lt (by omega)))
    have HBx := Lib.hid (HB0.out.trans (Within.below W1.out (by omega) HB0.out.size))
    obtain ⟨z0, z1⟩ := CY1.out
    go_wp2_with fail
    go_region_law (fail)
    all_goals (
      rw [← hwx]
      clear hwx y0 y1 c1' c2' f1
      go_wp2_with fail
      go_region_law (fail)
      all_goals (
        go_wp2_with fail
        have W2 := Lib.hid (show Within g1 (g1 + 1) wx (wx.setCell (y.add pos2) (.int .i64 v2)) from Within.setCell _ (by rw [nc2]; exact Nat.le_refl _) (by rw [nc2]; omega) _)
        have CY2 := Lib.hid (CY1.out.within W2.out (by omega))
        have CZ2 := Lib.hid (CZ1.out.keep (W2.out.block _ CZ1.out.lt (by omega)))
        have HB2 := Lib.hid (HBx.out.trans (Within.below W2.out (by omega) HBx.out.size))
        first
          | exact ⟨⟨q + 1, by omega, by simp, HB2, CZ2, CY2, HSET2⟩, by simp [intOf]; omega⟩
          | exact ⟨⟨q + 1, by omega, by simp, (by repeat (first | with_reducible exact Below.refl _ _ | exact Hid.out (by with_reducible assumption) | refine Below.setCell ?_ (by simp <;> omega) _ | refine below_alloc ?_ _ | refine Below.alloc ?_ (by simp <;> omega) _ | refine Below.drew ?_ | refine below_drewN ?_ _ | exact Below.refl _ _)), CZ2.out.below (by repeat (first | exact Below.refl _ _ | refine Below.drew ?_)), CY2.out.below (by repeat (first | exact Below.refl _ _ | refine Below.drew ?_)), OwnC.below HSET2.out (by repeat (first | exact Below.refl _ _ | refine Below.drew ?_))⟩, by simp [intOf]; omega⟩))
end Go.Proofs.Ytpelmfanchkpeaa
