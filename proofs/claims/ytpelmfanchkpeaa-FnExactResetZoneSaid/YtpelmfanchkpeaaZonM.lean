/- The zone of all later times, on both sides. -/
import Derived.Test.YtpelmfanchkpeaaZonL
set_option linter.unusedVariables false
set_option linter.unusedSimpArgs false
namespace Go.Proofs.Ytpelmfanchkpeaa
open Go.RowKit
theorem tightOk_nat {s : Int} {n : Nat} {f : Nat → Int} (h : tightOk s n f = true) : ∃ m : Nat, s = (m : Int) ∧ 1 ≤ m ∧ m ≤ 4 ∧ n = (m + 1) * (m + 1) := by
  have hv := tightOk_valid h
  have hn := validZ_n hv
  unfold validZ at hv
  rw [Bool.and_eq_true] at hv
  have := inB_iff.1 hv.1
  refine ⟨s.toNat, by omega, by omega, by omega, ?_⟩
  rw [hn]
  congr 1 <;> omega
set_option maxRecDepth 20000 in
set_option maxHeartbeats 4000000 in
theorem implLaterZone_any (s : Int) (A : Option Addr) (n c : Nat) (f : Nat → Int) (w : World) (hn : n ≤ 1048576) (hA : Cells w A n (fun i => .int .i64 (f i))) :
    Calls Try.prog 46 #[.agg #[.int .i64 s, .slice A n c]] w fun e w' => ZoneRes w w' e (tightOk s n f) (ifI (tightOk s n f) s) (ifN (tightOk s n f) n) (laterF s f) := by
  have HA := Lib.hid hA
  have Z0 := Lib.hid (show BoxF2 _ (w.heap.size + 1) _ _ from by simpa using (BoxF2.new (w.alloc (.cells #[.int .i64 s, .slice A n c] 41)) 41 (.int .i64 0) (.slice none 0 0)))
  have X0 := Lib.hid ((Box2.new w 41 (.int .i64 s) (.slice A n c)).alloc (.cells #[.int .i64 0, .slice none 0 0] 41))
  obtain ⟨x0, x1⟩ := X0.out
  clear hA
  cases hv : tightOk s n f
  · have HT := Lib.hid (fun (FN : Nat) k W h => tightThen_no FN s A n c f 1 k W hn h hv)
    clear hv
    go_enter Try.func46, Try.ntmps46
    go_wp2_with fail
    refine (HT.out 73 s _ (HA.out.below (by repeat (first | with_reducible exact Below.refl _ _ | exact Hid.out (by with_reducible assumption) | refine Below.setCell ?_ (by simp <;> omega) _ | refine below_alloc ?_ _ | refine Below.alloc ?_ (by simp <;> omega) _ | refine Below.drew ?_ | refine below_drewN ?_ _ | exact Below.refl _ _)))).mono ?_
    rintro e w2 hr
    obtain ⟨A2, c2, g2, rfl, hg2, -, ho2, hb⟩ := hr 0 0 (fun _ => 0)
    have N2 := Lib.hid (show Below w.heap.size w w2 from Below.trans (by repeat (first | with_reducible exact Below.refl _ _ | exact Hid.out (by with_reducible assumption) | refine Below.setCell ?_ (by simp <;> omega) _ | refine below_alloc ?_ _ | refine Below.alloc ?_ (by simp <;> omega) _ | refine Below.drew ?_ | refine below_drewN ?_ _ | exact Below.refl _ _)) (hb.mono (by simp <;> omega)))
    have Z2 := Lib.hid (Z0.out.below hb)
    clear hb ho2 hr
    obtain ⟨k0, k1⟩ := Z2.out.box
    have hfz := Z2.out.fz
    go_wp2_with fail
    refine bodyPost_ret (v := .tuple #[.agg #[.int .i64 (ifI false 0), .slice A2 (ifN false 0) c2], .bool false]) ?r1 rfl ?r2
    case r1 => simp [results, Try.results46, go_sem, k0, k1]
    case r2 => exact ⟨A2, c2, w.heap.size, rfl, Nat.le_refl _, trivial, OwnC.zero, (by repeat (first | with_reducible exact Below.refl _ _ | exact Hid.out (by with_reducible assumption) | refine Below.setCell ?_ (by simp <;> omega) _ | refine below_alloc ?_ _ | refine Below.alloc ?_ (by simp <;> omega) _ | refine Below.drew ?_ | refine below_drewN ?_ _ | exact Below.refl _ _))⟩
  have hv2 := hv
  obtain ⟨m, rfl, hm1, hm, hq⟩ := tightOk_nat hv
  have hmt : ((m : Int) + 1).toNat = m + 1 := by omega
  have hLF : laterF (m : Int) f = freeF (m + 1) (tightG (m : Int) f) m := by unfold laterF; rw [hmt, Int.toNat_natCast]
  rw [hLF]
  have HT := Lib.hid (fun W h => tightThen_letGo (m : Int) A n c f 1 m (m : Int) (freeF (m + 1) (tightG (m : Int) f)) W hn (by rw [hq]; exact Nat.mul_pos (by omega) (by omega)) h hv (by omega) (by omega) rfl
    (fun q W T g1 c1 hqm ho => (letGo_any m T n c1 g1 (1 + q) (freeF (m + 1) (tightG (m : Int) f) q) 0 W hm (by omega) hq ho).mono fun e w' ⟨h1, h2, h3⟩ => ⟨h1, by rw [Nat.add_comm 1 q, freeF_step] at h2; exact h2, h3⟩))
  have e1 : ifI true (m : Int) = (m : Int) := rfl
  have e2 : ifN true n = n := rfl
  rw [e1, e2]
  clear hv hv2 e1 e2 hLF hmt hq
  rw [show ((1 : Nat) : Int) = 1 from rfl] at HT
  generalize freeF (m + 1) (tightG (m : Int) f) m = lf at *
  generalize (m : Int) = mi at *
  go_enter Try.func46, Try.ntmps46
  go_wp2_with fail
  refine (HT.out _ (HA.out.below (by repeat (first | with_reducible exact Below.refl _ _ | exact Hid.out (by with_reducible assumption) | refine Below.setCell ?_ (by simp <;> omega) _ | refine below_alloc ?_ _ | refine Below.alloc ?_ (by simp <;> omega) _ | refine Below.drew ?_ | refine below_drewN ?_ _ | exact Below.refl _ _)))).mono ?_
  rintro e w2 ⟨A2, c2, g2, rfl, hg2, -, ho2, hb⟩
  have N2 := Lib.hid (show Below w.heap.size w w2 from Below.trans (by repeat (first | with_reducible exact Below.refl _ _ | exact Hid.out (by with_reducible assumption) | refine Below.setCell ?_ (by simp <;> omega) _ | refine below_alloc ?_ _ | refine Below.alloc ?_ (by simp <;> omega) _ | refine Below.drew ?_ | refine below_drewN ?_ _ | exact Below.refl _ _)) (hb.mono (by simp <;> omega)))
  have Z2 := Lib.hid (Z0.out.below hb)
  have O2 := Lib.hid ho2
  have hg3 : w.heap.size + 2 ≤ g2 := by simp at hg2; omega
  clear hb ho2 hg2
  obtain ⟨k0, k1⟩ := Z2.out.box
  have hfz := Z2.out.fz
  go_wp2_with fail
  refine bodyPost_ret (v := .tuple #[.agg #[.int .i64 mi, .slice A2 n c2], .bool true]) ?r1 rfl ?r2
  case r1 => simp [results, Try.results46, go_sem, k0, k1]
  case r2 => exact ⟨A2, c2, g2, rfl, by omega, trivial, own_setP' (own_setP' O2.out (fun _ => by omega)) (fun _ => by omega), (by repeat (first | with_reducible exact Below.refl _ _ | exact Hid.out (by with_reducible assumption) | refine Below.setCell ?_ (by simp <;> omega) _ | refine below_alloc ?_ _ | refine Below.alloc ?_ (by simp <;> omega) _ | refine Below.drew ?_ | refine below_drewN ?_ _ | exact Below.refl _ _))⟩
set_option maxRecDepth 20000 in
set_option maxHeartbeats 4000000 in
theorem specLaterZone_any (s : Int) (A : Option Addr) (n c : Nat) (f : Nat → Int) (w : World) (hn : n ≤ 1048576) (hA : Cells w A n (fun i => .int .i64 (f i))) :
    Calls Try.prog 45 #[.agg #[.int .i64 s, .slice A n c]] w fun e w' => ZoneRes w w' e (tightOk s n f) (ifI (tightOk s n f) s) (ifN (tightOk s n f) n) (laterF s f) := by
  have HA := Lib.hid hA
  have HT := Lib.hid (fun W h => specTightZone_any s A n c f W hn h)
  have Z0 := Lib.hid (show BoxF2 _ (w.heap.size + 1) _ _ from by simpa using (BoxF2.new (w.alloc (.cells #[.int .i64 s, .slice A n c] 41)) 41 (.int .i64 0) (.slice none 0 0)))
  clear hA
  cases hv : tightOk s n f
  · rw [hv] at HT
    clear hv
    go_enter Try.func45, Try.ntmps45
    go_wp2_with fail
    refine (HT.out _ (HA.out.below (by repeat (first | with_reducible exact Below.refl _ _ | exact Hid.out (by with_reducible assumption) | refine Below.setCell ?_ (by simp <;> omega) _ | refine below_alloc ?_ _ | refine Below.alloc ?_ (by simp <;> omega) _ | refine Below.drew ?_ | refine below_drewN ?_ _ | exact Below.refl _ _)))).mono ?_
    rintro e w3 ⟨T, c1, g1, rfl, hg1, -, ho, hb⟩
    have N3 := Lib.hid (show Below w.heap.size w w3 from Below.trans (by repeat (first | with_reducible exact Below.refl _ _ | exact Hid.out (by with_reducible assumption) | refine Below.setCell ?_ (by simp <;> omega) _ | refine below_alloc ?_ _ | refine Below.alloc ?_ (by simp <;> omega) _ | refine Below.drew ?_ | refine below_drewN ?_ _ | exact Below.refl _ _)) (hb.mono (by simp <;> omega)))
    have Z4 := Lib.hid (Z0.out.below hb)
    have hz := (Z0.out.below hb).lt
    clear hb ho
    obtain ⟨k0, k1⟩ := Z4.out.box
    have hfz := Z4.out.fz
    go_wp2_with fail
    have ZF := Lib.hid ((((Z4.out).set0 (u := .int .i64 0)).set1 (u := .slice none 0 0)).alloc (.cells #[.int .i64 (ifI false s), .slice T (ifN false n) c1] 41))
    obtain ⟨q0, q1⟩ := ZF.out.box
    refine bodyPost_ret (v := .tuple #[.agg #[.int .i64 0, .slice none 0 0], .bool false]) ?r1 rfl ?r2
    case r1 => simp [results, Try.results45, go_sem, q0, q1]
    case r2 => exact ZoneRes.none_ rfl (by repeat (first | with_reducible exact Below.refl _ _ | exact Hid.out (by with_reducible assumption) | refine Below.setCell ?_ (by simp <;> omega) _ | refine below_alloc ?_ _ | refine Below.alloc ?_ (by simp <;> omega) _ | refine Below.drew ?_ | refine below_drewN ?_ _ | exact Below.refl _ _))
  obtain ⟨m, rfl, hm1, hm, hq⟩ := tightOk_nat hv
  have hmt : ((m : Int) + 1).toNat = m + 1 := by omega
  have hLF : laterF (m : Int) f = freeF (m + 1) (tightG (m : Int) f) m := by unfold laterF; rw [hmt, Int.toNat_natCast]
  rw [hLF]
  rw [hv] at HT
  have HT2 := Lib.hid (fun W h => show Calls Try.prog 37 #[.agg #[.int .i64 (m : Int), .slice A n c]] W (fun e w' => ZoneRes W w' e true (m : Int) n (tightG (m : Int) f)) from HT.out W h)
  have e1 : ifI true (m : Int) = (m : Int) := rfl
  have e2 : ifN true n = n := rfl
  rw [e1, e2]
  clear hv hLF hmt HT e1 e2
  have hn0 : 0 < n := by rw [hq]; exact Nat.mul_pos (by omega) (by omega)
  have hw1 : IntKind.i64.wrap ((m : Int) + 1) = ((m + 1 : Nat) : Int) := by rw [IntKind.wrap_i64]; omega
  have HM1 := Lib.hid (show ∀ k : Nat, k < m → ((k + 1 : Nat) : Int) < ((m + 1 : Nat) : Int) from fun k h => by omega)
  have HM2 := Lib.hid (show ∀ k : Nat, ¬ k < m → ¬ ((k + 1 : Nat) : Int) < ((m + 1 : Nat) : Int) from fun k h => by omega)
  have HI := Lib.hid (show ∀ k : Nat, k < m → IntKind.i64.wrap (((k + 1 : Nat) : Int) * ((m + 1 : Nat) : Int)) = (((k + 1) * (m + 1) : Nat) : Int) ∧ (k + 1) * (m + 1) < n from fun k h => by
    obtain ⟨-, e2, -, e4, -⟩ := idx_wrap (m := m) (i := k + 1) (k := 0) hm (by omega) (by omega)
    exact ⟨e2, by rw [hq]; exact e4⟩)
  have HST := Lib.hid (fun k => freeF_step (m + 1) (tightG (m : Int) f) k)
  have HF0 := Lib.hid (show freeF (m + 1) (tightG (m : Int) f) 0 = tightG (m : Int) f from rfl)
  clear hq
  generalize freeF (m + 1) (tightG (m : Int) f) = FF at *
  generalize tightG (m : Int) f = tg at *
  generalize hsm : ((m + 1 : Nat) : Int) = sm at *
  generalize hmi : (m : Int) = mi at *
  clear hsm hmi
  go_enter Try.func45, Try.ntmps45
  go_wp2_with fail
  refine (HT2.out _ (HA.out.below (by repeat (first | with_reducible exact Below.refl _ _ | exact Hid.out (by with_reducible assumption) | refine Below.setCell ?_ (by simp <;> omega) _ | refine below_alloc ?_ _ | refine Below.alloc ?_ (by simp <;> omega) _ | refine Below.drew ?_ | refine below_drewN ?_ _ | exact Below.refl _ _)))).mono ?_
  rintro e w3 ⟨T, c1, g1, rfl, hg1, -, ho, hb⟩
  have N3 := Lib.hid (show Below w.heap.size w w3 from Below.trans (by repeat (first | with_reducible exact Below.refl _ _ | exact Hid.out (by with_reducible assumption) | refine Below.setCell ?_ (by simp <;> omega) _ | refine below_alloc ?_ _ | refine Below.alloc ?_ (by simp <;> omega) _ | refine Below.drew ?_ | refine below_drewN ?_ _ | exact Below.refl _ _)) (hb.mono (by simp <;> omega)))
  have Z3 := Lib.hid ((Z0.out.below hb).alloc (.cells #[.int .i64 mi, .slice T n c1] 41))
  have hz : w.heap.size + 1 < w3.heap.size := (Z0.out.below hb).lt
  have hg2 : w.heap.size + 2 ≤ g1 := by simp at hg1; omega
  have hg3 : g1 < w3.heap.size := ho.lt hn0
  have Y3 := Lib.hid (Box2.new w3 41 (.int .i64 mi) (.slice T n c1))
  have O3 := Lib.hid (show OwnC _ g1 T n (fun p => .int .i64 (FF 0 p)) by rw [HF0.out]; exact ho.below ((Below.refl _ _).alloc (Nat.le_refl _) (.cells #[.int .i64 mi, .slice T n c1] 41)))
  obtain ⟨y, hTy, hyg, -, -⟩ := ho 0 hn0
  subst hTy
  clear hb ho hg1
  obtain ⟨y0, y1⟩ := Y3.out
  go_wp2_with fail
  go_loopw [7] (fun v wr => ∃ q : Nat, q ≤ m ∧ v = .int .i64 ((q + 1 : Nat) : Int) ∧ Hid (Below w.heap.size w wr) ∧ Hid (BoxF2 wr (w.heap.size + 1) (.int .i64 0) (.slice none 0 0)) ∧ Hid (Box2 wr w3.heap.size (.int .i64 mi) (.slice (some y) n c1)) ∧ Hid (OwnC wr g1 (some y) n (fun p => .int .i64 (FF q p)))) (fun v _ => (m + 1) - (intOf v).toNat)
  case atStart => exact ⟨0, Nat.zero_le _, rfl, (by repeat (first | with_reducible exact Below.refl _ _ | exact Hid.out (by with_reducible assumption) | refine Below.setCell ?_ (by simp <;> omega) _ | refine below_alloc ?_ _ | refine Below.alloc ?_ (by simp <;> omega) _ | refine Below.drew ?_ | refine below_drewN ?_ _ | exact Below.refl _ _)), Z3, Y3, O3⟩
  case round =>
    obtain ⟨q, hq, rfl, HB0, CZ, CY, HP⟩ := hrel
    clear y0 y1
    obtain ⟨y0, y1⟩ := CY.out
    by_cases hqt : q < m
    · have d1 := HM1.out q hqt
      obtain ⟨e1, hpos⟩ := HI.out q hqt
      obtain ⟨x, hx, -, f3, c3⟩ := HP.out _ hpos
      cases hx
      have HSET := Lib.hid (OwnC.set HP.out rfl hpos (.int .i64 1000000000))
      have HSq := Lib.hid (HST.out q)
      rw [Nat.add_zero] at HSq
      rw [HSq.out] at HSET
      have hw2 : IntKind.i64.wrap (((q + 1 : Nat) : Int) + 1) = ((q + 1 + 1 : Nat) : Int) := by rw [IntKind.wrap_i64]; omega
      have d2 : (((q + 1) * (m + 1) : Nat) : Int) < n := by omega
      have hbk : ∀ j, (y.add j).block = g1 := fun j => by rw [block_add, hyg]
      have hbk1 := hbk ((q + 1) * (m + 1))
      generalize (q + 1) * (m + 1) = pos at *
      have hmeas : (m + 1) - (q + 1 + 1) < (m + 1) - (q + 1) := by omega
      have hit : (((q + 1 + 1 : Nat) : Int)).toNat = q + 1 + 1 := by omega
      have hit2 : (((q + 1 : Nat) : Int)).toNat = q + 1 := by omega
      generalize hz1 : ((q + 1 + 1 : Nat) : Int) = z1 at *
      generalize hz0 : ((q + 1 : Nat) : Int) = z0 at *
      clear HI HST HM1 HM2
      go_wp2_with fail
      exact ⟨⟨q + 1, by omega, by rw [hz1], HB0.out.setCell (by omega) _, CZ.out.keep (Below.heap_setCell _ _ _ _ (fun e => by omega)), CY.out.within (Within.setCell (lo := g1) (hi := g1 + 1) _ (by omega) (by omega) _) (by omega), HSET⟩, by simp only [intOf]; omega⟩
    · have d1 := HM2.out q hqt
      obtain rfl : q = m := by omega
      obtain ⟨k0, k1⟩ := CZ.out.box
      have hfz := CZ.out.fz
      generalize ((q + 1 : Nat) : Int) = z0 at *
      go_wp2_with fail
      refine bodyPost_ret (v := .tuple #[.agg #[.int .i64 mi, .slice (some y) n c1], .bool true]) ?r1 rfl ?r2
      case r1 => simp [results, Try.results45, go_sem, k0, k1]
      case r2 => exact ⟨some y, c1, g1, rfl, by omega, trivial, own_setP' (own_setP' HP.out (fun _ => by omega)) (fun _ => by omega), (by repeat (first | with_reducible exact Below.refl _ _ | exact Hid.out (by with_reducible assumption) | refine Below.setCell ?_ (by simp <;> omega) _ | refine below_alloc ?_ _ | refine Below.alloc ?_ (by simp <;> omega) _ | refine Below.drew ?_ | refine below_drewN ?_ _ | exact Below.refl _ _))⟩
end Go.Proofs.Ytpelmfanchkpeaa
