/- Whether a zone is a part of another, on both sides. -/
import Derived.Test.YtfpombhhnojjhaaZonT
import Derived.Test.YtfpombhhnojjhaaZonU
set_option linter.unusedVariables false
set_option linter.unusedSimpArgs false
namespace Go.Proofs.Ytfpombhhnojjhaa
open Go.RowKit
/-- Whether the question has an answer. -/
def partOk (s : Int) (n : Nat) (f : Nat → Int) (s2 : Int) (n2 : Nat) (f2 : Nat → Int) : Bool := tightOk s n f && (validZ s2 n2 f2 && decide (s = s2))
def partV (s : Int) (n : Nat) (f : Nat → Int) (s2 : Int) (n2 : Nat) (f2 : Nat → Int) : Bool := partOk s n f s2 n2 f2 && allP (fun i : Nat => decide (tightG s f i ≤ f2 i)) id n
theorem validZ_n {s : Int} {n : Nat} {f : Nat → Int} (h : validZ s n f = true) : n = (s + 1).toNat * (s + 1).toNat := by
  unfold validZ at h
  rw [Bool.and_eq_true] at h
  exact (okZ_iff.1 h.2).1
theorem tightOk_valid {s : Int} {n : Nat} {f : Nat → Int} (h : tightOk s n f = true) : validZ s n f = true := by
  unfold tightOk at h
  rw [Bool.and_eq_true] at h
  exact h.1
set_option maxRecDepth 20000 in
set_option maxHeartbeats 8000000 in
theorem implIsPartZone_any (s : Int) (A : Option Addr) (n c : Nat) (f : Nat → Int) (s2 : Int) (A2 : Option Addr) (n2 c2 : Nat) (f2 : Nat → Int) (w : World) (hn : n ≤ 1048576) (hA : Cells w A n (fun i => .int .i64 (f i))) (hn2 : n2 ≤ 1048576) (hA2 : Cells w A2 n2 (fun i => .int .i64 (f2 i))) :
    Calls Try.prog 65 #[.agg #[.int .i64 s, .slice A n c], .agg #[.int .i64 s2, .slice A2 n2 c2]] w fun e w' => e = .returned (.tuple #[.bool (partV s n f s2 n2 f2), .bool (partOk s n f s2 n2 f2)]) ∧ Below w.heap.size w w' := by
  have HA := Lib.hid hA
  have HA2 := Lib.hid hA2
  have HT := Lib.hid (fun W h => implTightZone_any s A n c f W hn h)
  have HVB := Lib.hid (fun W h => implValidZone_any s2 A2 n2 c2 f2 W hn2 h)
  have HU := Lib.hid (show partOk s n f s2 n2 f2 = (tightOk s n f && (validZ s2 n2 f2 && decide (s = s2))) from rfl)
  have HUV := Lib.hid (show partV s n f s2 n2 f2 = (partOk s n f s2 n2 f2 && allP (fun i : Nat => decide (tightG s f i ≤ f2 i)) id n) from rfl)
  have HNN := Lib.hid (show tightOk s n f = true → validZ s2 n2 f2 = true → s = s2 → n2 = n from fun a b e => by
    rw [validZ_n b, validZ_n (tightOk_valid a), e])
  have HYES := Lib.hid (show (∀ j, j < n → tightG s f j ≤ f2 j) → allP (fun i : Nat => decide (tightG s f i ≤ f2 i)) id n = true from fun h => allP_iff.2 fun i hi => decide_eq_true (h i hi))
  have HNO := Lib.hid (show ∀ k, k < n → f2 k < tightG s f k → allP (fun i : Nat => decide (tightG s f i ≤ f2 i)) id n = false from fun k hk h => allP_no hk (decide_eq_false (Int.not_le.2 h)))
  have XA := Lib.hid ((Box2.new w 36 (.int .i64 s) (.slice A n c)).alloc (.cells #[.int .i64 s2, .slice A2 n2 c2] 36))
  have XB := Lib.hid (show Box2 _ (w.heap.size + 1) _ _ from by simpa using (Box2.new (w.alloc (.cells #[.int .i64 s, .slice A n c] 36)) 36 (.int .i64 s2) (.slice A2 n2 c2)))
  obtain ⟨za0, za1⟩ := XA.out
  clear hA hA2
  generalize allP (fun i : Nat => decide (tightG s f i ≤ f2 i)) id n = al at *
  generalize partOk s n f s2 n2 f2 = r2 at *
  generalize partV s n f s2 n2 f2 = r1 at *
  generalize tightOk s n f = v at *
  cases v
  · obtain rfl : r2 = false := by rw [HU.out]; rfl
    obtain rfl : r1 = false := by rw [HUV.out]; rfl
    go_enter Try.func65, Try.ntmps65
    go_wp2_with fail
    refine (HT.out _ (HA.out.below (by repeat (first | with_reducible exact Below.refl _ _ | exact Hid.out (by with_reducible assumption) | refine Below.setCell ?_ (by simp <;> omega) _ | refine below_alloc ?_ _ | refine Below.alloc ?_ (by simp <;> omega) _ | refine Below.drew ?_ | refine below_drewN ?_ _ | exact Below.refl _ _)))).mono ?_
    rintro e w3 ⟨T, c1, g1, rfl, hg1, -, ho, hb⟩
    have N3 := Lib.hid (show Below w.heap.size w w3 from Below.trans (by repeat (first | with_reducible exact Below.refl _ _ | exact Hid.out (by with_reducible assumption) | refine Below.setCell ?_ (by simp <;> omega) _ | refine below_alloc ?_ _ | refine Below.alloc ?_ (by simp <;> omega) _ | refine Below.drew ?_ | refine below_drewN ?_ _ | exact Below.refl _ _)) (hb.mono (by simp <;> omega)))
    clear hb ho
    go_wp2_with fail
    refine bodyPost_ret (v := .tuple #[.bool false, .bool false]) (by simp [results, Try.results65, go_sem]) rfl ⟨rfl, (by repeat (first | with_reducible exact Below.refl _ _ | exact Hid.out (by with_reducible assumption) | refine Below.setCell ?_ (by simp <;> omega) _ | refine below_alloc ?_ _ | refine Below.alloc ?_ (by simp <;> omega) _ | refine Below.drew ?_ | refine below_drewN ?_ _ | exact Below.refl _ _))⟩
  have HT2 := Lib.hid (fun W h => show Calls Try.prog 60 #[.agg #[.int .i64 s, .slice A n c]] W (fun e w' => ZoneRes W w' e true s n (tightG s f)) from HT.out W h)
  clear HT
  have HT := HT2
  clear HT2
  generalize tightG s f = g at *
  cases hv2 : validZ s2 n2 f2
  · rw [hv2] at HVB HU
    obtain rfl : r2 = false := by rw [HU.out]; rfl
    obtain rfl : r1 = false := by rw [HUV.out]; rfl
    clear hv2
    go_enter Try.func65, Try.ntmps65
    go_wp2_with fail
    refine (HT.out _ (HA.out.below (by repeat (first | with_reducible exact Below.refl _ _ | exact Hid.out (by with_reducible assumption) | refine Below.setCell ?_ (by simp <;> omega) _ | refine below_alloc ?_ _ | refine Below.alloc ?_ (by simp <;> omega) _ | refine Below.drew ?_ | refine below_drewN ?_ _ | exact Below.refl _ _)))).mono ?_
    rintro e w3 ⟨T, c1, g1, rfl, hg1, -, ho, hb⟩
    have N3 := Lib.hid (show Below w.heap.size w w3 from Below.trans (by repeat (first | with_reducible exact Below.refl _ _ | exact Hid.out (by with_reducible assumption) | refine Below.setCell ?_ (by simp <;> omega) _ | refine below_alloc ?_ _ | refine Below.alloc ?_ (by simp <;> omega) _ | refine Below.drew ?_ | refine below_drewN ?_ _ | exact Below.refl _ _)) (hb.mono (by simp <;> omega)))
    have XA3 := Lib.hid ((XA.out.below hb).alloc (.cells #[.int .i64 s, .slice T n c1] 36))
    have XB3 := Lib.hid ((XB.out.below hb).alloc (.cells #[.int .i64 s, .slice T n c1] 36))
    have YT := Lib.hid (Box2.new w3 36 (.int .i64 s) (.slice T n c1))
    have CT := Lib.hid (ho.cells.below ((Below.refl _ _).alloc (Nat.le_refl _) (.cells #[.int .i64 s, .slice T n c1] 36)))
    obtain ⟨zb0, zb1⟩ := XB3.out
    clear hb ho
    go_wp2_with fail
    refine (HVB.out _ (HA2.out.below (by repeat (first | with_reducible exact Below.refl _ _ | exact Hid.out (by with_reducible assumption) | refine Below.setCell ?_ (by simp <;> omega) _ | refine below_alloc ?_ _ | refine Below.alloc ?_ (by simp <;> omega) _ | refine Below.drew ?_ | refine below_drewN ?_ _ | exact Below.refl _ _)))).mono ?_
    rintro e w5 ⟨rfl, hb5⟩
    have N5 := Lib.hid (show Below w.heap.size w w5 from Below.trans (by repeat (first | with_reducible exact Below.refl _ _ | exact Hid.out (by with_reducible assumption) | refine Below.setCell ?_ (by simp <;> omega) _ | refine below_alloc ?_ _ | refine Below.alloc ?_ (by simp <;> omega) _ | refine Below.drew ?_ | refine below_drewN ?_ _ | exact Below.refl _ _)) (hb5.mono (by have := N3.out.size; simp <;> omega)))
    have A5 := Lib.hid (XA3.out.below hb5)
    have B5 := Lib.hid (XB3.out.below hb5)
    have Y5 := Lib.hid (YT.out.below hb5)
    have C5 := Lib.hid (CT.out.below hb5)
    have K5 := Lib.hid (HA2.out.below N5.out)
    clear hb5
    obtain ⟨xa0, xa1⟩ := A5.out
    obtain ⟨xb0, xb1⟩ := B5.out
    obtain ⟨y0, y1⟩ := Y5.out
    go_wp2_with fail
    refine bodyPost_ret (v := .tuple #[.bool false, .bool false]) (by simp [results, Try.results65, go_sem]) rfl ⟨rfl, (by repeat (first | with_reducible exact Below.refl _ _ | exact Hid.out (by with_reducible assumption) | refine Below.setCell ?_ (by simp <;> omega) _ | refine below_alloc ?_ _ | refine Below.alloc ?_ (by simp <;> omega) _ | refine Below.drew ?_ | refine below_drewN ?_ _ | exact Below.refl _ _))⟩
  have HN2 := Lib.hid (HNN.out rfl hv2)
  rw [hv2] at HVB HU
  clear hv2 HNN
  by_cases hs : s = s2
  rotate_left
  · obtain rfl : r2 = false := by rw [HU.out, decide_eq_false hs]; rfl
    obtain rfl : r1 = false := by rw [HUV.out]; rfl
    have b3 : (s != s2) = true := bne_iff_ne.2 hs
    clear hs
    go_enter Try.func65, Try.ntmps65
    go_wp2_with fail
    refine (HT.out _ (HA.out.below (by repeat (first | with_reducible exact Below.refl _ _ | exact Hid.out (by with_reducible assumption) | refine Below.setCell ?_ (by simp <;> omega) _ | refine below_alloc ?_ _ | refine Below.alloc ?_ (by simp <;> omega) _ | refine Below.drew ?_ | refine below_drewN ?_ _ | exact Below.refl _ _)))).mono ?_
    rintro e w3 ⟨T, c1, g1, rfl, hg1, -, ho, hb⟩
    have N3 := Lib.hid (show Below w.heap.size w w3 from Below.trans (by repeat (first | with_reducible exact Below.refl _ _ | exact Hid.out (by with_reducible assumption) | refine Below.setCell ?_ (by simp <;> omega) _ | refine below_alloc ?_ _ | refine Below.alloc ?_ (by simp <;> omega) _ | refine Below.drew ?_ | refine below_drewN ?_ _ | exact Below.refl _ _)) (hb.mono (by simp <;> omega)))
    have XA3 := Lib.hid ((XA.out.below hb).alloc (.cells #[.int .i64 s, .slice T n c1] 36))
    have XB3 := Lib.hid ((XB.out.below hb).alloc (.cells #[.int .i64 s, .slice T n c1] 36))
    have YT := Lib.hid (Box2.new w3 36 (.int .i64 s) (.slice T n c1))
    have CT := Lib.hid (ho.cells.below ((Below.refl _ _).alloc (Nat.le_refl _) (.cells #[.int .i64 s, .slice T n c1] 36)))
    obtain ⟨zb0, zb1⟩ := XB3.out
    clear hb ho
    go_wp2_with fail
    refine (HVB.out _ (HA2.out.below (by repeat (first | with_reducible exact Below.refl _ _ | exact Hid.out (by with_reducible assumption) | refine Below.setCell ?_ (by simp <;> omega) _ | refine below_alloc ?_ _ | refine Below.alloc ?_ (by simp <;> omega) _ | refine Below.drew ?_ | refine below_drewN ?_ _ | exact Below.refl _ _)))).mono ?_
    rintro e w5 ⟨rfl, hb5⟩
    have N5 := Lib.hid (show Below w.heap.size w w5 from Below.trans (by repeat (first | with_reducible exact Below.refl _ _ | exact Hid.out (by with_reducible assumption) | refine Below.setCell ?_ (by simp <;> omega) _ | refine below_alloc ?_ _ | refine Below.alloc ?_ (by simp <;> omega) _ | refine Below.drew ?_ | refine below_drewN ?_ _ | exact Below.refl _ _)) (hb5.mono (by have := N3.out.size; simp <;> omega)))
    have A5 := Lib.hid (XA3.out.below hb5)
    have B5 := Lib.hid (XB3.out.below hb5)
    have Y5 := Lib.hid (YT.out.below hb5)
    have C5 := Lib.hid (CT.out.below hb5)
    have K5 := Lib.hid (HA2.out.below N5.out)
    clear hb5
    obtain ⟨xa0, xa1⟩ := A5.out
    obtain ⟨xb0, xb1⟩ := B5.out
    obtain ⟨y0, y1⟩ := Y5.out
    go_wp2_with fail
    refine bodyPost_ret (v := .tuple #[.bool false, .bool false]) (by simp [results, Try.results65, go_sem]) rfl ⟨rfl, (by repeat (first | with_reducible exact Below.refl _ _ | exact Hid.out (by with_reducible assumption) | refine Below.setCell ?_ (by simp <;> omega) _ | refine below_alloc ?_ _ | refine Below.alloc ?_ (by simp <;> omega) _ | refine Below.drew ?_ | refine below_drewN ?_ _ | exact Below.refl _ _))⟩
  obtain rfl : r2 = true := by rw [HU.out, decide_eq_true hs]; rfl
  have HR1 := Lib.hid (show r1 = al by rw [HUV.out]; rfl)
  have hn3 := HN2.out hs
  subst hn3
  have b3 : (s != s2) = false := by rw [hs]; exact bne_self_eq_false _
  clear HU HUV HN2 hs
  go_enter Try.func65, Try.ntmps65
  go_wp2_with fail
  refine (HT.out _ (HA.out.below (by repeat (first | with_reducible exact Below.refl _ _ | exact Hid.out (by with_reducible assumption) | refine Below.setCell ?_ (by simp <;> omega) _ | refine below_alloc ?_ _ | refine Below.alloc ?_ (by simp <;> omega) _ | refine Below.drew ?_ | refine below_drewN ?_ _ | exact Below.refl _ _)))).mono ?_
  rintro e w3 ⟨T, c1, g1, rfl, hg1, -, ho, hb⟩
  have N3 := Lib.hid (show Below w.heap.size w w3 from Below.trans (by repeat (first | with_reducible exact Below.refl _ _ | exact Hid.out (by with_reducible assumption) | refine Below.setCell ?_ (by simp <;> omega) _ | refine below_alloc ?_ _ | refine Below.alloc ?_ (by simp <;> omega) _ | refine Below.drew ?_ | refine below_drewN ?_ _ | exact Below.refl _ _)) (hb.mono (by simp <;> omega)))
  have XA3 := Lib.hid ((XA.out.below hb).alloc (.cells #[.int .i64 s, .slice T n2 c1] 36))
  have XB3 := Lib.hid ((XB.out.below hb).alloc (.cells #[.int .i64 s, .slice T n2 c1] 36))
  have YT := Lib.hid (Box2.new w3 36 (.int .i64 s) (.slice T n2 c1))
  have CT := Lib.hid (ho.cells.below ((Below.refl _ _).alloc (Nat.le_refl _) (.cells #[.int .i64 s, .slice T n2 c1] 36)))
  obtain ⟨zb0, zb1⟩ := XB3.out
  clear hb ho
  go_wp2_with fail
  refine (HVB.out _ (HA2.out.below (by repeat (first | with_reducible exact Below.refl _ _ | exact Hid.out (by with_reducible assumption) | refine Below.setCell ?_ (by simp <;> omega) _ | refine below_alloc ?_ _ | refine Below.alloc ?_ (by simp <;> omega) _ | refine Below.drew ?_ | refine below_drewN ?_ _ | exact Below.refl _ _)))).mono ?_
  rintro e w5 ⟨rfl, hb5⟩
  have N5 := Lib.hid (show Below w.heap.size w w5 from Below.trans (by repeat (first | with_reducible exact Below.refl _ _ | exact Hid.out (by with_reducible assumption) | refine Below.setCell ?_ (by simp <;> omega) _ | refine below_alloc ?_ _ | refine Below.alloc ?_ (by simp <;> omega) _ | refine Below.drew ?_ | refine below_drewN ?_ _ | exact Below.refl _ _)) (hb5.mono (by have := N3.out.size; simp <;> omega)))
  have A5 := Lib.hid (XA3.out.below hb5)
  have B5 := Lib.hid (XB3.out.below hb5)
  have Y5 := Lib.hid (YT.out.below hb5)
  have C5 := Lib.hid (CT.out.below hb5)
  have K5 := Lib.hid (HA2.out.below N5.out)
  clear hb5
  obtain ⟨xa0, xa1⟩ := A5.out
  obtain ⟨xb0, xb1⟩ := B5.out
  obtain ⟨y0, y1⟩ := Y5.out
  go_wp2_with fail
  go_loop [32] (fun i => ∃ k : Nat, k ≤ n2 ∧ i = .int .i64 k ∧ Hid (∀ j, j < k → g j ≤ f2 j)) (fun i => n2 - (intOf i).toNat)
  case atStart => exact ⟨0, Nat.zero_le _, rfl, fun j hj => by omega⟩
  case round =>
    obtain ⟨k, hk, rfl, HP⟩ := hrel
    by_cases hlt : k < n2
    · have d1 : (k : Int) < n2 := by omega
      obtain ⟨x, rfl, hx0⟩ := C5.out k hlt
      have hx : w5.cell? (x.add k) = some (.int .i64 (g k)) := hx0
      obtain ⟨x2, rfl, hx20⟩ := K5.out k hlt
      have hx2 : w5.cell? (x2.add k) = some (.int .i64 (f2 k)) := hx20
      have HNk := Lib.hid (HNO.out k hlt)
      have HPk := Lib.hid (show g k ≤ f2 k → ∀ j, j < k + 1 → g j ≤ f2 j from fun e j hj => by
        rcases Nat.lt_or_ge j k with h | h
        · exact HP.out j h
        · have : j = k := by omega
          subst this
          exact e)
      clear hx0 hx20 HP HYES HNO
      generalize g k = u1 at *
      generalize f2 k = u2 at *
      by_cases hle : u1 ≤ u2
      · have HT := Lib.hid (HPk.out hle)
        have d2 : ¬ u2 < u1 := by omega
        clear HNk HPk
        go_wp2_with fail
        go_round
        case rel => exact ⟨k + 1, by omega, by go_num, HT⟩
        case measure => simp [intOf]; omega
      · have d2 : u2 < u1 := by omega
        have HF := Lib.hid (HNk.out d2)
        clear HNk HPk
        go_wp2_with fail
        refine bodyPost_ret (v := .tuple #[.bool false, .bool true]) (by simp [results, Try.results65, go_sem]) rfl ⟨?_, (by repeat (first | with_reducible exact Below.refl _ _ | exact Hid.out (by with_reducible assumption) | refine Below.setCell ?_ (by simp <;> omega) _ | refine below_alloc ?_ _ | refine Below.alloc ?_ (by simp <;> omega) _ | refine Below.drew ?_ | refine below_drewN ?_ _ | exact Below.refl _ _))⟩
        rw [HR1.out, HF.out]
    · have d1 : ¬ (k : Int) < n2 := by omega
      obtain rfl : n2 = k := by omega
      have HT := Lib.hid (HYES.out HP.out)
      go_wp2_with fail
      refine bodyPost_ret (v := .tuple #[.bool true, .bool true]) (by simp [results, Try.results65, go_sem]) rfl ⟨?_, (by repeat (first | with_reducible exact Below.refl _ _ | exact Hid.out (by with_reducible assumption) | refine Below.setCell ?_ (by simp <;> omega) _ | refine below_alloc ?_ _ | refine Below.alloc ?_ (by simp <;> omega) _ | refine Below.drew ?_ | refine below_drewN ?_ _ | exact Below.refl _ _))⟩
      rw [HR1.out, HT.out]
end Go.Proofs.Ytfpombhhnojjhaa
