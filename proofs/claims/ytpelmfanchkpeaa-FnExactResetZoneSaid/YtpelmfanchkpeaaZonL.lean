/- Later zones, on both sides. -/
import Derived.Test.YtpelmfanchkpeaaZonP
set_option linter.unusedVariables false
set_option linter.unusedSimpArgs false
namespace Go.Proofs.Ytpelmfanchkpeaa
open Go.RowKit
/-- The first k rows let their clocks go. -/
def freeF (M : Nat) (f : Nat → Int) : Nat → Nat → Int
  | 0 => f
  | k + 1 => fun p => if p = (k + 1) * M + 0 then 1000000000 else freeF M f k p
/-- Its bounds. -/
def laterF (s : Int) (f : Nat → Int) : Nat → Int := freeF (s + 1).toNat (tightG s f) s.toNat
theorem freeF_step (M : Nat) (f : Nat → Int) (k : Nat) : (fun p => if p = (k + 1) * M + 0 then Value.int .i64 1000000000 else .int .i64 (freeF M f k p)) = fun p => .int .i64 (freeF M f (k + 1) p) := by
  funext p
  show _ = Value.int .i64 (if p = (k + 1) * M + 0 then 1000000000 else freeF M f k p)
  split <;> rfl
set_option maxRecDepth 20000 in
set_option maxHeartbeats 4000000 in
theorem letGo_any (m : Nat) (T : Option Addr) (n c g k : Nat) (F : Nat → Int) (B : Nat) (w : World) (hm : m ≤ 4) (hk : k ≤ m) (hn : n = (m + 1) * (m + 1)) (ho : OwnC w g T n (fun i => .int .i64 (F i))) :
    Calls Try.prog 73 #[.agg #[.int .i64 m, .slice T n c], .int .i64 k] w fun e w' => e = .returned (.tuple #[]) ∧ OwnC w' g T n (fun p => if p = k * (m + 1) + 0 then .int .i64 1000000000 else .int .i64 (F p)) ∧ Within g (g + 1) w w' := by
  have hq : k * (m + 1) + 0 < n := by rw [hn]; exact at_lt (by omega) (by omega)
  have HA := Lib.hid (fun W => atZ_any m T n c k 0 W hm hk (by omega))
  obtain ⟨y, hTy, hyg, -, -⟩ := ho _ hq
  have HO := Lib.hid ho
  subst hTy
  have hgl : g < w.heap.size := ho.lt (by omega)
  have hbk : (y.add (k * (m + 1) + 0)).block = g := by rw [block_add, hyg]
  have X := Lib.hid (Box2.new w 41 (.int .i64 m) (.slice (some y) n c))
  have NW := Lib.hid ((Below.refl w.heap.size w).alloc (Nat.le_refl _) (.cells #[.int .i64 m, .slice (some y) n c] 41))
  have d4 : ((k * (m + 1) + 0 : Nat) : Int) < n := by omega
  have e0 : ((0 : Nat) : Int) = 0 := rfl
  rw [e0] at HA
  obtain ⟨w1, hw1e⟩ : ∃ W, W = w.alloc (.cells #[.int .i64 m, .slice (some y) n c] 41) := ⟨_, rfl⟩
  rw [← hw1e] at X NW
  have HO1 := Lib.hid (HO.out.below NW.out)
  have hgl1 : g < w1.heap.size := Nat.lt_of_lt_of_le hgl NW.out.size
  have HFZ := Lib.hid (show ∀ W, Below w1.heap.size w1 W → W.frozen? (y.add (k * (m + 1) + 0)) = false ∧ W.cell? (y.add (k * (m + 1) + 0)) = some (.int .i64 (F (k * (m + 1) + 0))) from fun W hW => by
    obtain ⟨x, hx, -, h3, h4⟩ := (HO1.out.below hW) _ hq
    cases hx
    exact ⟨h3, h4⟩)
  have HSET := Lib.hid (fun W (hW : Below w1.heap.size w1 W) => OwnC.set (HO1.out.below hW) rfl hq (.int .i64 1000000000))
  clear ho hn hm
  generalize k * (m + 1) + 0 = pos at *
  generalize (k : Int) = ki at *
  generalize (m : Int) = mi at *
  have hne : (y.add pos).block ≠ w.heap.size := by rw [hbk]; omega
  have HK := Lib.hid (show ∀ W, Below w1.heap.size w1 W → W.cell? ⟨w.heap.size, 0, none⟩ = some (.int .i64 mi) ∧ W.cell? ⟨w.heap.size, 1, none⟩ = some (.slice (some y) n c) from fun W hW => ⟨(X.out.below hW).c0, (X.out.below hW).c1⟩)
  have HK2 := Lib.hid (show ∀ W v, Below w1.heap.size w1 W → (W.setCell (y.add pos) v).cell? ⟨w.heap.size, 0, none⟩ = some (.int .i64 mi) ∧ (W.setCell (y.add pos) v).cell? ⟨w.heap.size, 1, none⟩ = some (.slice (some y) n c) from fun W v hW =>
    ⟨(World.cell?_setCell_other _ _ _ _ (fun e => hne (by rw [e]))).trans (HK.out W hW).1, (World.cell?_setCell_other _ _ _ _ (fun e => hne (by rw [e]))).trans (HK.out W hW).2⟩)
  go_enter Try.func73, Try.ntmps73
  go_wp2_with fail
  rw [← hw1e]
  clear hw1e
  obtain ⟨x0, x1⟩ := X.out
  go_region_held3 (fun W => W.cell? ⟨w.heap.size, 0, none⟩ = some (.int .i64 mi) ∧ W.cell? ⟨w.heap.size, 1, none⟩ = some (.slice (some y) n c))
    (first | exact HK2.out _ _ (by repeat (first | with_reducible exact Below.refl _ _ | exact Hid.out (by with_reducible assumption) | refine Below.setCell ?_ (by simp <;> omega) _ | refine below_alloc ?_ _ | refine Below.alloc ?_ (by simp <;> omega) _ | refine Below.drew ?_ | refine below_drewN ?_ _ | exact Below.refl _ _)) | exact HK.out _ (by repeat (first | with_reducible exact Below.refl _ _ | exact Hid.out (by with_reducible assumption) | refine Below.setCell ?_ (by simp <;> omega) _ | refine below_alloc ?_ _ | refine Below.alloc ?_ (by simp <;> omega) _ | refine Below.drew ?_ | refine below_drewN ?_ _ | exact Below.refl _ _)))
    (first
      | (go_at_call 69; refine (HA.out _).mono ?_; rintro e w5 ⟨rfl, hb⟩; have N5 := Lib.hid (show Below w1.heap.size w1 w5 from Below.trans (by repeat (first | with_reducible exact Below.refl _ _ | exact Hid.out (by with_reducible assumption) | refine Below.setCell ?_ (by simp <;> omega) _ | refine below_alloc ?_ _ | refine Below.alloc ?_ (by simp <;> omega) _ | refine Below.drew ?_ | refine below_drewN ?_ _ | exact Below.refl _ _)) (hb.mono (by simp))); obtain ⟨f8, c8⟩ := HFZ.out _ N5.out; clear hb))
  all_goals (
    go_wp2_with fail
    have N6 := NW.out.trans (N5.out.mono NW.out.size)
    go_end0
    exact ⟨rfl, HSET.out _ N5.out, Within.trans (Within.of_below N6) (Within.setCell _ (by omega) (by omega) _)⟩)
theorem tightThen_no (FN : Nat) (s : Int) (A : Option Addr) (n c : Nat) (f : Nat → Int) (i k : Int) (w : World) (hn : n ≤ 1048576) (hA : Cells w A n (fun i => .int .i64 (f i))) (hv : tightOk s n f = false) :
    Calls Try.prog 72 #[.agg #[.int .i64 s, .slice A n c], .func (.func FN) #[] #[], .int .i64 i, .int .i64 k] w fun e w' => ∀ (s3 : Int) (n3 : Nat) (f3 : Nat → Int), ZoneRes w w' e false (ifI false s3) (ifN false n3) f3 := by
  have HA := Lib.hid hA
  have HT := Lib.hid (fun W h => implTightZone_any s A n c f W hn h)
  rw [hv] at HT
  clear hA hv
  have Z0 := Lib.hid (show BoxF2 _ (w.heap.size + 1) _ _ from by simpa using (BoxF2.new (w.alloc (.cells #[.int .i64 s, .slice A n c] 41)) 41 (.int .i64 0) (.slice none 0 0)))
  go_enter Try.func72, Try.ntmps72
  go_wp2_with fail
  refine (HT.out _ (HA.out.below (by repeat (first | with_reducible exact Below.refl _ _ | exact Hid.out (by with_reducible assumption) | refine Below.setCell ?_ (by simp <;> omega) _ | refine below_alloc ?_ _ | refine Below.alloc ?_ (by simp <;> omega) _ | refine Below.drew ?_ | refine below_drewN ?_ _ | exact Below.refl _ _)))).mono ?_
  rintro e w3 ⟨T, c1, g1, rfl, hg1, -, ho, hb⟩
  have N3 := Lib.hid (show Below w.heap.size w w3 from Below.trans (by repeat (first | with_reducible exact Below.refl _ _ | exact Hid.out (by with_reducible assumption) | refine Below.setCell ?_ (by simp <;> omega) _ | refine below_alloc ?_ _ | refine Below.alloc ?_ (by simp <;> omega) _ | refine Below.drew ?_ | refine below_drewN ?_ _ | exact Below.refl _ _)) (hb.mono (by simp <;> omega)))
  have Z3 := Lib.hid (Z0.out.below hb)
  have hz := Z3.out.lt
  clear hb ho
  obtain ⟨k0, k1⟩ := Z3.out.box
  have hfz := Z3.out.fz
  go_wp2_with fail
  have ZF := Lib.hid ((((Z3.out).set0 (u := .int .i64 0)).set1 (u := .slice none 0 0)).alloc (.cells #[.int .i64 (ifI false s), .slice T (ifN false n) c1] 41))
  obtain ⟨q0, q1⟩ := ZF.out.box
  refine bodyPost_ret (v := .tuple #[.agg #[.int .i64 0, .slice none 0 0], .bool false]) ?r1 rfl ?r2
  case r1 => simp [results, Try.results72, go_sem, q0, q1]
  case r2 =>
    intro s3 n3 f3
    exact ZoneRes.none_ rfl (by repeat (first | with_reducible exact Below.refl _ _ | exact Hid.out (by with_reducible assumption) | refine Below.setCell ?_ (by simp <;> omega) _ | refine below_alloc ?_ _ | refine Below.alloc ?_ (by simp <;> omega) _ | refine Below.drew ?_ | refine below_drewN ?_ _ | exact Below.refl _ _))
set_option maxRecDepth 20000 in
set_option maxHeartbeats 4000000 in
theorem tightThen_letGo (s : Int) (A : Option Addr) (n c : Nat) (f : Nat → Int) (first cnt : Nat) (last : Int) (G : Nat → Nat → Int) (w : World) (hn : n ≤ 1048576) (hn0 : 0 < n) (hA : Cells w A n (fun i => .int .i64 (f i))) (hv : tightOk s n f = true)
    (hfc : first + cnt ≤ 100) (hl : last + 1 = ((first + cnt : Nat) : Int)) (hG : G 0 = tightG s f)
    (hC : ∀ q W T g1 c1, q < cnt → OwnC W g1 T n (fun p => .int .i64 (G q p)) → Calls Try.prog 73 #[.agg #[.int .i64 s, .slice T n c1], .int .i64 ((first + q : Nat) : Int)] W fun e w' => e = .returned (.tuple #[]) ∧ OwnC w' g1 T n (fun p => .int .i64 (G (q + 1) p)) ∧ Within g1 (g1 + 1) W w') :
    Calls Try.prog 72 #[.agg #[.int .i64 s, .slice A n c], .func (.func 73) #[] #[], .int .i64 first, .int .i64 last] w fun e w' => ZoneRes w w' e true s n (G cnt) := by
  have HA := Lib.hid hA
  have HC := Lib.hid hC
  have HT := Lib.hid (fun W h => implTightZone_any s A n c f W hn h)
  rw [hv] at HT
  have HT2 := Lib.hid (fun W h => show Calls Try.prog 38 #[.agg #[.int .i64 s, .slice A n c]] W (fun e w' => ZoneRes W w' e true s n (tightG s f)) from HT.out W h)
  have HG := Lib.hid hG
  have HL := Lib.hid hl
  clear hA hv HT hC hG hl
  have Z0 := Lib.hid (show BoxF2 _ (w.heap.size + 1) _ _ from by simpa using (BoxF2.new (w.alloc (.cells #[.int .i64 s, .slice A n c] 41)) 41 (.int .i64 0) (.slice none 0 0)))
  go_enter Try.func72, Try.ntmps72
  go_wp2_with fail
  refine (HT2.out _ (HA.out.below (by repeat (first | with_reducible exact Below.refl _ _ | exact Hid.out (by with_reducible assumption) | refine Below.setCell ?_ (by simp <;> omega) _ | refine below_alloc ?_ _ | refine Below.alloc ?_ (by simp <;> omega) _ | refine Below.drew ?_ | refine below_drewN ?_ _ | exact Below.refl _ _)))).mono ?_
  rintro e w3 ⟨T, c1, g1, rfl, hg1, -, ho, hb⟩
  have N3 := Lib.hid (show Below w.heap.size w w3 from Below.trans (by repeat (first | with_reducible exact Below.refl _ _ | exact Hid.out (by with_reducible assumption) | refine Below.setCell ?_ (by simp <;> omega) _ | refine below_alloc ?_ _ | refine Below.alloc ?_ (by simp <;> omega) _ | refine Below.drew ?_ | refine below_drewN ?_ _ | exact Below.refl _ _)) (hb.mono (by simp <;> omega)))
  have Z3 := Lib.hid ((Z0.out.below hb).alloc (.cells #[.int .i64 s, .slice T n c1] 41))
  have hz : w.heap.size + 1 < w3.heap.size := (Z0.out.below hb).lt
  have hg2 : w.heap.size + 2 ≤ g1 := by simp at hg1; omega
  have hg3 : g1 < w3.heap.size := ho.lt hn0
  have Y3 := Lib.hid (Box2.new w3 41 (.int .i64 s) (.slice T n c1))
  have O3 := Lib.hid (show OwnC _ g1 T n (fun p => .int .i64 (G 0 p)) by rw [HG.out]; exact ho.below ((Below.refl _ _).alloc (Nat.le_refl _) (.cells #[.int .i64 s, .slice T n c1] 41)))
  clear hb ho hg1
  obtain ⟨y0, y1⟩ := Y3.out
  go_wp2_with fail
  go_loopw [12] (fun v wr => ∃ q : Nat, q ≤ cnt ∧ v = .int .i64 ((first + q : Nat) : Int) ∧ Hid (Below w.heap.size w wr) ∧ Hid (BoxF2 wr (w.heap.size + 1) (.int .i64 0) (.slice none 0 0)) ∧ Hid (Box2 wr w3.heap.size (.int .i64 s) (.slice T n c1)) ∧ Hid (OwnC wr g1 T n (fun p => .int .i64 (G q p)))) (fun v _ => (first + cnt) - (intOf v).toNat)
  case atStart => exact ⟨0, Nat.zero_le _, rfl, (by repeat (first | with_reducible exact Below.refl _ _ | exact Hid.out (by with_reducible assumption) | refine Below.setCell ?_ (by simp <;> omega) _ | refine below_alloc ?_ _ | refine Below.alloc ?_ (by simp <;> omega) _ | refine Below.drew ?_ | refine below_drewN ?_ _ | exact Below.refl _ _)), Z3, Y3, O3⟩
  case round =>
    obtain ⟨q, hq, rfl, HB0, CZ, CY, HP⟩ := hrel
    clear y0 y1
    obtain ⟨y0, y1⟩ := CY.out
    by_cases hqt : q < cnt
    · have d1 : ((first + q : Nat) : Int) ≤ last := by have := HL.out; omega
      have HCq := Lib.hid (HC.out q wr T g1 c1 hqt HP.out)
      have hw1 : IntKind.i64.wrap (((first + q : Nat) : Int) + 1) = ((first + (q + 1) : Nat) : Int) := by rw [IntKind.wrap_i64]; omega
      have hms : (first + cnt) - (first + (q + 1)) < (first + cnt) - (first + q) := by omega
      have hit : (((first + (q + 1) : Nat) : Int)).toNat = first + (q + 1) := by omega
      have hit2 : (((first + q : Nat) : Int)).toNat = first + q := by omega
      have hIN := Lib.hid (show ∃ z : Int, z = ((first + (q + 1) : Nat) : Int) from ⟨_, rfl⟩)
      generalize hz1 : ((first + (q + 1) : Nat) : Int) = z1 at *
      generalize hz0 : ((first + q : Nat) : Int) = z0 at *
      go_wp2_with fail
      refine HCq.out.mono ?_
      rintro e w5 ⟨rfl, ho, hw⟩
      have N5 := Lib.hid (show Below w.heap.size w w5 from HB0.out.trans (hw.below (by omega) HB0.out.size))
      have Z5 := Lib.hid (CZ.out.keep (hw.block _ CZ.out.lt (by omega)))
      have Y5 := Lib.hid (CY.out.within hw (by omega))
      have O5 := Lib.hid ho
      clear ho hw
      go_wp2_with fail
      exact ⟨⟨q + 1, by omega, by rw [hz1], N5, Z5, Y5, O5⟩, by simp only [intOf]; omega⟩
    · have d1 : ¬ ((first + q : Nat) : Int) ≤ last := by have := HL.out; omega
      obtain rfl : q = cnt := by omega
      obtain ⟨k0, k1⟩ := CZ.out.box
      have hfz := CZ.out.fz
      go_wp2_with fail
      refine bodyPost_ret (v := .tuple #[.agg #[.int .i64 s, .slice T n c1], .bool true]) ?r1 rfl ?r2
      case r1 => simp [results, Try.results72, go_sem, k0, k1]
      case r2 => exact ⟨T, c1, g1, rfl, by omega, trivial, own_setP' (own_setP' HP.out (fun _ => by omega)) (fun _ => by omega), (by repeat (first | with_reducible exact Below.refl _ _ | exact Hid.out (by with_reducible assumption) | refine Below.setCell ?_ (by simp <;> omega) _ | refine below_alloc ?_ _ | refine Below.alloc ?_ (by simp <;> omega) _ | refine Below.drew ?_ | refine below_drewN ?_ _ | exact Below.refl _ _))⟩
set_option maxRecDepth 20000 in
set_option maxHeartbeats 4000000 in
theorem tightThen_reset (s : Int) (A : Option Addr) (n c : Nat) (f : Nat → Int) (first cnt : Nat) (last : Int) (G : Nat → Nat → Int) (w : World) (hn : n ≤ 1048576) (hn0 : 0 < n) (hA : Cells w A n (fun i => .int .i64 (f i))) (hv : tightOk s n f = true)
    (hfc : first + cnt ≤ 100) (hl : last + 1 = ((first + cnt : Nat) : Int)) (hG : G 0 = tightG s f)
    (hC : ∀ q W T g1 c1, q < cnt → OwnC W g1 T n (fun p => .int .i64 (G q p)) → Calls Try.prog 74 #[.agg #[.int .i64 s, .slice T n c1], .int .i64 ((first + q : Nat) : Int)] W fun e w' => e = .returned (.tuple #[]) ∧ OwnC w' g1 T n (fun p => .int .i64 (G (q + 1) p)) ∧ Within g1 (g1 + 1) W w') :
    Calls Try.prog 72 #[.agg #[.int .i64 s, .slice A n c], .func (.func 74) #[] #[], .int .i64 first, .int .i64 last] w fun e w' => ZoneRes w w' e true s n (G cnt) := by
  have HA := Lib.hid hA
  have HC := Lib.hid hC
  have HT := Lib.hid (fun W h => implTightZone_any s A n c f W hn h)
  rw [hv] at HT
  have HT2 := Lib.hid (fun W h => show Calls Try.prog 38 #[.agg #[.int .i64 s, .slice A n c]] W (fun e w' => ZoneRes W w' e true s n (tightG s f)) from HT.out W h)
  have HG := Lib.hid hG
  have HL := Lib.hid hl
  clear hA hv HT hC hG hl
  have Z0 := Lib.hid (show BoxF2 _ (w.heap.size + 1) _ _ from by simpa using (BoxF2.new (w.alloc (.cells #[.int .i64 s, .slice A n c] 41)) 41 (.int .i64 0) (.slice none 0 0)))
  go_enter Try.func72, Try.ntmps72
  go_wp2_with fail
  refine (HT2.out _ (HA.out.below (by repeat (first | with_reducible exact Below.refl _ _ | exact Hid.out (by with_reducible assumption) | refine Below.setCell ?_ (by simp <;> omega) _ | refine below_alloc ?_ _ | refine Below.alloc ?_ (by simp <;> omega) _ | refine Below.drew ?_ | refine below_drewN ?_ _ | exact Below.refl _ _)))).mono ?_
  rintro e w3 ⟨T, c1, g1, rfl, hg1, -, ho, hb⟩
  have N3 := Lib.hid (show Below w.heap.size w w3 from Below.trans (by repeat (first | with_reducible exact Below.refl _ _ | exact Hid.out (by with_reducible assumption) | refine Below.setCell ?_ (by simp <;> omega) _ | refine below_alloc ?_ _ | refine Below.alloc ?_ (by simp <;> omega) _ | refine Below.drew ?_ | refine below_drewN ?_ _ | exact Below.refl _ _)) (hb.mono (by simp <;> omega)))
  have Z3 := Lib.hid ((Z0.out.below hb).alloc (.cells #[.int .i64 s, .slice T n c1] 41))
  have hz : w.heap.size + 1 < w3.heap.size := (Z0.out.below hb).lt
  have hg2 : w.heap.size + 2 ≤ g1 := by simp at hg1; omega
  have hg3 : g1 < w3.heap.size := ho.lt hn0
  have Y3 := Lib.hid (Box2.new w3 41 (.int .i64 s) (.slice T n c1))
  have O3 := Lib.hid (show OwnC _ g1 T n (fun p => .int .i64 (G 0 p)) by rw [HG.out]; exact ho.below ((Below.refl _ _).alloc (Nat.le_refl _) (.cells #[.int .i64 s, .slice T n c1] 41)))
  clear hb ho hg1
  obtain ⟨y0, y1⟩ := Y3.out
  go_wp2_with fail
  go_loopw [12] (fun v wr => ∃ q : Nat, q ≤ cnt ∧ v = .int .i64 ((first + q : Nat) : Int) ∧ Hid (Below w.heap.size w wr) ∧ Hid (BoxF2 wr (w.heap.size + 1) (.int .i64 0) (.slice none 0 0)) ∧ Hid (Box2 wr w3.heap.size (.int .i64 s) (.slice T n c1)) ∧ Hid (OwnC wr g1 T n (fun p => .int .i64 (G q p)))) (fun v _ => (first + cnt) - (intOf v).toNat)
  case atStart => exact ⟨0, Nat.zero_le _, rfl, (by repeat (first | with_reducible exact Below.refl _ _ | exact Hid.out (by with_reducible assumption) | refine Below.setCell ?_ (by simp <;> omega) _ | refine below_alloc ?_ _ | refine Below.alloc ?_ (by simp <;> omega) _ | refine Below.drew ?_ | refine below_drewN ?_ _ | exact Below.refl _ _)), Z3, Y3, O3⟩
  case round =>
    obtain ⟨q, hq, rfl, HB0, CZ, CY, HP⟩ := hrel
    clear y0 y1
    obtain ⟨y0, y1⟩ := CY.out
    by_cases hqt : q < cnt
    · have d1 : ((first + q : Nat) : Int) ≤ last := by have := HL.out; omega
      have HCq := Lib.hid (HC.out q wr T g1 c1 hqt HP.out)
      have hw1 : IntKind.i64.wrap (((first + q : Nat) : Int) + 1) = ((first + (q + 1) : Nat) : Int) := by rw [IntKind.wrap_i64]; omega
      have hms : (first + cnt) - (first + (q + 1)) < (first + cnt) - (first + q) := by omega
      have hit : (((first + (q + 1) : Nat) : Int)).toNat = first + (q + 1) := by omega
      have hit2 : (((first + q : Nat) : Int)).toNat = first + q := by omega
      have hIN := Lib.hid (show ∃ z : Int, z = ((first + (q + 1) : Nat) : Int) from ⟨_, rfl⟩)
      generalize hz1 : ((first + (q + 1) : Nat) : Int) = z1 at *
      generalize hz0 : ((first + q : Nat) : Int) = z0 at *
      go_wp2_with fail
      refine HCq.out.mono ?_
      rintro e w5 ⟨rfl, ho, hw⟩
      have N5 := Lib.hid (show Below w.heap.size w w5 from HB0.out.trans (hw.below (by omega) HB0.out.size))
      have Z5 := Lib.hid (CZ.out.keep (hw.block _ CZ.out.lt (by omega)))
      have Y5 := Lib.hid (CY.out.within hw (by omega))
      have O5 := Lib.hid ho
      clear ho hw
      go_wp2_with fail
      exact ⟨⟨q + 1, by omega, by rw [hz1], N5, Z5, Y5, O5⟩, by simp only [intOf]; omega⟩
    · have d1 : ¬ ((first + q : Nat) : Int) ≤ last := by have := HL.out; omega
      obtain rfl : q = cnt := by omega
      obtain ⟨k0, k1⟩ := CZ.out.box
      have hfz := CZ.out.fz
      go_wp2_with fail
      refine bodyPost_ret (v := .tuple #[.agg #[.int .i64 s, .slice T n c1], .bool true]) ?r1 rfl ?r2
      case r1 => simp [results, Try.results72, go_sem, k0, k1]
      case r2 => exact ⟨T, c1, g1, rfl, by omega, trivial, own_setP' (own_setP' HP.out (fun _ => by omega)) (fun _ => by omega), (by repeat (first | with_reducible exact Below.refl _ _ | exact Hid.out (by with_reducible assumption) | refine Below.setCell ?_ (by simp <;> omega) _ | refine below_alloc ?_ _ | refine Below.alloc ?_ (by simp <;> omega) _ | refine Below.drew ?_ | refine below_drewN ?_ _ | exact Below.refl _ _))⟩
end Go.Proofs.Ytpelmfanchkpeaa
