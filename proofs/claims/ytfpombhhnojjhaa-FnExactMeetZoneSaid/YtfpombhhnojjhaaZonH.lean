/- The zone of all times, on both sides. -/
import Derived.Test.YtfpombhhnojjhaaZonA
import Derived.Test.YtfpombhhnojjhaaZoneM
import Derived.Test.YtfpombhhnojjhaaZoneR
import Derived.Test.YtfpombhhnojjhaaStep
import Derived.Test.YtfpombhhnojjhaaClone
set_option linter.unusedVariables false
namespace Go.Proofs.Ytfpombhhnojjhaa
open Go.RowKit
/-- A bound of the whole zone. -/
def wholeF (M j : Nat) : Int := if j / M = 0 ∨ j / M = j % M then 0 else 1000000000
theorem wholeF_at {M i k : Nat} (hk : k < M) : wholeF M (i * M + k) = if i = 0 ∨ i = k then 0 else 1000000000 := by
  unfold wholeF
  have h1 : (i * M + k) / M = i := by
    rw [Nat.mul_comm, Nat.mul_add_div (by omega), Nat.div_eq_of_lt hk, Nat.add_zero]
  have h2 : (i * M + k) % M = k := by rw [Nat.mul_comm, Nat.mul_add_mod, Nat.mod_eq_of_lt hk]
  rw [h1, h2]
theorem listV_one {n : Nat} {V : Nat → Value} {x : Value} (h : V n = x) : listV (n * 1) V ++ listV (1 * 1) (fun _ => x) = listV ((n + 1) * 1) V := by
  unfold listV
  simp only [Nat.mul_one, List.range_succ, List.map_append]
  simp [h]
/-- How many bounds. -/
def wholeN (x : Int) : Nat := (x + 1).toNat * (x + 1).toNat
theorem wholeN_le (v : Bool) (x : Int) (h : v = inB x 1 4) : ifN v (wholeN x) ≤ 25 := by
  unfold ifN
  cases v
  · simp
  · have := inB_iff.1 h.symm
    have h2 : (x + 1).toNat ≤ 5 := by omega
    have := Nat.mul_le_mul h2 h2
    unfold wholeN
    simpa using this
set_option maxRecDepth 20000 in
set_option maxHeartbeats 8000000 in
theorem implWholeZone_any (x : Int) (w : World) :
    Calls Try.prog 64 #[.int .i64 x] w fun e w' => ZoneRes w w' e (inB x 1 4) (ifI (inB x 1 4) x) (ifN (inB x 1 4) (wholeN x)) (wholeF (x + 1).toNat) := by
  obtain ⟨ia, hia, hza, hsa, hba⟩ := info_parts infoCI
  have H0 := Lib.hid (fun W => between_any x 1 4 W)
  have HIF := Lib.hid (fun h => inB_iff.1 (show inB x 1 4 = true from h))
  generalize inB x 1 4 = r at *
  have Z0 := Lib.hid (BoxF2.new w 36 (.int .i64 0) (.slice none 0 0))
  obtain ⟨k0, k1⟩ := Z0.out.box
  have hfz := Z0.out.fz
  cases r
  · go_enter Try.func64, Try.ntmps64
    go_wp2_with fail
    refine (H0.out _).mono ?_
    rintro e w' ⟨rfl, rfl⟩
    go_wp2_with fail
    refine bodyPost_ret (v := .tuple #[.agg #[.int .i64 0, .slice none 0 0], .bool false]) ?r1 rfl ?r2
    case r1 => simp [results, Try.results64, go_sem, k0, k1]
    case r2 => exact ZoneRes.none_ rfl (by repeat (first | with_reducible exact Below.refl _ _ | exact Hid.out (by with_reducible assumption) | refine Below.setCell ?_ (by simp <;> omega) _ | refine below_alloc ?_ _ | refine Below.alloc ?_ (by simp <;> omega) _ | refine Below.drew ?_ | refine below_drewN ?_ _ | exact Below.refl _ _))
  obtain ⟨x1, x2⟩ := HIF.out rfl
  obtain ⟨m, rfl⟩ : ∃ m : Nat, x = (m : Int) := ⟨x.toNat, by omega⟩
  have hm : m ≤ 4 := by omega
  have hm5 : m + 1 ≤ 5 := by omega
  have hmt : ((m : Int) + 1).toNat = m + 1 := by omega
  have hWN : ifN true (wholeN (m : Int)) = (m + 1) * (m + 1) := by unfold ifN wholeN; rw [hmt]; rfl
  rw [hWN, hmt]
  have hifi : ifI true (m : Int) = (m : Int) := rfl
  rw [hifi]
  have hw1 : IntKind.i64.wrap ((m : Int) + 1) = ((m + 1 : Nat) : Int) := by rw [IntKind.wrap_i64]; omega
  have HM1 := Lib.hid (show ∀ k : Nat, k < m + 1 → (k : Int) < ((m + 1 : Nat) : Int) from fun k h => by omega)
  have HM2 := Lib.hid (show ∀ k : Nat, ¬ k < m + 1 → ¬ (k : Int) < ((m + 1 : Nat) : Int) from fun k h => by omega)
  have HLE := Lib.hid (show ∀ i k : Nat, i < m + 1 → k < m + 1 → i * (m + 1) + k < 25 from fun i k hi hk => by
    have := at_lt (M := m + 1) hi hk
    have h2 := Nat.mul_le_mul hm5 hm5
    omega)
  have HWA := Lib.hid (fun i k (hk : k < m + 1) => wholeF_at (M := m + 1) (i := i) hk)
  clear x1 x2 HIF hmt hWN hifi
  generalize hsm : ((m + 1 : Nat) : Int) = sm at *
  generalize hmi : (m : Int) = mi at *
  clear hsm hmi
  have Y0 := Lib.hid (show BoxF2 _ (w.heap.size + 1) _ _ from by simpa using (BoxF2.new (w.alloc (.cells #[.int .i64 0, .slice none 0 0] 36)) 36 (.int .i64 mi) (.slice none 0 0)))
  have Z1 := Lib.hid (Z0.out.alloc (.cells #[.int .i64 mi, .slice none 0 0] 36))
  obtain ⟨y0, y1⟩ := Y0.out.box
  have hfy := Y0.out.fz
  go_enter Try.func64, Try.ntmps64
  go_wp2_with fail
  refine (H0.out _).mono ?_
  rintro e w' ⟨rfl, rfl⟩
  go_wp2_with fail
  go_loopw [16] (fun ii wr => ∃ (i : Nat) (v : Value), i ≤ m + 1 ∧ ii = .int .i64 i ∧ Hid (Below w.heap.size w wr) ∧ Hid (BoxF2 wr w.heap.size (.int .i64 0) (.slice none 0 0)) ∧ Hid (BoxF2 wr (w.heap.size + 1) (.int .i64 mi) v) ∧
    Hid (RowV wr (w.heap.size + 2) 2 1 v (i * (m + 1)) (fun i => .int .i64 (wholeF (m + 1) i)) (w.heap.size + 1))) (fun ii _ => (m + 1) - (intOf ii).toNat)
  case atStart => exact ⟨0, _, Nat.zero_le _, rfl, (by repeat (first | with_reducible exact Below.refl _ _ | exact Hid.out (by with_reducible assumption) | refine Below.setCell ?_ (by simp <;> omega) _ | refine below_alloc ?_ _ | refine Below.alloc ?_ (by simp <;> omega) _ | refine Below.drew ?_ | refine below_drewN ?_ _ | exact Below.refl _ _)), Z1.out, Y0.out, ⟨⟨by simp [listV], .inl ⟨rfl, Nat.zero_mul _⟩⟩, by simp [Value.ownBlock]⟩⟩
  case round =>
    obtain ⟨i, v, hi, rfl, HB0, HZ, HY, HR⟩ := hrel
    clear k0 k1 hfz y0 y1 hfy
    by_cases hlt : i < m + 1
    rotate_left
    · have d1 := HM2.out i hlt
      have e : i = m + 1 := by omega
      subst e
      obtain ⟨k0, k1⟩ := HZ.out.box
      have hfz := HZ.out.fz
      obtain ⟨A1, c1, g1, rfl, hg1, hgp, ho1⟩ := HR.out.ownC
      obtain ⟨y0, y1⟩ := HY.out.box
      have O1 := Lib.hid ho1
      have L1 := Lib.hid (show w.heap.size + 2 ≤ g1 from hg1)
      clear ho1 hg1 hgp HR
      go_wp2_with fail
      refine bodyPost_ret (v := .tuple #[.agg #[.int .i64 mi, .slice A1 ((m + 1) * (m + 1)) c1], .bool true]) ?r1 rfl ?r2
      case r1 => simp [results, Try.results64, go_sem, k0, k1]
      case r2 =>
        have := L1.out
        have O2 := O1.out
        rw [Nat.mul_one] at O2
        exact ⟨A1, c1, g1, rfl, by omega, trivial, own_setP' (own_setP' O2 (fun _ => by omega)) (fun _ => by omega), (by repeat (first | with_reducible exact Below.refl _ _ | exact Hid.out (by with_reducible assumption) | refine Below.setCell ?_ (by simp <;> omega) _ | refine below_alloc ?_ _ | refine Below.alloc ?_ (by simp <;> omega) _ | refine Below.drew ?_ | refine below_drewN ?_ _ | exact Below.refl _ _))⟩
    have d1 := HM1.out i hlt
    go_wp2_with fail
    go_loopw [21] (fun kk wr => ∃ (k : Nat) (v : Value), k ≤ m + 1 ∧ kk = .int .i64 k ∧ Hid (Below w.heap.size w wr) ∧ Hid (BoxF2 wr w.heap.size (.int .i64 0) (.slice none 0 0)) ∧ Hid (BoxF2 wr (w.heap.size + 1) (.int .i64 mi) v) ∧
      Hid (RowV wr (w.heap.size + 2) 2 1 v (i * (m + 1) + k) (fun i => .int .i64 (wholeF (m + 1) i)) (w.heap.size + 1))) (fun kk _ => (m + 1) - (intOf kk).toNat)
    case atStart => exact ⟨0, v, Nat.zero_le _, rfl, HB0, HZ, HY, HR⟩
    case round =>
      clear HB0 HZ HY HR
      obtain ⟨k, v, hk, rfl, HB1, HZ, HY, HR⟩ := hrel
      by_cases hkt : k < m + 1
      rotate_left
      · have d2 := HM2.out k hkt
        have e : k = m + 1 := by omega
        subst e
        have HR3 := Lib.hid (show RowV _ (w.heap.size + 2) 2 1 v ((i + 1) * (m + 1)) (fun i => .int .i64 (wholeF (m + 1) i)) (w.heap.size + 1) from by rw [Nat.succ_mul]; exact HR.out)
        go_wp2_with fail
        exact ⟨⟨i + 1, v, by omega, by simp, HB1, HZ, HY, HR3⟩, by simp [intOf]; omega⟩
      have d2 := HM1.out k hkt
      have hq := HLE.out i k hlt hkt
      have HE0 := Lib.hid (HWA.out i k hkt)
      obtain ⟨y0, y1⟩ := HY.out.box
      have a1 := HY.out.box.a1
      have hzr : w.heap.size + 1 < wr.heap.size := HY.out.lt
      clear HLE HWA
      by_cases hi0 : i = 0
      · have b4 : ((i : Int) == 0) = true := by rw [hi0]; rfl
        have HE := Lib.hid (show wholeF (m + 1) (i * (m + 1) + k) = 0 by rw [HE0.out, if_pos (.inl hi0)])
        clear HE0 hi0
        go_wp2_with
          (first
            | (at_builtin
               refine wpList_append_cells _ rfl _ _ 22 rfl (w.heap.size + 2) 2 ia (.int .i64 0) 1 8 Try.underlying22 hia hza hsa hba rfl (by decide) v (i * (m + 1) + k) _ rfl (HR.out.alloc _).own
                 (some ⟨wr.heap.size, 0, none⟩) 1 1 (fun _ => .int .i64 0) rfl (cells_lit1 rfl) (fun j _ => rfl) (by unfold maxLen; omega) (by omega) (by have := HY.out.lt; simp <;> omega) ?_
               intro v1 w2 hown hgrow hwhere
               have HR2 := Lib.hid (show RowV w2 (w.heap.size + 2) 2 1 v1 (i * (m + 1) + k + 1) (fun i => .int .i64 (wholeF (m + 1) i)) (w.heap.size + 1) from
                 ⟨by rw [listV_one (V := fun i => .int .i64 (wholeF (m + 1) i)) (by rw [HE.out])] at hown; exact hown,
                  fun e => by rcases hwhere with h | h
                              · exact HR.out.ne (h ▸ e)
                              · have := HY.out.lt; rw [h] at e; simp at e; omega⟩)
               have HY2 := Lib.hid (BoxF2.grown (HY.out.alloc _) hgrow (fun e => HR.out.ne e.symm))
               have HZ2 := Lib.hid (BoxF2.grown (HZ.out.alloc _) hgrow (fun e => by have := (HR.out.own.lt _ e.symm).1; omega))
               have HB2 := Lib.hid (show Below w.heap.size w w2 from Below.grown (Below.alloc HB1.out HB1.out.size _) hgrow (by have := HB1.out.size; simp; omega) (fun j hj => by have := (HR.out.own.lt j hj).1; omega))
               obtain ⟨A1, c1, g1, rfl, -⟩ := HR2.out.ownC
               have zz2 := HY2.out.fz 1
               obtain ⟨w20, w21⟩ := HY2.out.box
               clear hown hgrow hwhere)
            | go_in)
        exact ⟨⟨k + 1, _, by omega, by simp, HB2.out.setCell (by simp) _, HZ2.out.far (by omega), HY2.out.set1, HR2.out.setP 1 _⟩, by simp [intOf]; omega⟩
      have b4 : ((i : Int) == 0) = false := beq_eq_false_iff_ne.2 (by omega)
      by_cases hik : i = k
      · have b5 : ((i : Int) == (k : Int)) = true := by rw [hik]; exact beq_self_eq_true _
        have HE := Lib.hid (show wholeF (m + 1) (i * (m + 1) + k) = 0 by rw [HE0.out, if_pos (.inr hik)])
        clear HE0 hi0 hik
        go_wp2_with
          (first
            | (at_builtin
               refine wpList_append_cells _ rfl _ _ 22 rfl (w.heap.size + 2) 2 ia (.int .i64 0) 1 8 Try.underlying22 hia hza hsa hba rfl (by decide) v (i * (m + 1) + k) _ rfl (HR.out.alloc _).own
                 (some ⟨wr.heap.size, 0, none⟩) 1 1 (fun _ => .int .i64 0) rfl (cells_lit1 rfl) (fun j _ => rfl) (by unfold maxLen; omega) (by omega) (by have := HY.out.lt; simp <;> omega) ?_
               intro v1 w2 hown hgrow hwhere
               have HR2 := Lib.hid (show RowV w2 (w.heap.size + 2) 2 1 v1 (i * (m + 1) + k + 1) (fun i => .int .i64 (wholeF (m + 1) i)) (w.heap.size + 1) from
                 ⟨by rw [listV_one (V := fun i => .int .i64 (wholeF (m + 1) i)) (by rw [HE.out])] at hown; exact hown,
                  fun e => by rcases hwhere with h | h
                              · exact HR.out.ne (h ▸ e)
                              · have := HY.out.lt; rw [h] at e; simp at e; omega⟩)
               have HY2 := Lib.hid (BoxF2.grown (HY.out.alloc _) hgrow (fun e => HR.out.ne e.symm))
               have HZ2 := Lib.hid (BoxF2.grown (HZ.out.alloc _) hgrow (fun e => by have := (HR.out.own.lt _ e.symm).1; omega))
               have HB2 := Lib.hid (show Below w.heap.size w w2 from Below.grown (Below.alloc HB1.out HB1.out.size _) hgrow (by have := HB1.out.size; simp; omega) (fun j hj => by have := (HR.out.own.lt j hj).1; omega))
               obtain ⟨A1, c1, g1, rfl, -⟩ := HR2.out.ownC
               have zz2 := HY2.out.fz 1
               obtain ⟨w20, w21⟩ := HY2.out.box
               clear hown hgrow hwhere)
            | go_in)
        exact ⟨⟨k + 1, _, by omega, by simp, HB2.out.setCell (by simp) _, HZ2.out.far (by omega), HY2.out.set1, HR2.out.setP 1 _⟩, by simp [intOf]; omega⟩
      · have b5 : ((i : Int) == (k : Int)) = false := beq_eq_false_iff_ne.2 (by omega)
        have HE := Lib.hid (show wholeF (m + 1) (i * (m + 1) + k) = 1000000000 by rw [HE0.out, if_neg (by omega)])
        clear HE0 hi0 hik
        go_wp2_with
          (first
            | (at_builtin
               refine wpList_append_cells _ rfl _ _ 22 rfl (w.heap.size + 2) 2 ia (.int .i64 0) 1 8 Try.underlying22 hia hza hsa hba rfl (by decide) v (i * (m + 1) + k) _ rfl (HR.out.alloc _).own
                 (some ⟨wr.heap.size, 0, none⟩) 1 1 (fun _ => .int .i64 1000000000) rfl (cells_lit1 rfl) (fun j _ => rfl) (by unfold maxLen; omega) (by omega) (by have := HY.out.lt; simp <;> omega) ?_
               intro v1 w2 hown hgrow hwhere
               have HR2 := Lib.hid (show RowV w2 (w.heap.size + 2) 2 1 v1 (i * (m + 1) + k + 1) (fun i => .int .i64 (wholeF (m + 1) i)) (w.heap.size + 1) from
                 ⟨by rw [listV_one (V := fun i => .int .i64 (wholeF (m + 1) i)) (by rw [HE.out])] at hown; exact hown,
                  fun e => by rcases hwhere with h | h
                              · exact HR.out.ne (h ▸ e)
                              · have := HY.out.lt; rw [h] at e; simp at e; omega⟩)
               have HY2 := Lib.hid (BoxF2.grown (HY.out.alloc _) hgrow (fun e => HR.out.ne e.symm))
               have HZ2 := Lib.hid (BoxF2.grown (HZ.out.alloc _) hgrow (fun e => by have := (HR.out.own.lt _ e.symm).1; omega))
               have HB2 := Lib.hid (show Below w.heap.size w w2 from Below.grown (Below.alloc HB1.out HB1.out.size _) hgrow (by have := HB1.out.size; simp; omega) (fun j hj => by have := (HR.out.own.lt j hj).1; omega))
               obtain ⟨A1, c1, g1, rfl, -⟩ := HR2.out.ownC
               have zz2 := HY2.out.fz 1
               obtain ⟨w20, w21⟩ := HY2.out.box
               clear hown hgrow hwhere)
            | go_in)
        exact ⟨⟨k + 1, _, by omega, by simp, HB2.out.setCell (by simp) _, HZ2.out.far (by omega), HY2.out.set1, HR2.out.setP 1 _⟩, by simp [intOf]; omega⟩
set_option maxRecDepth 20000 in
set_option maxHeartbeats 8000000 in
theorem specWholeZone_any (x : Int) (w : World) :
    Calls Try.prog 150 #[.int .i64 x] w fun e w' => ZoneRes w w' e (inB x 1 4) (ifI (inB x 1 4) x) (ifN (inB x 1 4) (wholeN x)) (wholeF (x + 1).toNat) := by
  obtain ⟨ia, hia, hza, hsa, hba⟩ := info_parts infoCI
  have H0 := Lib.hid (fun W => l00In_any x 1 4 W)
  have HIF := Lib.hid (fun h => inB_iff.1 (show inB x 1 4 = true from h))
  generalize inB x 1 4 = r at *
  have Z0 := Lib.hid (BoxF2.new w 36 (.int .i64 0) (.slice none 0 0))
  obtain ⟨k0, k1⟩ := Z0.out.box
  have hfz := Z0.out.fz
  cases r
  · go_enter Try.func150, Try.ntmps150
    go_wp2_with fail
    refine (H0.out _).mono ?_
    rintro e w' ⟨rfl, rfl⟩
    go_wp2_with fail
    refine bodyPost_ret (v := .tuple #[.agg #[.int .i64 0, .slice none 0 0], .bool false]) ?r1 rfl ?r2
    case r1 => simp [results, Try.results150, go_sem, k0, k1]
    case r2 => exact ZoneRes.none_ rfl (by repeat (first | with_reducible exact Below.refl _ _ | exact Hid.out (by with_reducible assumption) | refine Below.setCell ?_ (by simp <;> omega) _ | refine below_alloc ?_ _ | refine Below.alloc ?_ (by simp <;> omega) _ | refine Below.drew ?_ | refine below_drewN ?_ _ | exact Below.refl _ _))
  obtain ⟨x1, x2⟩ := HIF.out rfl
  obtain ⟨m, rfl⟩ : ∃ m : Nat, x = (m : Int) := ⟨x.toNat, by omega⟩
  have hm : m ≤ 4 := by omega
  have hm5 : m + 1 ≤ 5 := by omega
  have hmt : ((m : Int) + 1).toNat = m + 1 := by omega
  have hWN : ifN true (wholeN (m : Int)) = (m + 1) * (m + 1) := by unfold ifN wholeN; rw [hmt]; rfl
  rw [hWN, hmt]
  have hifi : ifI true (m : Int) = (m : Int) := rfl
  rw [hifi]
  have hw1 : IntKind.i64.wrap ((m : Int) + 1) = ((m + 1 : Nat) : Int) := by rw [IntKind.wrap_i64]; omega
  have HM1 := Lib.hid (show ∀ k : Nat, k < m + 1 → (k : Int) ≤ (m : Int) from fun k h => by omega)
  have HM2 := Lib.hid (show ∀ k : Nat, ¬ k < m + 1 → ¬ (k : Int) ≤ (m : Int) from fun k h => by omega)
  have HLE := Lib.hid (show ∀ i k : Nat, i < m + 1 → k < m + 1 → i * (m + 1) + k < 25 from fun i k hi hk => by
    have := at_lt (M := m + 1) hi hk
    have h2 := Nat.mul_le_mul hm5 hm5
    omega)
  have HWA := Lib.hid (fun i k (hk : k < m + 1) => wholeF_at (M := m + 1) (i := i) hk)
  clear x1 x2 HIF hmt hWN hifi
  generalize hsm : ((m + 1 : Nat) : Int) = sm at *
  generalize hmi : (m : Int) = mi at *
  clear hsm hmi
  have Y0 := Lib.hid (show BoxF2 _ (w.heap.size + 1) _ _ from by simpa using (BoxF2.new (w.alloc (.cells #[.int .i64 0, .slice none 0 0] 36)) 36 (.int .i64 mi) (.slice none 0 0)))
  have Z1 := Lib.hid (Z0.out.alloc (.cells #[.int .i64 mi, .slice none 0 0] 36))
  obtain ⟨y0, y1⟩ := Y0.out.box
  have hfy := Y0.out.fz
  go_enter Try.func150, Try.ntmps150
  go_wp2_with fail
  refine (H0.out _).mono ?_
  rintro e w' ⟨rfl, rfl⟩
  go_wp2_with fail
  go_loopw [5] (fun ii wr => ∃ (i : Nat) (v : Value), i ≤ m + 1 ∧ ii = .int .i64 i ∧ Hid (Below w.heap.size w wr) ∧ Hid (BoxF2 wr w.heap.size (.int .i64 0) (.slice none 0 0)) ∧ Hid (BoxF2 wr (w.heap.size + 1) (.int .i64 mi) v) ∧
    Hid (RowV wr (w.heap.size + 2) 2 1 v (i * (m + 1)) (fun i => .int .i64 (wholeF (m + 1) i)) (w.heap.size + 1))) (fun ii _ => (m + 1) - (intOf ii).toNat)
  case atStart => exact ⟨0, _, Nat.zero_le _, rfl, (by repeat (first | with_reducible exact Below.refl _ _ | exact Hid.out (by with_reducible assumption) | refine Below.setCell ?_ (by simp <;> omega) _ | refine below_alloc ?_ _ | refine Below.alloc ?_ (by simp <;> omega) _ | refine Below.drew ?_ | refine below_drewN ?_ _ | exact Below.refl _ _)), Z1.out, Y0.out, ⟨⟨by simp [listV], .inl ⟨rfl, Nat.zero_mul _⟩⟩, by simp [Value.ownBlock]⟩⟩
  case round =>
    obtain ⟨i, v, hi, rfl, HB0, HZ, HY, HR⟩ := hrel
    clear k0 k1 hfz y0 y1 hfy
    by_cases hlt : i < m + 1
    rotate_left
    · have d1 := HM2.out i hlt
      have e : i = m + 1 := by omega
      subst e
      obtain ⟨k0, k1⟩ := HZ.out.box
      have hfz := HZ.out.fz
      obtain ⟨A1, c1, g1, rfl, hg1, hgp, ho1⟩ := HR.out.ownC
      obtain ⟨y0, y1⟩ := HY.out.box
      have O1 := Lib.hid ho1
      have L1 := Lib.hid (show w.heap.size + 2 ≤ g1 from hg1)
      clear ho1 hg1 hgp HR
      go_wp2_with fail
      refine bodyPost_ret (v := .tuple #[.agg #[.int .i64 mi, .slice A1 ((m + 1) * (m + 1)) c1], .bool true]) ?r1 rfl ?r2
      case r1 => simp [results, Try.results150, go_sem, k0, k1]
      case r2 =>
        have := L1.out
        have O2 := O1.out
        rw [Nat.mul_one] at O2
        exact ⟨A1, c1, g1, rfl, by omega, trivial, own_setP' (own_setP' O2 (fun _ => by omega)) (fun _ => by omega), (by repeat (first | with_reducible exact Below.refl _ _ | exact Hid.out (by with_reducible assumption) | refine Below.setCell ?_ (by simp <;> omega) _ | refine below_alloc ?_ _ | refine Below.alloc ?_ (by simp <;> omega) _ | refine Below.drew ?_ | refine below_drewN ?_ _ | exact Below.refl _ _))⟩
    have d1 := HM1.out i hlt
    go_wp2_with fail
    go_loopw [6] (fun kk wr => ∃ (k : Nat) (v : Value), k ≤ m + 1 ∧ kk = .int .i64 k ∧ Hid (Below w.heap.size w wr) ∧ Hid (BoxF2 wr w.heap.size (.int .i64 0) (.slice none 0 0)) ∧ Hid (BoxF2 wr (w.heap.size + 1) (.int .i64 mi) v) ∧
      Hid (RowV wr (w.heap.size + 2) 2 1 v (i * (m + 1) + k) (fun i => .int .i64 (wholeF (m + 1) i)) (w.heap.size + 1))) (fun kk _ => (m + 1) - (intOf kk).toNat)
    case atStart => exact ⟨0, v, Nat.zero_le _, rfl, HB0, HZ, HY, HR⟩
    case round =>
      clear HB0 HZ HY HR
      obtain ⟨k, v, hk, rfl, HB1, HZ, HY, HR⟩ := hrel
      by_cases hkt : k < m + 1
      rotate_left
      · have d2 := HM2.out k hkt
        have e : k = m + 1 := by omega
        subst e
        have HR3 := Lib.hid (show RowV _ (w.heap.size + 2) 2 1 v ((i + 1) * (m + 1)) (fun i => .int .i64 (wholeF (m + 1) i)) (w.heap.size + 1) from by rw [Nat.succ_mul]; exact HR.out)
        go_wp2_with fail
        exact ⟨⟨i + 1, v, by omega, by simp, HB1, HZ, HY, HR3⟩, by simp [intOf]; omega⟩
      have d2 := HM1.out k hkt
      have hq := HLE.out i k hlt hkt
      have HE0 := Lib.hid (HWA.out i k hkt)
      obtain ⟨y0, y1⟩ := HY.out.box
      have a1 := HY.out.box.a1
      have hzr : w.heap.size + 1 < wr.heap.size := HY.out.lt
      clear HLE HWA
      by_cases hi0 : i = 0
      · have b4 : ((i : Int) == 0) = true := by rw [hi0]; rfl
        have HE := Lib.hid (show wholeF (m + 1) (i * (m + 1) + k) = 0 by rw [HE0.out, if_pos (.inl hi0)])
        clear HE0 hi0
        go_wp2_with
          (first
            | (at_builtin
               refine wpList_append_cells _ rfl _ _ 22 rfl (w.heap.size + 2) 2 ia (.int .i64 0) 1 8 Try.underlying22 hia hza hsa hba rfl (by decide) v (i * (m + 1) + k) _ rfl (HR.out.alloc _).own
                 (some ⟨wr.heap.size, 0, none⟩) 1 1 (fun _ => .int .i64 0) rfl (cells_lit1 rfl) (fun j _ => rfl) (by unfold maxLen; omega) (by omega) (by have := HY.out.lt; simp <;> omega) ?_
               intro v1 w2 hown hgrow hwhere
               have HR2 := Lib.hid (show RowV w2 (w.heap.size + 2) 2 1 v1 (i * (m + 1) + k + 1) (fun i => .int .i64 (wholeF (m + 1) i)) (w.heap.size + 1) from
                 ⟨by rw [listV_one (V := fun i => .int .i64 (wholeF (m + 1) i)) (by rw [HE.out])] at hown; exact hown,
                  fun e => by rcases hwhere with h | h
                              · exact HR.out.ne (h ▸ e)
                              · have := HY.out.lt; rw [h] at e; simp at e; omega⟩)
               have HY2 := Lib.hid (BoxF2.grown (HY.out.alloc _) hgrow (fun e => HR.out.ne e.symm))
               have HZ2 := Lib.hid (BoxF2.grown (HZ.out.alloc _) hgrow (fun e => by have := (HR.out.own.lt _ e.symm).1; omega))
               have HB2 := Lib.hid (show Below w.heap.size w w2 from Below.grown (Below.alloc HB1.out HB1.out.size _) hgrow (by have := HB1.out.size; simp; omega) (fun j hj => by have := (HR.out.own.lt j hj).1; omega))
               obtain ⟨A1, c1, g1, rfl, -⟩ := HR2.out.ownC
               have zz2 := HY2.out.fz 1
               obtain ⟨w20, w21⟩ := HY2.out.box
               clear hown hgrow hwhere)
            | go_in)
        exact ⟨⟨k + 1, _, by omega, by simp, HB2.out.setCell (by simp) _, HZ2.out.far (by omega), HY2.out.set1, HR2.out.setP 1 _⟩, by simp [intOf]; omega⟩
      have b4 : ((i : Int) == 0) = false := beq_eq_false_iff_ne.2 (by omega)
      by_cases hik : i = k
      · have b5 : ((i : Int) == (k : Int)) = true := by rw [hik]; exact beq_self_eq_true _
        have HE := Lib.hid (show wholeF (m + 1) (i * (m + 1) + k) = 0 by rw [HE0.out, if_pos (.inr hik)])
        clear HE0 hi0 hik
        go_wp2_with
          (first
            | (at_builtin
               refine wpList_append_cells _ rfl _ _ 22 rfl (w.heap.size + 2) 2 ia (.int .i64 0) 1 8 Try.underlying22 hia hza hsa hba rfl (by decide) v (i * (m + 1) + k) _ rfl (HR.out.alloc _).own
                 (some ⟨wr.heap.size, 0, none⟩) 1 1 (fun _ => .int .i64 0) rfl (cells_lit1 rfl) (fun j _ => rfl) (by unfold maxLen; omega) (by omega) (by have := HY.out.lt; simp <;> omega) ?_
               intro v1 w2 hown hgrow hwhere
               have HR2 := Lib.hid (show RowV w2 (w.heap.size + 2) 2 1 v1 (i * (m + 1) + k + 1) (fun i => .int .i64 (wholeF (m + 1) i)) (w.heap.size + 1) from
                 ⟨by rw [listV_one (V := fun i => .int .i64 (wholeF (m + 1) i)) (by rw [HE.out])] at hown; exact hown,
                  fun e => by rcases hwhere with h | h
                              · exact HR.out.ne (h ▸ e)
                              · have := HY.out.lt; rw [h] at e; simp at e; omega⟩)
               have HY2 := Lib.hid (BoxF2.grown (HY.out.alloc _) hgrow (fun e => HR.out.ne e.symm))
               have HZ2 := Lib.hid (BoxF2.grown (HZ.out.alloc _) hgrow (fun e => by have := (HR.out.own.lt _ e.symm).1; omega))
               have HB2 := Lib.hid (show Below w.heap.size w w2 from Below.grown (Below.alloc HB1.out HB1.out.size _) hgrow (by have := HB1.out.size; simp; omega) (fun j hj => by have := (HR.out.own.lt j hj).1; omega))
               obtain ⟨A1, c1, g1, rfl, -⟩ := HR2.out.ownC
               have zz2 := HY2.out.fz 1
               obtain ⟨w20, w21⟩ := HY2.out.box
               clear hown hgrow hwhere)
            | go_in)
        exact ⟨⟨k + 1, _, by omega, by simp, HB2.out.setCell (by simp) _, HZ2.out.far (by omega), HY2.out.set1, HR2.out.setP 1 _⟩, by simp [intOf]; omega⟩
      · have b5 : ((i : Int) == (k : Int)) = false := beq_eq_false_iff_ne.2 (by omega)
        have HE := Lib.hid (show wholeF (m + 1) (i * (m + 1) + k) = 1000000000 by rw [HE0.out, if_neg (by omega)])
        clear HE0 hi0 hik
        go_wp2_with
          (first
            | (at_builtin
               refine wpList_append_cells _ rfl _ _ 22 rfl (w.heap.size + 2) 2 ia (.int .i64 0) 1 8 Try.underlying22 hia hza hsa hba rfl (by decide) v (i * (m + 1) + k) _ rfl (HR.out.alloc _).own
                 (some ⟨wr.heap.size, 0, none⟩) 1 1 (fun _ => .int .i64 1000000000) rfl (cells_lit1 rfl) (fun j _ => rfl) (by unfold maxLen; omega) (by omega) (by have := HY.out.lt; simp <;> omega) ?_
               intro v1 w2 hown hgrow hwhere
               have HR2 := Lib.hid (show RowV w2 (w.heap.size + 2) 2 1 v1 (i * (m + 1) + k + 1) (fun i => .int .i64 (wholeF (m + 1) i)) (w.heap.size + 1) from
                 ⟨by rw [listV_one (V := fun i => .int .i64 (wholeF (m + 1) i)) (by rw [HE.out])] at hown; exact hown,
                  fun e => by rcases hwhere with h | h
                              · exact HR.out.ne (h ▸ e)
                              · have := HY.out.lt; rw [h] at e; simp at e; omega⟩)
               have HY2 := Lib.hid (BoxF2.grown (HY.out.alloc _) hgrow (fun e => HR.out.ne e.symm))
               have HZ2 := Lib.hid (BoxF2.grown (HZ.out.alloc _) hgrow (fun e => by have := (HR.out.own.lt _ e.symm).1; omega))
               have HB2 := Lib.hid (show Below w.heap.size w w2 from Below.grown (Below.alloc HB1.out HB1.out.size _) hgrow (by have := HB1.out.size; simp; omega) (fun j hj => by have := (HR.out.own.lt j hj).1; omega))
               obtain ⟨A1, c1, g1, rfl, -⟩ := HR2.out.ownC
               have zz2 := HY2.out.fz 1
               obtain ⟨w20, w21⟩ := HY2.out.box
               clear hown hgrow hwhere)
            | go_in)
        exact ⟨⟨k + 1, _, by omega, by simp, HB2.out.setCell (by simp) _, HZ2.out.far (by omega), HY2.out.set1, HR2.out.setP 1 _⟩, by simp [intOf]; omega⟩
end Go.Proofs.Ytfpombhhnojjhaa
