/- Whether a zone holds for times: the reference. -/
import Derived.Test.YtpelmfanchkpeaaZonK
set_option linter.unusedVariables false
set_option linter.unusedSimpArgs false
namespace Go.Proofs.Ytpelmfanchkpeaa
open Go.RowKit
theorem validZ_k {k n : Nat} {f : Nat → Int} (h : validZ (k : Int) n f = true) : 1 ≤ k ∧ k ≤ 4 ∧ n = (k + 1) * (k + 1) ∧ ∀ p, p < n → f p ≤ 1000000 ∨ f p = 1000000000 := by
  have hn := validZ_n' h
  unfold validZ at h
  rw [Bool.and_eq_true] at h
  have := inB_iff.1 h.1
  have e : ((k : Int) + 1).toNat = k + 1 := by omega
  rw [e] at hn
  refine ⟨by omega, by omega, hn, fun p hp => ?_⟩
  have := okB_iff.1 ((okZ_iff.1 h.2).2.1 p hp)
  omega
theorem box2_grown2 {w w' : World} {p : Nat} {v0 v1 : Value} {row : Option Nat} (h : Box2 w p v0 v1) (hg : w.grownBy w' row) (hne : some p ≠ row) : Box2 w' p v0 v1 :=
  ⟨(World.cell?_of_block (hg.block p h.lt hne)).trans h.c0, (World.cell?_of_block (hg.block p h.lt hne)).trans h.c1⟩
set_option maxRecDepth 20000 in
set_option maxHeartbeats 8000000 in
theorem specHoldsIn_any (s : Int) (A : Option Addr) (n c : Nat) (f : Nat → Int) (B : Option Addr) (k d : Nat) (t : Nat → Int) (w : World) (hn : n ≤ 1048576) (hA : Cells w A n (fun i => .int .i64 (f i))) (hk : k ≤ 1048576) (hB : Cells w B k (fun i => .int .i64 (t i))) :
    Calls Try.prog 39 #[.agg #[.int .i64 s, .slice A n c], .slice B k d] w fun e w' => e = .returned (.tuple #[.bool (holdV s n f k t), .bool (holdOk s n f k t)]) ∧ Below w.heap.size w w' := by
  obtain ⟨ia, hia, hza, hsa, hba⟩ := info_parts infoCI
  have HA := Lib.hid hA
  have HB := Lib.hid hB
  have HVA := Lib.hid (fun P W h b => l07Zone_any P s A n c f W hn h b)
  have HU := Lib.hid (show holdOk s n f k t = (validZ s n f && (decide ((k : Int) = s) && allP (fun x => inB x 0 1000000) t k)) from rfl)
  have HV := Lib.hid (show holdV s n f k t = (holdOk s n f k t && allP (holdP (k + 1) t f) id n) from rfl)
  have X := Lib.hid (Box2.new w 41 (.int .i64 s) (.slice A n c))
  obtain ⟨x0, x1⟩ := X.out
  clear hA hB
  generalize holdOk s n f k t = ro at *
  generalize holdV s n f k t = rv at *
  cases hv : validZ s n f
  · rw [hv] at HVA HU
    obtain rfl : ro = false := by rw [HU.out]; rfl
    obtain rfl : rv = false := by rw [HV.out]; rfl
    clear hv HU HV
    go_enter Try.func39, Try.ntmps39
    go_wp2_with fail
    refine (HVA.out w.heap.size _ (HA.out.below (by repeat (first | with_reducible exact Below.refl _ _ | exact Hid.out (by with_reducible assumption) | refine Below.setCell ?_ (by simp <;> omega) _ | refine below_alloc ?_ _ | refine Below.alloc ?_ (by simp <;> omega) _ | refine Below.drew ?_ | refine below_drewN ?_ _ | exact Below.refl _ _))) X.out).mono ?_
    rintro e w' ⟨rfl, rfl⟩
    go_wp2_with fail
    refine bodyPost_ret (v := .tuple #[.bool false, .bool false]) (by simp [results, Try.results39, go_sem]) rfl ⟨rfl, (by repeat (first | with_reducible exact Below.refl _ _ | exact Hid.out (by with_reducible assumption) | refine Below.setCell ?_ (by simp <;> omega) _ | refine below_alloc ?_ _ | refine Below.alloc ?_ (by simp <;> omega) _ | refine Below.drew ?_ | refine below_drewN ?_ _ | exact Below.refl _ _))⟩
  by_cases hs : (k : Int) = s
  rotate_left
  · have b1 : ((k : Int) != s) = true := bne_iff_ne.2 hs
    rw [hv] at HVA HU
    obtain rfl : ro = false := by rw [HU.out, decide_eq_false hs]; rfl
    obtain rfl : rv = false := by rw [HV.out]; rfl
    clear hv HU HV hs
    go_enter Try.func39, Try.ntmps39
    go_wp2_with fail
    refine (HVA.out w.heap.size _ (HA.out.below (by repeat (first | with_reducible exact Below.refl _ _ | exact Hid.out (by with_reducible assumption) | refine Below.setCell ?_ (by simp <;> omega) _ | refine below_alloc ?_ _ | refine Below.alloc ?_ (by simp <;> omega) _ | refine Below.drew ?_ | refine below_drewN ?_ _ | exact Below.refl _ _))) X.out).mono ?_
    rintro e w' ⟨rfl, rfl⟩
    go_wp2_with fail
    refine bodyPost_ret (v := .tuple #[.bool false, .bool false]) (by simp [results, Try.results39, go_sem]) rfl ⟨rfl, (by repeat (first | with_reducible exact Below.refl _ _ | exact Hid.out (by with_reducible assumption) | refine Below.setCell ?_ (by simp <;> omega) _ | refine below_alloc ?_ _ | refine Below.alloc ?_ (by simp <;> omega) _ | refine Below.drew ?_ | refine below_drewN ?_ _ | exact Below.refl _ _))⟩
  subst hs
  obtain ⟨hk1, hk4, hq, hle⟩ := validZ_k hv
  rw [hv] at HVA HU
  have HU2 := Lib.hid (show ro = allP (fun x => inB x 0 1000000) t k by rw [HU.out, decide_eq_true rfl]; rfl)
  have HNO := Lib.hid (show ∀ j, j < k → inB (t j) 0 1000000 = false → ro = false from fun j hj h => by rw [HU2.out]; exact allP_no hj h)
  have HYES := Lib.hid (show (∀ j, j < k → inB (t j) 0 1000000 = true) → ro = true from fun h => by rw [HU2.out]; exact allP_iff.2 h)
  have HV2 := Lib.hid (show ro = true → rv = allP (holdP (k + 1) t f) id n from fun h => by rw [HV.out, h]; rfl)
  have HRF := Lib.hid (show ro = false → rv = false from fun h => by rw [HV.out, h]; rfl)
  have HAL := Lib.hid (show (∀ j, j < k → inB (t j) 0 1000000 = true) → ∀ j, j < k + 1 → 0 ≤ allT t j ∧ allT t j ≤ 1000000 from fun h j hj => allT_le (allP_iff.2 h) j hj)
  have HP1 := Lib.hid (fun h => hold_all (M := k + 1) (n := n) (t := t) (f := f) hq (by omega) h)
  have HP2 := Lib.hid (fun i j hi hj h => hold_no (M := k + 1) (n := n) (i := i) (j := j) (t := t) (f := f) hq hi hj h)
  have HI := Lib.hid (show ∀ i : Nat, i < k + 1 → ∃ q : Int, IntKind.i64.wrap ((i : Int) * ((k + 1 : Nat) : Int)) = q ∧ ∀ j : Nat, j < k + 1 → IntKind.i64.wrap (q + (j : Int)) = ((i * (k + 1) + j : Nat) : Int) ∧ i * (k + 1) + j < n from fun i hi => by
    refine ⟨_, (idx_wrap (m := k) (i := i) (k := 0) hk4 (by omega) (by omega)).2.1, fun j hj => ?_⟩
    obtain ⟨-, -, e3, e4, -⟩ := idx_wrap (m := k) (i := i) (k := j) hk4 (by omega) (by omega)
    exact ⟨e3, by rw [hq]; exact e4⟩)
  have HFL := Lib.hid (fun p (hp : p < n) => hle p hp)
  have hn25 : n ≤ 25 := by rw [hq]; exact (idx_wrap (m := k) (i := 0) (k := 0) hk4 (by omega) (by omega)).2.2.2.2
  have hwk : ∀ j : Nat, allT t (j + 1) = t j := fun j => rfl
  have HWK := Lib.hid hwk
  clear hv HU HV hq hle HU2 hwk
  generalize allP (holdP (k + 1) t f) id n = al at *
  have X2 := Lib.hid (X.out.alloc (.cells #[.int .i64 0] 2))
  go_enter Try.func39, Try.ntmps39
  go_wp2_with fail
  refine (HVA.out w.heap.size _ (HA.out.below (by repeat (first | with_reducible exact Below.refl _ _ | exact Hid.out (by with_reducible assumption) | refine Below.setCell ?_ (by simp <;> omega) _ | refine below_alloc ?_ _ | refine Below.alloc ?_ (by simp <;> omega) _ | refine Below.drew ?_ | refine below_drewN ?_ _ | exact Below.refl _ _))) X.out).mono ?_
  rintro e w' ⟨rfl, rfl⟩
  go_wp2_with fail
  clear x0 x1
  go_loopw [6, 24] (fun av iv wr => ∃ (j : Nat) (v : Value), j ≤ k ∧ iv = .int .i64 j ∧ v = av ∧ Hid (Below w.heap.size w wr) ∧ Hid (Box2 wr w.heap.size (.int .i64 (k : Int)) (.slice A n c)) ∧ Hid (wr.ownsRow (w.heap.size + 1) 2 1 v (j + 1) (listV ((j + 1) * 1) (fun i => .int .i64 (allT t i)))) ∧ Hid (∀ i, i < j → inB (t i) 0 1000000 = true)) (fun _ iv _ => k - (intOf iv).toNat)
  case atStart => exact ⟨0, _, Nat.zero_le _, rfl, rfl, (by repeat (first | with_reducible exact Below.refl _ _ | exact Hid.out (by with_reducible assumption) | refine Below.setCell ?_ (by simp <;> omega) _ | refine below_alloc ?_ _ | refine Below.alloc ?_ (by simp <;> omega) _ | refine Below.drew ?_ | refine below_drewN ?_ _ | exact Below.refl _ _)), X2, (by unfold Hid; simpa [listV, allT] using World.ownsRow_lit (w.alloc (.cells #[.int .i64 (k : Int), .slice A n c] 41)) #[.int .i64 0] (base := w.heap.size + 1) 1 (by simp) (by unfold maxLen; omega) rfl), fun i hi => by omega⟩
  case round =>
    obtain ⟨j, v, hj, rfl, rfl, HB0, CX, HO, HT⟩ := hrel
    obtain ⟨x0, x1⟩ := CX.out
    by_cases hlt : j < k
    · have d1 : (j : Int) < k := by omega
      obtain ⟨y, rfl, hy0⟩ := (HB.out.below HB0.out) j hlt
      have hy : wr.cell? (y.add j) = some (.int .i64 (t j)) := hy0
      have HNj := Lib.hid (HNO.out j hlt)
      have HTj := Lib.hid (show inB (t j) 0 1000000 = true → ∀ i, i < j + 1 → inB (t i) 0 1000000 = true from fun e i hi => by
        rcases Nat.lt_or_ge i j with h | h
        · exact HT.out i h
        · have : i = j := by omega
          subst this
          exact e)
      have HE := Lib.hid (HWK.out j)
      have hsz : w.heap.size < wr.heap.size := CX.out.lt
      clear hy0 HT HNO HYES
      generalize t j = u at *
      have H0 := Lib.hid (fun W => l00In_any u 0 1000000 W)
      cases hb : inB u 0 1000000
      · rw [hb] at H0
        have HR := Lib.hid (HNj.out hb)
        have HR2 := Lib.hid (HRF.out HR.out)
        clear hb HNj HTj
        go_wp2_with fail
        refine (H0.out _).mono ?_
        rintro e w' ⟨rfl, rfl⟩
        go_wp2_with fail
        refine bodyPost_ret (v := .tuple #[.bool false, .bool false]) (by simp [results, Try.results39, go_sem]) rfl ⟨by rw [HR.out, HR2.out], (by repeat (first | with_reducible exact Below.refl _ _ | exact Hid.out (by with_reducible assumption) | refine Below.setCell ?_ (by simp <;> omega) _ | refine below_alloc ?_ _ | refine Below.alloc ?_ (by simp <;> omega) _ | refine Below.drew ?_ | refine below_drewN ?_ _ | exact Below.refl _ _))⟩
      · rw [hb] at H0
        have HT2 := Lib.hid (HTj.out hb)
        clear hb HNj HTj
        go_wp2_with fail
        refine (H0.out _).mono ?_
        rintro e w' ⟨rfl, rfl⟩
        go_wp2_with (first
          | (at_builtin
             refine wpList_append_cells _ rfl _ _ 22 rfl (w.heap.size + 1) 2 ia (.int .i64 0) 1 8 Try.underlying22 hia hza hsa hba rfl (by decide) v (j + 1) _ rfl (HO.out.alloc _)
               (some ⟨wr.heap.size, 0, none⟩) 1 1 (fun _ => .int .i64 u) rfl (cells_lit1 rfl) (fun j _ => rfl) (by unfold maxLen; omega) (by omega) (by simp <;> omega) ?_
             intro v1 w2 hown hgrow hwhere
             have HO2 := Lib.hid (show w2.ownsRow (w.heap.size + 1) 2 1 v1 (j + 1 + 1) (listV ((j + 1 + 1) * 1) (fun i => .int .i64 (allT t i))) by rw [listV_one (V := fun i => .int .i64 (allT t i)) (by rw [HE.out])] at hown; exact hown)
             have HB2 := Lib.hid (show Below w.heap.size w w2 from Below.grown (Below.alloc HB0.out HB0.out.size _) hgrow (by have := HB0.out.size; simp; omega) (fun j hj => by have := (HO.out.lt j hj).1; omega))
             have CX2 := Lib.hid (box2_grown2 (CX.out.alloc _) hgrow (fun e => by have := (HO.out.lt _ e.symm).1; omega))
             clear hown hgrow hwhere)
          | go_in)
        exact ⟨⟨j + 1, v1, by omega, by simp, rfl, HB2, CX2, HO2, HT2⟩, by simp [intOf]; omega⟩
    have d1 : ¬ (j : Int) < k := by omega
    obtain rfl : k = j := by omega
    have HRO := Lib.hid (HYES.out HT.out)
    have HRV := Lib.hid (HV2.out HRO.out)
    have HALL := Lib.hid (HAL.out HT.out)
    obtain ⟨T1, c1, g1, rfl, hg1, ho1⟩ := OwnC.of_rowV HO.out
    have C5 := Lib.hid (show Cells wr T1 (k + 1) (fun j => .int .i64 (allT t j)) from Cells.congr (by have := ho1.cells; rw [Nat.mul_one] at this; exact this) fun j hj => listV_getD _ (by omega))
    have CF := Lib.hid (HA.out.below HB0.out)
    clear HO ho1 HNO HYES HRF HV2 HAL HT hg1 x0 x1
    generalize hkk : k + 1 = M at *
    have HMk := Lib.hid hkk
    have hM5 : M ≤ 5 := by omega
    clear hkk
    generalize wr = wo at *
    go_wp2_with fail
    go_loopw [8, 43] (fun hb ii wz => ∃ (i : Nat) (q : Bool), Hid (Below wo.heap.size wo wz) ∧ i ≤ M ∧ ii = .int .i64 i ∧ hb = .bool q ∧ Hid (q = true → ∀ a, a < i → ∀ b, b < M → allT t a - allT t b ≤ f (a * M + b)) ∧ Hid (q = false → al = false)) (fun _ ii _ => M - (intOf ii).toNat)
    case atStart => exact ⟨0, true, Below.refl _ _, Nat.zero_le _, rfl, rfl, fun _ a ha => by omega, fun h => by cases h⟩
    case round =>
      obtain ⟨i, q, HBz, hi, rfl, rfl, HP, HQ⟩ := hrel
      have HFz := Lib.hid (HB0.out.trans (HBz.out.mono HB0.out.size))
      by_cases hit : i < M
      rotate_left
      · have d2 : ¬ (i : Int) < M := by omega
        obtain rfl : i = M := by omega
        have HR := Lib.hid (show rv = q by
          rw [HRV.out]
          cases q
          · exact HQ.out rfl
          · exact HP1.out (HP.out rfl))
        go_wp2_with fail
        refine bodyPost_ret (v := .tuple #[.bool q, .bool true]) (by simp [results, Try.results39, go_sem]) rfl ⟨by rw [HR.out, HRO.out], (by repeat (first | with_reducible exact Below.refl _ _ | exact Hid.out (by with_reducible assumption) | refine Below.setCell ?_ (by simp <;> omega) _ | refine below_alloc ?_ _ | refine Below.alloc ?_ (by simp <;> omega) _ | refine Below.drew ?_ | refine below_drewN ?_ _ | exact Below.refl _ _))⟩
      have d2 : (i : Int) < M := by omega
      have HPi := Lib.hid (show (q = true → ∀ a, a < i → ∀ b, b < M → allT t a - allT t b ≤ f (a * M + b)) from HP.out)
      go_wp2_with fail
      go_loopw [8, 48] (fun hb jj wz => ∃ (j : Nat) (q2 : Bool), Hid (Below wo.heap.size wo wz) ∧ j ≤ M ∧ jj = .int .i64 j ∧ hb = .bool q2 ∧ Hid (q2 = true → (∀ a, a < i → ∀ b, b < M → allT t a - allT t b ≤ f (a * M + b)) ∧ ∀ b, b < j → allT t i - allT t b ≤ f (i * M + b)) ∧ Hid (q2 = false → al = false)) (fun _ jj _ => M - (intOf jj).toNat)
      case atStart => exact ⟨0, q, HBz, Nat.zero_le _, rfl, rfl, fun h => ⟨HPi.out h, fun b hb => by omega⟩, HQ⟩
      case round =>
        clear HP HQ HPi
        obtain ⟨j, q2, HBy, hj, rfl, rfl, HP, HQ⟩ := hrel
        by_cases hjt : j < M
        rotate_left
        · have d3 : ¬ (j : Int) < M := by omega
          obtain rfl : j = M := by omega
          have HPn := Lib.hid (show q2 = true → ∀ a, a < i + 1 → ∀ b, b < j → allT t a - allT t b ≤ f (a * j + b) from fun h a ha => by
            rcases Nat.lt_or_ge a i with h2 | h2
            · exact (HP.out h).1 a h2
            · have : a = i := by omega
              subst this
              exact (HP.out h).2)
          go_wp2_with fail
          exact ⟨⟨i + 1, q2, HBy, by omega, by simp, rfl, HPn, HQ⟩, by simp [intOf]; omega⟩
        have d3 : (j : Int) < M := by omega
        obtain ⟨qi, e1, hqi⟩ := HI.out i hit
        obtain ⟨e2, hpos⟩ := hqi j hjt
        obtain ⟨y1, rfl, hy1⟩ := (C5.out.below HBy.out) i hit
        obtain ⟨yy, hyy, hy2⟩ := (C5.out.below HBy.out) j hjt
        cases hyy
        obtain ⟨z, rfl, hz1⟩ := (CF.out.below HBy.out) _ hpos
        obtain ⟨x0, x1⟩ := CX.out.below HBy.out
        have hfl := HFL.out _ hpos
        obtain ⟨a1, a2⟩ := HALL.out i hit
        obtain ⟨b1, b2⟩ := HALL.out j hjt
        have HN := Lib.hid (HP2.out i j hit hjt)
        have HY := Lib.hid (show q2 = true → allT t i - allT t j ≤ f (i * M + j) → (∀ a, a < i → ∀ b, b < M → allT t a - allT t b ≤ f (a * M + b)) ∧ ∀ b, b < j + 1 → allT t i - allT t b ≤ f (i * M + b) from fun h e => ⟨(HP.out h).1, fun b hb => by
          rcases Nat.lt_or_ge b j with h2 | h2
          · exact (HP.out h).2 b h2
          · have : b = j := by omega
            subst this
            exact e⟩)
        dsimp only at hy1 hy2 hz1
        have d4 : ((i * M + j : Nat) : Int) < n := by omega
        clear HP hqi HI HALL HP1 HP2 HFL
        generalize allT t i = u1 at *
        generalize allT t j = u2 at *
        generalize f (i * M + j) = u3 at *
        generalize i * M + j = pos at *
        obtain ⟨df, hdf⟩ : ∃ df, df = u1 - u2 := ⟨_, rfl⟩
        have e3 : IntKind.i64.wrap (u1 - u2) = df := by rw [hdf, IntKind.wrap_i64]; omega
        rw [← hdf] at HN HY
        have hdf2 : df ≤ 1000000 := by omega
        clear hdf a1 a2 b1 b2
        by_cases hnb : u3 = 1000000000
        · have c1 : (u3 != 1000000000) = false := by rw [hnb]; rfl
          have HT := Lib.hid (fun h => HY.out h (by omega))
          clear HN HY hnb hfl
          go_wp2_with fail
          go_quiet (fail)
          go_wp2_with fail
          exact ⟨⟨j + 1, q2, (by repeat (first | with_reducible exact Below.refl _ _ | exact Hid.out (by with_reducible assumption) | refine Below.setCell ?_ (by simp <;> omega) _ | refine below_alloc ?_ _ | refine Below.alloc ?_ (by simp <;> omega) _ | refine Below.drew ?_ | refine below_drewN ?_ _ | exact Below.refl _ _)), by omega, by simp, rfl, HT, HQ⟩, by simp [intOf]; omega⟩
        have c1 : (u3 != 1000000000) = true := bne_iff_ne.2 hnb
        by_cases hdle : df ≤ u3
        · have d5 : ¬ u3 < df := by omega
          have HT := Lib.hid (fun h => HY.out h hdle)
          clear HN HY hnb hfl
          go_wp2_with fail
          go_quiet (fail)
          go_wp2_with fail
          exact ⟨⟨j + 1, q2, (by repeat (first | with_reducible exact Below.refl _ _ | exact Hid.out (by with_reducible assumption) | refine Below.setCell ?_ (by simp <;> omega) _ | refine below_alloc ?_ _ | refine Below.alloc ?_ (by simp <;> omega) _ | refine Below.drew ?_ | refine below_drewN ?_ _ | exact Below.refl _ _)), by omega, by simp, rfl, HT, HQ⟩, by simp [intOf]; omega⟩
        · have d5 : u3 < df := by omega
          have HF := Lib.hid (HN.out d5)
          clear HN HY hnb hfl
          go_wp2_with fail
          go_quiet (fail)
          go_wp2_with fail
          exact ⟨⟨j + 1, false, (by repeat (first | with_reducible exact Below.refl _ _ | exact Hid.out (by with_reducible assumption) | refine Below.setCell ?_ (by simp <;> omega) _ | refine below_alloc ?_ _ | refine Below.alloc ?_ (by simp <;> omega) _ | refine Below.drew ?_ | refine below_drewN ?_ _ | exact Below.refl _ _)), by omega, by simp, rfl, fun h => (by cases h), fun _ => HF.out⟩, by simp [intOf]; omega⟩
end Go.Proofs.Ytpelmfanchkpeaa
