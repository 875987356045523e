/- Whether a zone holds for times, on both sides. -/
import Derived.Test.YtpelmfanchkpeaaZonH
import Derived.Test.YtpelmfanchkpeaaZonW
import Derived.Test.YtpelmfanchkpeaaAreA
set_option linter.unusedVariables false
set_option linter.unusedSimpArgs false
namespace Go.Proofs.Ytpelmfanchkpeaa
open Go.RowKit
/-- The times with that of 0. -/
def allT (t : Nat → Int) (j : Nat) : Int := if j = 0 then 0 else t (j - 1)
def holdP (M : Nat) (t f : Nat → Int) (p : Nat) : Bool := decide (allT t (p / M) - allT t (p % M) ≤ f p)
def holdOk (s : Int) (n : Nat) (f : Nat → Int) (k : Nat) (t : Nat → Int) : Bool := validZ s n f && (decide ((k : Int) = s) && allP (fun x => inB x 0 1000000) t k)
def holdV (s : Int) (n : Nat) (f : Nat → Int) (k : Nat) (t : Nat → Int) : Bool := holdOk s n f k t && allP (holdP (k + 1) t f) id n
theorem allT_le {k : Nat} {t : Nat → Int} (h : allP (fun x => inB x 0 1000000) t k = true) (j : Nat) (hj : j < k + 1) : 0 ≤ allT t j ∧ allT t j ≤ 1000000 := by
  unfold allT
  split
  · omega
  · exact inB_iff.1 (allP_iff.1 h (j - 1) (by omega))
theorem div_at {M i j : Nat} (hj : j < M) : (i * M + j) / M = i ∧ (i * M + j) % M = j := by
  constructor
  · rw [Nat.mul_comm, Nat.mul_add_div (by omega), Nat.div_eq_of_lt hj, Nat.add_zero]
  · rw [Nat.mul_comm, Nat.mul_add_mod, Nat.mod_eq_of_lt hj]
theorem hold_all {M n : Nat} {t f : Nat → Int} (hn : n = M * M) (hM : 0 < M) (h : ∀ i, i < M → ∀ j, j < M → allT t i - allT t j ≤ f (i * M + j)) : allP (holdP M t f) id n = true := by
  refine allP_iff.2 fun p hp => decide_eq_true ?_
  have e : p / M * M + p % M = p := by rw [Nat.mul_comm]; exact Nat.div_add_mod p M
  have := h (p / M) (Nat.div_lt_of_lt_mul (by rw [← hn]; exact hp)) (p % M) (Nat.mod_lt _ hM)
  rw [e] at this
  exact this
theorem hold_no {M n i j : Nat} {t f : Nat → Int} (hn : n = M * M) (hi : i < M) (hj : j < M) (h : f (i * M + j) < allT t i - allT t j) : allP (holdP M t f) id n = false := by
  refine allP_no (k := i * M + j) (by rw [hn]; exact at_lt hi hj) ?_
  refine decide_eq_false ?_
  simp only [id]
  rw [(div_at hj).1, (div_at hj).2]
  exact Int.not_le.2 h
theorem validZ_n' {s : Int} {n : Nat} {f : Nat → Int} (h : validZ s n f = true) : n = (s + 1).toNat * (s + 1).toNat := by
  unfold validZ at h
  rw [Bool.and_eq_true] at h
  exact (okZ_iff.1 h.2).1
theorem holdOk_facts {s : Int} {n : Nat} {f : Nat → Int} {k : Nat} {t : Nat → Int} (h : holdOk s n f k t = true) : s = (k : Int) ∧ 1 ≤ k ∧ k ≤ 4 ∧ n = (k + 1) * (k + 1) ∧ allP (fun x => inB x 0 1000000) t k = true ∧ ∀ p, p < n → f p ≤ 1000000 ∨ f p = 1000000000 := by
  unfold holdOk at h
  rw [Bool.and_eq_true, Bool.and_eq_true, decide_eq_true_eq] at h
  obtain ⟨h1, h2, h3⟩ := h
  have hn := validZ_n' h1
  unfold validZ at h1
  rw [Bool.and_eq_true] at h1
  have := inB_iff.1 h1.1
  have e : (s + 1).toNat = k + 1 := by omega
  rw [e] at hn
  refine ⟨h2.symm, by omega, by omega, hn, h3, fun p hp => ?_⟩
  have := okB_iff.1 ((okZ_iff.1 h1.2).2.1 p hp)
  omega
set_option maxRecDepth 20000 in
set_option maxHeartbeats 8000000 in
theorem implHoldsIn_any (s : Int) (A : Option Addr) (n c : Nat) (f : Nat → Int) (B : Option Addr) (k d : Nat) (t : Nat → Int) (w : World) (hn : n ≤ 1048576) (hA : Cells w A n (fun i => .int .i64 (f i))) (hk : k ≤ 1048576) (hB : Cells w B k (fun i => .int .i64 (t i))) :
    Calls Try.prog 41 #[.agg #[.int .i64 s, .slice A n c], .slice B k d] w fun e w' => e = .returned (.tuple #[.bool (holdV s n f k t), .bool (holdOk s n f k t)]) ∧ Below w.heap.size w w' := by
  obtain ⟨ia, hia, hza, hsa, hba⟩ := info_parts infoCI
  have HA := Lib.hid hA
  have HB := Lib.hid hB
  have HVA := Lib.hid (fun W h => implValidZone_any s A n c f W hn h)
  have HAR := Lib.hid (fun W h => areAll_any B k d t s 1000000 W hk h)
  have HU := Lib.hid (show holdOk s n f k t = (validZ s n f && mostB s 1000000 k t) from rfl)
  have HV := Lib.hid (show holdV s n f k t = (holdOk s n f k t && allP (holdP (k + 1) t f) id n) from rfl)
  have HF := Lib.hid (fun (h : holdOk s n f k t = true) => holdOk_facts h)
  have X := Lib.hid (Box2.new w 41 (.int .i64 s) (.slice A n c))
  obtain ⟨x0, x1⟩ := X.out
  clear hA hB
  generalize hro : holdOk s n f k t = ro at *
  generalize holdV s n f k t = rv at *
  cases hv : validZ s n f
  · rw [hv] at HVA HU
    obtain rfl : ro = false := by rw [HU.out]; rfl
    obtain rfl : rv = false := by rw [HV.out]; rfl
    clear hv HF HU HV hro
    go_enter Try.func41, Try.ntmps41
    go_wp2_with fail
    refine (HVA.out _ (HA.out.below (by repeat (first | with_reducible exact Below.refl _ _ | exact Hid.out (by with_reducible assumption) | refine Below.setCell ?_ (by simp <;> omega) _ | refine below_alloc ?_ _ | refine Below.alloc ?_ (by simp <;> omega) _ | refine Below.drew ?_ | refine below_drewN ?_ _ | exact Below.refl _ _)))).mono ?_
    rintro e w3 ⟨rfl, hb3⟩
    have N3 := Lib.hid (show Below w.heap.size w w3 from Below.trans (by repeat (first | with_reducible exact Below.refl _ _ | exact Hid.out (by with_reducible assumption) | refine Below.setCell ?_ (by simp <;> omega) _ | refine below_alloc ?_ _ | refine Below.alloc ?_ (by simp <;> omega) _ | refine Below.drew ?_ | refine below_drewN ?_ _ | exact Below.refl _ _)) (hb3.mono (by simp)))
    clear hb3
    go_wp2_with fail
    refine bodyPost_ret (v := .tuple #[.bool false, .bool false]) (by simp [results, Try.results41, go_sem]) rfl ⟨rfl, (by repeat (first | with_reducible exact Below.refl _ _ | exact Hid.out (by with_reducible assumption) | refine Below.setCell ?_ (by simp <;> omega) _ | refine below_alloc ?_ _ | refine Below.alloc ?_ (by simp <;> omega) _ | refine Below.drew ?_ | refine below_drewN ?_ _ | exact Below.refl _ _))⟩
  rw [hv] at HVA HU
  clear hv
  cases hm : mostB s 1000000 k t
  · rw [hm] at HAR HU
    obtain rfl : ro = false := by rw [HU.out]; rfl
    obtain rfl : rv = false := by rw [HV.out]; rfl
    clear hm HF HU HV hro
    go_enter Try.func41, Try.ntmps41
    go_wp2_with fail
    refine (HVA.out _ (HA.out.below (by repeat (first | with_reducible exact Below.refl _ _ | exact Hid.out (by with_reducible assumption) | refine Below.setCell ?_ (by simp <;> omega) _ | refine below_alloc ?_ _ | refine Below.alloc ?_ (by simp <;> omega) _ | refine Below.drew ?_ | refine below_drewN ?_ _ | exact Below.refl _ _)))).mono ?_
    rintro e w3 ⟨rfl, hb3⟩
    have N3 := Lib.hid (show Below w.heap.size w w3 from Below.trans (by repeat (first | with_reducible exact Below.refl _ _ | exact Hid.out (by with_reducible assumption) | refine Below.setCell ?_ (by simp <;> omega) _ | refine below_alloc ?_ _ | refine Below.alloc ?_ (by simp <;> omega) _ | refine Below.drew ?_ | refine below_drewN ?_ _ | exact Below.refl _ _)) (hb3.mono (by simp)))
    have X3 := Lib.hid (X.out.below hb3)
    clear hb3 x0 x1
    obtain ⟨x0, x1⟩ := X3.out
    go_wp2_with fail
    refine (HAR.out _ (HB.out.below (by repeat (first | with_reducible exact Below.refl _ _ | exact Hid.out (by with_reducible assumption) | refine Below.setCell ?_ (by simp <;> omega) _ | refine below_alloc ?_ _ | refine Below.alloc ?_ (by simp <;> omega) _ | refine Below.drew ?_ | refine below_drewN ?_ _ | exact Below.refl _ _)))).mono ?_
    rintro e w4 ⟨rfl, hb4⟩
    have N4 := Lib.hid (show Below w.heap.size w w4 from Below.trans (by repeat (first | with_reducible exact Below.refl _ _ | exact Hid.out (by with_reducible assumption) | refine Below.setCell ?_ (by simp <;> omega) _ | refine below_alloc ?_ _ | refine Below.alloc ?_ (by simp <;> omega) _ | refine Below.drew ?_ | refine below_drewN ?_ _ | exact Below.refl _ _)) (hb4.mono (by have := N3.out.size; first | exact this | (simp; omega))))
    clear hb4
    go_wp2_with fail
    refine bodyPost_ret (v := .tuple #[.bool false, .bool false]) (by simp [results, Try.results41, go_sem]) rfl ⟨rfl, (by repeat (first | with_reducible exact Below.refl _ _ | exact Hid.out (by with_reducible assumption) | refine Below.setCell ?_ (by simp <;> omega) _ | refine below_alloc ?_ _ | refine Below.alloc ?_ (by simp <;> omega) _ | refine Below.drew ?_ | refine below_drewN ?_ _ | exact Below.refl _ _))⟩
  rw [hm] at HAR HU
  obtain rfl : ro = true := by rw [HU.out]; rfl
  obtain ⟨rfl, hk1, hk4, hq, hal, hle⟩ := HF.out rfl
  have HV2 := Lib.hid (show rv = allP (holdP (k + 1) t f) id n by rw [HV.out]; rfl)
  have HP1 := Lib.hid (show (∀ p, p < n → allT t (p / (k + 1)) - allT t (p % (k + 1)) ≤ f p) → allP (holdP (k + 1) t f) id n = true from fun h => allP_iff.2 fun p hp => decide_eq_true (h p hp))
  have HP2 := Lib.hid (show ∀ p, p < n → f p < allT t (p / (k + 1)) - allT t (p % (k + 1)) → allP (holdP (k + 1) t f) id n = false from fun p hp h => allP_no hp (decide_eq_false (Int.not_le.2 h)))
  have HAL := Lib.hid (fun j (hj : j < k + 1) => allT_le hal j hj)
  have HDM := Lib.hid (show ∀ p, p < n → p / (k + 1) < k + 1 ∧ p % (k + 1) < k + 1 ∧ IntKind.i64.wrap ((p : Int).tdiv ((k + 1 : Nat) : Int)) = ((p / (k + 1) : Nat) : Int) ∧ (p : Int).tmod ((k + 1 : Nat) : Int) = ((p % (k + 1) : Nat) : Int) from fun p hp => by
    have h1 : p / (k + 1) < k + 1 := Nat.div_lt_of_lt_mul (by rw [← hq]; exact hp)
    refine ⟨h1, Nat.mod_lt _ (by omega), ?_, (Int.ofNat_tmod _ _).symm⟩
    rw [← Int.ofNat_tdiv, IntKind.wrap_i64]
    have h2 : k + 1 ≤ 5 := by omega
    generalize p / (k + 1) = q at *
    omega)
  have HK0 := Lib.hid (show ∀ j, j < 1 + k → ([Value.int .i64 0] ++ listV (k * 1) (fun i => .int .i64 (t i))).getD j undef = .int .i64 (allT t j) from fun j hj => by
    cases j with
    | zero => rfl
    | succ j =>
      show (listV (k * 1) (fun i => .int .i64 (t i))).getD j undef = _
      rw [listV_getD _ (by omega)]
      rfl)
  have hn25 : n ≤ 25 := by rw [hq]; exact (idx_wrap (m := k) (i := 0) (k := 0) hk4 (by omega) (by omega)).2.2.2.2
  clear hm HF HU HV hro hal hle hq
  generalize allP (holdP (k + 1) t f) id n = al at *
  generalize hkk : k + 1 = M at *
  have hM : ¬ (M : Int) = 0 := by omega
  have hM1 : (1 : Int) ≤ (M : Int) := by omega
  have hM2 : ¬ M = 0 := by omega
  have HMk := Lib.hid hkk
  clear hkk
  go_enter Try.func41, Try.ntmps41
  go_wp2_with fail
  refine (HVA.out _ (HA.out.below (by repeat (first | with_reducible exact Below.refl _ _ | exact Hid.out (by with_reducible assumption) | refine Below.setCell ?_ (by simp <;> omega) _ | refine below_alloc ?_ _ | refine Below.alloc ?_ (by simp <;> omega) _ | refine Below.drew ?_ | refine below_drewN ?_ _ | exact Below.refl _ _)))).mono ?_
  rintro e w3 ⟨rfl, hb3⟩
  have N3 := Lib.hid (show Below w.heap.size w w3 from Below.trans (by repeat (first | with_reducible exact Below.refl _ _ | exact Hid.out (by with_reducible assumption) | refine Below.setCell ?_ (by simp <;> omega) _ | refine below_alloc ?_ _ | refine Below.alloc ?_ (by simp <;> omega) _ | refine Below.drew ?_ | refine below_drewN ?_ _ | exact Below.refl _ _)) (hb3.mono (by simp)))
  have X3 := Lib.hid (X.out.below hb3)
  clear hb3 x0 x1
  obtain ⟨x0, x1⟩ := X3.out
  go_wp2_with fail
  refine (HAR.out _ (HB.out.below (by repeat (first | with_reducible exact Below.refl _ _ | exact Hid.out (by with_reducible assumption) | refine Below.setCell ?_ (by simp <;> omega) _ | refine below_alloc ?_ _ | refine Below.alloc ?_ (by simp <;> omega) _ | refine Below.drew ?_ | refine below_drewN ?_ _ | exact Below.refl _ _)))).mono ?_
  rintro e w4 ⟨rfl, hb4⟩
  have N4 := Lib.hid (show Below w.heap.size w w4 from Below.trans (by repeat (first | with_reducible exact Below.refl _ _ | exact Hid.out (by with_reducible assumption) | refine Below.setCell ?_ (by simp <;> omega) _ | refine below_alloc ?_ _ | refine Below.alloc ?_ (by simp <;> omega) _ | refine Below.drew ?_ | refine below_drewN ?_ _ | exact Below.refl _ _)) (hb4.mono (by have := N3.out.size; first | exact this | (simp; omega))))
  have X4 := Lib.hid (X3.out.below hb4)
  clear hb4 x0 x1
  go_wp2_with (first
    | (at_builtin
       refine wpList_append_cells _ rfl _ _ 22 rfl w4.heap.size 2 ia (.int .i64 0) 1 8 Try.underlying22 hia hza hsa hba rfl (by decide) (.slice (some ⟨w4.heap.size, 0, none⟩) 1 1) 1 [.int .i64 0] rfl (World.ownsRow_lit w4 #[.int .i64 0] 1 (Nat.le_refl _) (by unfold maxLen; omega) rfl)
         B k d (fun i => .int .i64 (t i)) rfl (by rw [Nat.mul_one]; exact HB.out.below (Below.alloc N4.out N4.out.size _)) (fun _ _ => rfl) (by unfold maxLen; omega) (by omega) (by simp) ?_
       intro v1 w5 hown hgrow hwhere
       have N5 := Lib.hid (show Below w4.heap.size w4 w5 from ((Below.refl _ _).alloc (Nat.le_refl _) _).grown hgrow (by simp) (fun j hj => by cases hj; exact Nat.le_refl _))
       obtain ⟨T1, c1, g1, rfl, hg1, ho1⟩ := OwnC.of_rowV hown
       have C5 := Lib.hid (show Cells w5 T1 M (fun j => .int .i64 (allT t j)) from Cells.congr (by have := ho1.cells; rw [Nat.mul_one, Nat.add_comm 1 k, HMk.out] at this; exact this) fun j hj => HK0.out j (by have := HMk.out; omega))
       have X5 := Lib.hid (X4.out.below N5.out)
       have hM1 : 1 + k = M := by have := HMk.out; omega
       rw [hM1]
       obtain ⟨x0, x1⟩ := X5.out
       clear hown hgrow hwhere ho1 hM1)
    | go_in)
  have N6 := Lib.hid (show Below w.heap.size w w5 from N4.out.trans (N5.out.mono N4.out.size))
  have CF := Lib.hid (HA.out.below N6.out)
  go_loopw [25] (fun v wr => ∃ p : Nat, p ≤ n ∧ v = .int .i64 p ∧ Hid (Below w5.heap.size w5 wr) ∧ Hid (∀ j, j < p → allT t (j / M) - allT t (j % M) ≤ f j)) (fun v _ => n - (intOf v).toNat)
  case atStart => exact ⟨0, Nat.zero_le _, rfl, Below.refl _ _, fun j hj => by omega⟩
  case round =>
    obtain ⟨p, hp, rfl, HB0, HH⟩ := hrel
    clear x0 x1
    obtain ⟨x0, x1⟩ := X5.out.below HB0.out
    have HFIN := Lib.hid (show Below w.heap.size w wr from N6.out.trans (HB0.out.mono N6.out.size))
    by_cases hlt : p < n
    rotate_left
    · have d1 : ¬ (p : Int) < n := by omega
      obtain rfl : p = n := by omega
      have HR := Lib.hid (show rv = true by rw [HV2.out]; exact HP1.out HH.out)
      go_wp2_with fail
      refine bodyPost_ret (v := .tuple #[.bool true, .bool true]) (by simp [results, Try.results41, go_sem]) rfl ⟨by rw [HR.out], (by repeat (first | with_reducible exact Below.refl _ _ | exact Hid.out (by with_reducible assumption) | refine Below.setCell ?_ (by simp <;> omega) _ | refine below_alloc ?_ _ | refine Below.alloc ?_ (by simp <;> omega) _ | refine Below.drew ?_ | refine below_drewN ?_ _ | exact Below.refl _ _))⟩
    have d1 : (p : Int) < n := by omega
    obtain ⟨h1, h2, e1, e2⟩ := HDM.out p hlt
    obtain ⟨a1, a2⟩ := HAL.out _ h1
    obtain ⟨b1, b2⟩ := HAL.out _ h2
    obtain ⟨y, rfl, hy1⟩ := (C5.out.below HB0.out) _ h1
    obtain ⟨y2, hy2, hy3⟩ := (C5.out.below HB0.out) _ h2
    cases hy2
    obtain ⟨z, rfl, hz1⟩ := (CF.out.below HB0.out) p hlt
    have HNp := Lib.hid (HP2.out p hlt)
    have HYp := Lib.hid (show allT t (p / M) - allT t (p % M) ≤ f p → ∀ j, j < p + 1 → allT t (j / M) - allT t (j % M) ≤ f j from fun e j hj => by
      rcases Nat.lt_or_ge j p with h | h
      · exact HH.out j h
      · have : j = p := by omega
        subst this
        exact e)
    have e4 : (p : Int) / (M : Int) = ((p / M : Nat) : Int) := rfl
    have e6 : IntKind.i64.wrap ((p / M : Nat) : Int) = ((p / M : Nat) : Int) := by
      rw [IntKind.wrap_i64]
      have hM4 : M ≤ 5 := by have := HMk.out; omega
      generalize p / M = q at *
      omega
    have e5 : (p : Int) % (M : Int) = ((p % M : Nat) : Int) := rfl
    have d2 : ((p / M : Nat) : Int) < M := by omega
    have d3 : ((p % M : Nat) : Int) < M := by omega
    dsimp only at hy1 hy3 hz1
    clear HH HP1 HP2 HAL HDM
    generalize allT t (p / M) = u1 at *
    generalize allT t (p % M) = u2 at *
    generalize f p = u3 at *
    generalize p / M = p1 at *
    generalize p % M = p2 at *
    obtain ⟨df, hdf⟩ : ∃ df, df = u1 - u2 := ⟨_, rfl⟩
    have e3 : IntKind.i64.wrap (u1 - u2) = df := by rw [hdf, IntKind.wrap_i64]; omega
    rw [← hdf] at HNp HYp
    clear hdf a1 a2 b1 b2
    by_cases hle : df ≤ u3
    · have d4 : ¬ u3 < df := by omega
      have HT := Lib.hid (HYp.out hle)
      clear HNp HYp
      go_wp2_with fail
      go_quiet (fail)
      go_wp2_with fail
      exact ⟨⟨p + 1, by omega, by simp, (by repeat (first | with_reducible exact Below.refl _ _ | exact Hid.out (by with_reducible assumption) | refine Below.setCell ?_ (by simp <;> omega) _ | refine below_alloc ?_ _ | refine Below.alloc ?_ (by simp <;> omega) _ | refine Below.drew ?_ | refine below_drewN ?_ _ | exact Below.refl _ _)), HT⟩, by simp [intOf]; omega⟩
    · have d4 : u3 < df := by omega
      have HR := Lib.hid (show rv = false by rw [HV2.out]; exact HNp.out d4)
      clear HNp HYp
      go_wp2_with fail
      go_quiet (fail)
      go_wp2_with fail
      refine bodyPost_ret (v := .tuple #[.bool false, .bool true]) (by simp [results, Try.results41, go_sem]) rfl ⟨by rw [HR.out], (by repeat (first | with_reducible exact Below.refl _ _ | exact Hid.out (by with_reducible assumption) | refine Below.setCell ?_ (by simp <;> omega) _ | refine below_alloc ?_ _ | refine Below.alloc ?_ (by simp <;> omega) _ | refine Below.drew ?_ | refine below_drewN ?_ _ | exact Below.refl _ _))⟩
end Go.Proofs.Ytpelmfanchkpeaa
