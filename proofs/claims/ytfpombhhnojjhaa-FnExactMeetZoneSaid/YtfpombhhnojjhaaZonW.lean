/- Zones: whether they are valid, the reference. -/
import Derived.Test.YtfpombhhnojjhaaZonV
import Derived.Test.YtfpombhhnojjhaaZoneM
set_option linter.unusedVariables false
namespace Go.Proofs.Ytfpombhhnojjhaa
open Go.RowKit

set_option maxRecDepth 20000 in
set_option maxHeartbeats 8000000 in
theorem l07Zone_any (P : Nat) (s : Int) (A : Option Addr) (n c : Nat) (f : Nat → Int) (w : World) (hn : n ≤ 1048576) (hA : Cells w A n (fun i => .int .i64 (f i))) (b : Box2 w P (.int .i64 s) (.slice A n c)) :
    Calls Try.prog 88 #[.pointer (some ⟨P, 0, none⟩)] w fun e w' => e = .returned (.bool (validZ s n f)) ∧ w = w' := by
  have HA := Lib.hid hA
  obtain ⟨a0, a1⟩ := b
  clear hA
  cases h0 : inB s 1 4
  · have H0 := Lib.hid (l00In_is h0)
    have HU := Lib.hid (show validZ s n f = false by unfold validZ; rw [h0]; rfl)
    clear h0
    generalize validZ s n f = r at *
    go_enter Try.func88, Try.ntmps88
    go_wp2_with fail
    refine (H0.out _).mono ?_
    rintro e w' ⟨rfl, hw'⟩
    obtain rfl := hw'.symm
    clear hw'
    go_wp2_with fail
    go_ret
    exact ⟨ret_bool (by rw [HU.out]), rfl⟩
  have H0 := Lib.hid (l00In_is h0)
  obtain ⟨s1, s2⟩ := inB_iff.1 h0
  clear h0
  obtain ⟨m, rfl⟩ : ∃ m : Nat, s = (m : Int) := ⟨s.toNat, by omega⟩
  have hm1 : 1 ≤ m := by omega
  have hm : m ≤ 4 := by omega
  clear s1 s2
  rw [validZ_nat m n f hm1 hm]
  have hsq : (m + 1) * (m + 1) ≤ 25 := by
    have : (m + 1) * (m + 1) ≤ 5 * 5 := Nat.mul_le_mul (by omega) (by omega)
    omega
  have hw1 : IntKind.i64.wrap ((m : Int) + 1) = ((m + 1 : Nat) : Int) := by rw [IntKind.wrap_i64]; omega
  have hw2 : IntKind.i64.wrap (((m + 1 : Nat) : Int) * ((m + 1 : Nat) : Int)) = (((m + 1) * (m + 1) : Nat) : Int) := by rw [← Int.natCast_mul, IntKind.wrap_i64]; omega
  have HM1 := Lib.hid (show ∀ k : Nat, k < m + 1 → (k : Int) < ((m + 1 : Nat) : Int) from fun k h => by omega)
  have HM2 := Lib.hid (show ∀ k : Nat, ¬ k < m + 1 → ¬ (k : Int) < ((m + 1 : Nat) : Int) from fun k h => by omega)
  by_cases hq : n = (m + 1) * (m + 1)
  rotate_left
  · have b2 : ((n : Int) != (((m + 1) * (m + 1) : Nat) : Int)) = true := bne_iff_ne.2 fun h => hq (Int.ofNat_inj.1 h)
    have HU := Lib.hid (okZ_sq (f := f) hq)
    clear hq hsq HM1 HM2
    generalize okZ (m + 1) n f = r at *
    generalize (((m + 1) * (m + 1) : Nat) : Int) = sq at *
    generalize ((m + 1 : Nat) : Int) = sm at *
    generalize (m : Int) = mi at *
    go_enter Try.func88, Try.ntmps88
    go_wp2_with fail
    refine (H0.out _).mono ?_
    rintro e w' ⟨rfl, hw'⟩
    obtain rfl := hw'.symm
    clear hw'
    go_wp2_with fail
    go_ret
    exact ⟨ret_bool (by rw [HU.out]), rfl⟩
  have b2 : ((n : Int) != (((m + 1) * (m + 1) : Nat) : Int)) = false := by rw [hq]; exact bne_self_eq_false _
  have HW := Lib.hid (show ∀ i k : Nat, i < m + 1 → k < m + 1 → ∃ q : Int, IntKind.i64.wrap ((i : Int) * ((m + 1 : Nat) : Int)) = q ∧ IntKind.i64.wrap (q + (k : Int)) = ((i * (m + 1) + k : Nat) : Int) ∧ i * (m + 1) + k < n from fun i k hi hk => by
    obtain ⟨-, e2, e3, e4, -⟩ := idx_wrap (m := m) (i := i) (k := k) hm (by omega) (by omega)
    exact ⟨_, e2, e3, by rw [hq]; exact e4⟩)
  have HNO := Lib.hid (fun i k (hi : i < m + 1) (hk : k < m + 1) (h : zok i k (f (i * (m + 1) + k)) = false) => show okZ (m + 1) n f = false by rw [hq]; exact okZ_no hi hk h)
  have HYES := Lib.hid (fun h => show okZ (m + 1) n f = true by rw [hq]; exact okZ_yes (by omega) h)
  generalize okZ (m + 1) n f = r at *
  clear hq hsq
  generalize (((m + 1) * (m + 1) : Nat) : Int) = sq at *
  generalize ((m + 1 : Nat) : Int) = sm at *
  generalize (m : Int) = mi at *
  go_enter Try.func88, Try.ntmps88
  go_wp2_with fail
  refine (H0.out _).mono ?_
  rintro e w' ⟨rfl, hw'⟩
  obtain rfl := hw'.symm
  clear hw'
  go_wp2_with fail
  go_loop [4, 5, 6] (fun ii _ _ => ∃ i : Nat, i ≤ m + 1 ∧ ii = .int .i64 i ∧ Hid (∀ j, j < i → ∀ k, k < m + 1 → zok j k (f (j * (m + 1) + k)) = true)) (fun ii _ _ => (m + 1) - (intOf ii).toNat)
  case atStart => exact ⟨0, Nat.zero_le _, rfl, fun j hj => by omega⟩
  case round =>
    obtain ⟨i, hi, rfl, HP⟩ := hrel
    by_cases hlt : i < m + 1
    rotate_left
    · have d1 : ¬ (i : Int) < sm := fun h => absurd h (Int.not_lt.2 (HM2.out i hlt))
      obtain rfl : i = m + 1 := by omega
      have HF := Lib.hid (HYES.out HP.out)
      go_wp2_with fail
      go_ret
      exact ⟨ret_bool (by rw [HF.out]), rfl⟩
    have d1 : (i : Int) < sm := HM1.out i hlt
    have HPi := Lib.hid (show (∀ k, k < m + 1 → zok i k (f (i * (m + 1) + k)) = true) → ∀ j, j < i + 1 → ∀ k, k < m + 1 → zok j k (f (j * (m + 1) + k)) = true from fun e j hj => by
      rcases Nat.lt_or_ge j i with h | h
      · exact HP.out j h
      · have : j = i := by omega
        subst this
        exact e)
    clear HP
    go_wp2_with fail
    go_loop [5, 6] (fun kk _ => ∃ k : Nat, k ≤ m + 1 ∧ kk = .int .i64 k ∧ Hid (∀ j, j < k → zok i j (f (i * (m + 1) + j)) = true)) (fun kk _ => (m + 1) - (intOf kk).toNat)
    case atStart => exact ⟨0, Nat.zero_le _, rfl, fun j hj => by omega⟩
    case round =>
      obtain ⟨k, hk, rfl, HQ⟩ := hrel
      by_cases hkt : k < m + 1
      rotate_left
      · have d2 : ¬ (k : Int) < sm := fun h => absurd h (Int.not_lt.2 (HM2.out k hkt))
        obtain rfl : k = m + 1 := by omega
        have HR := Lib.hid (HPi.out HQ.out)
        go_wp2_with fail
        go_round
        case rel => exact ⟨i + 1, by omega, by go_num, HR⟩
        case measure => simp [intOf]; omega
      have d2 : (k : Int) < sm := HM1.out k hkt
      obtain ⟨q, e1, e2, hj⟩ := HW.out i k hlt hkt
      obtain ⟨x, rfl, hx0⟩ := HA.out _ hj
      have hx : w.cell? (x.add (i * (m + 1) + k)) = some (.int .i64 (f (i * (m + 1) + k))) := hx0
      have HNk := Lib.hid (HNO.out i k hlt hkt)
      have HTk := Lib.hid (show zok i k (f (i * (m + 1) + k)) = true → ∀ j, j < k + 1 → zok i j (f (i * (m + 1) + j)) = true from fun e j hj => by
        rcases Nat.lt_or_ge j k with h | h
        · exact HQ.out j h
        · have : j = k := by omega
          subst this
          exact e)
      clear hx0 HQ HNO HYES HPi HW HA
      generalize f (i * (m + 1) + k) = v at *
      generalize i * (m + 1) + k = j at *
      have d3 : (j : Int) < n := by omega
      have H3 := Lib.hid (fun W => l00In_is (n := v) (a := -1000000) (b := 1000000) rfl W)
      have HO := Lib.hid (okB.eq_1 v)
      generalize hr3 : inB v (-1000000) 1000000 = r3 at *
      cases ho : okB v
      · have HF := Lib.hid (HNk.out (Bool.eq_false_iff.2 fun hz => absurd (zok_iff.1 hz).1 (by rw [ho]; simp)))
        have hno := HO.out
        rw [ho] at hno
        obtain ⟨q1, q2⟩ := Bool.or_eq_false_iff.1 hno.symm
        subst q1
        have b3 : (v != 1000000000) = true := bne_iff_ne.2 (of_decide_eq_false q2)
        clear ho HO HNk HTk hno q2 hr3
        go_wp2_with fail
        refine (H3.out _).mono ?_
        rintro e w' ⟨rfl, hw'⟩
        obtain rfl := hw'.symm
        clear hw'
        go_wp2_with fail
        go_ret
        exact ⟨ret_bool (by rw [HF.out]), rfl⟩
      have hyes := HO.out
      rw [ho] at hyes
      have b3 : r3 = false → (v != 1000000000) = false := fun e => by
        rw [e, Bool.false_or] at hyes
        rw [of_decide_eq_true hyes.symm]
        rfl
      have HT0 := Lib.hid (show (i = k → v = 0) → (i = 0 → v ≤ 0) → _ from fun a b => HTk.out (zok_iff.2 ⟨ho, a, b⟩))
      have HF0 := Lib.hid (show ¬ ((i = k → v = 0) ∧ (i = 0 → v ≤ 0)) → r = false from fun a => HNk.out (Bool.eq_false_iff.2 fun hz => a (zok_iff.1 hz).2))
      clear ho HO HNk HTk hyes hr3
      by_cases hik : i = k
      · by_cases hv : v = 0
        · have HT := Lib.hid (HT0.out (fun _ => hv) (fun _ => by omega))
          have b4 : (v != 0) = false := by rw [hv]; rfl
          have b5 : ¬ 0 < v := by omega
          clear HT0 HF0 hv
          have b7 : ((i : Int) == (k : Int)) = true := by rw [hik]; exact beq_self_eq_true _
          clear hik
          by_cases hi0 : i = 0
          · have b6 : ((i : Int) == 0) = true := by rw [hi0]; rfl
            clear hi0
            cases r3
            · have b3 := b3 rfl
              go_wp2_with fail
              refine (H3.out _).mono ?_
              rintro e w' ⟨rfl, hw'⟩
              obtain rfl := hw'.symm
              clear hw'
              go_wp2_with fail
              go_round
              case rel => exact ⟨k + 1, by omega, by go_num, HT⟩
              case measure => simp [intOf]; omega
            · clear b3
              go_wp2_with fail
              refine (H3.out _).mono ?_
              rintro e w' ⟨rfl, hw'⟩
              obtain rfl := hw'.symm
              clear hw'
              go_wp2_with fail
              go_round
              case rel => exact ⟨k + 1, by omega, by go_num, HT⟩
              case measure => simp [intOf]; omega
          · have b6 : ((i : Int) == 0) = false := beq_eq_false_iff_ne.2 (by omega)
            cases r3
            · have b3 := b3 rfl
              go_wp2_with fail
              refine (H3.out _).mono ?_
              rintro e w' ⟨rfl, hw'⟩
              obtain rfl := hw'.symm
              clear hw'
              go_wp2_with fail
              go_round
              case rel => exact ⟨k + 1, by omega, by go_num, HT⟩
              case measure => simp [intOf]; omega
            · clear b3
              go_wp2_with fail
              refine (H3.out _).mono ?_
              rintro e w' ⟨rfl, hw'⟩
              obtain rfl := hw'.symm
              clear hw'
              go_wp2_with fail
              go_round
              case rel => exact ⟨k + 1, by omega, by go_num, HT⟩
              case measure => simp [intOf]; omega
        · have HF := Lib.hid (HF0.out fun h => hv (h.1 hik))
          have b4 : (v != 0) = true := bne_iff_ne.2 hv
          clear HT0 HF0 hv
          have b7 : ((i : Int) == (k : Int)) = true := by rw [hik]; exact beq_self_eq_true _
          clear hik
          cases r3
          · have b3 := b3 rfl
            go_wp2_with fail
            refine (H3.out _).mono ?_
            rintro e w' ⟨rfl, hw'⟩
            obtain rfl := hw'.symm
            clear hw'
            go_wp2_with fail
            go_ret
            exact ⟨ret_bool (by rw [HF.out]), rfl⟩
          · clear b3
            go_wp2_with fail
            refine (H3.out _).mono ?_
            rintro e w' ⟨rfl, hw'⟩
            obtain rfl := hw'.symm
            clear hw'
            go_wp2_with fail
            go_ret
            exact ⟨ret_bool (by rw [HF.out]), rfl⟩
      · have b4 : ((i : Int) == (k : Int)) = false := beq_eq_false_iff_ne.2 (by omega)
        by_cases hi0 : i = 0
        · by_cases hv : 0 < v
          · have HF := Lib.hid (HF0.out fun h => by have := h.2 hi0; omega)
            have b6 : ((i : Int) == 0) = true := by rw [hi0]; rfl
            clear HT0 HF0 hik hi0
            cases r3
            · have b3 := b3 rfl
              go_wp2_with fail
              refine (H3.out _).mono ?_
              rintro e w' ⟨rfl, hw'⟩
              obtain rfl := hw'.symm
              clear hw'
              go_wp2_with fail
              go_ret
              exact ⟨ret_bool (by rw [HF.out]), rfl⟩
            · clear b3
              go_wp2_with fail
              refine (H3.out _).mono ?_
              rintro e w' ⟨rfl, hw'⟩
              obtain rfl := hw'.symm
              clear hw'
              go_wp2_with fail
              go_ret
              exact ⟨ret_bool (by rw [HF.out]), rfl⟩
          · have HT := Lib.hid (HT0.out (fun e => absurd e hik) (fun _ => by omega))
            have b6 : ((i : Int) == 0) = true := by rw [hi0]; rfl
            clear HT0 HF0 hik hi0
            cases r3
            · have b3 := b3 rfl
              go_wp2_with fail
              refine (H3.out _).mono ?_
              rintro e w' ⟨rfl, hw'⟩
              obtain rfl := hw'.symm
              clear hw'
              go_wp2_with fail
              go_round
              case rel => exact ⟨k + 1, by omega, by go_num, HT⟩
              case measure => simp [intOf]; omega
            · clear b3
              go_wp2_with fail
              refine (H3.out _).mono ?_
              rintro e w' ⟨rfl, hw'⟩
              obtain rfl := hw'.symm
              clear hw'
              go_wp2_with fail
              go_round
              case rel => exact ⟨k + 1, by omega, by go_num, HT⟩
              case measure => simp [intOf]; omega
        · have HT := Lib.hid (HT0.out (fun e => absurd e hik) (fun e => absurd e hi0))
          have b6 : ((i : Int) == 0) = false := beq_eq_false_iff_ne.2 (by omega)
          clear HT0 HF0 hik
          cases r3
          · have b3 := b3 rfl
            go_wp2_with fail
            refine (H3.out _).mono ?_
            rintro e w' ⟨rfl, hw'⟩
            obtain rfl := hw'.symm
            clear hw'
            go_wp2_with fail
            go_round
            case rel => exact ⟨k + 1, by omega, by go_num, HT⟩
            case measure => simp [intOf]; omega
          · clear b3
            go_wp2_with fail
            refine (H3.out _).mono ?_
            rintro e w' ⟨rfl, hw'⟩
            obtain rfl := hw'.symm
            clear hw'
            go_wp2_with fail
            go_round
            case rel => exact ⟨k + 1, by omega, by go_num, HT⟩
            case measure => simp [intOf]; omega
theorem specValidZone_any (s : Int) (A : Option Addr) (n c : Nat) (f : Nat → Int) (w : World) (hn : n ≤ 1048576) (hA : Cells w A n (fun i => .int .i64 (f i))) :
    Calls Try.prog 68 #[.agg #[.int .i64 s, .slice A n c]] w fun e w' => e = .returned (.bool (validZ s n f)) ∧ Below w.heap.size w w' := by
  have HA := Lib.hid hA
  have HL := Lib.hid (fun P W a x => l07Zone_any P s A n c f W hn a x)
  clear hA
  generalize validZ s n f = r at *
  go_enter Try.func68, Try.ntmps68
  go_wp2_with fail
  refine (HL.out w.heap.size _ (HA.out.below (by repeat (first | with_reducible exact Below.refl _ _ | exact Hid.out (by with_reducible assumption) | refine Below.setCell ?_ (by simp <;> omega) _ | refine below_alloc ?_ _ | refine Below.alloc ?_ (by simp <;> omega) _ | refine Below.drew ?_ | refine below_drewN ?_ _ | exact Below.refl _ _))) (Box2.new w _ _ _)).mono ?_
  rintro e w' ⟨rfl, rfl⟩
  go_wp2_with fail
  go_ret
  exact ⟨rfl, (by repeat (first | with_reducible exact Below.refl _ _ | exact Hid.out (by with_reducible assumption) | refine Below.setCell ?_ (by simp <;> omega) _ | refine below_alloc ?_ _ | refine Below.alloc ?_ (by simp <;> omega) _ | refine Below.drew ?_ | refine below_drewN ?_ _ | exact Below.refl _ _))⟩
end Go.Proofs.Ytfpombhhnojjhaa
