/- Words: both sides' tests, over cells. -/
import Derived.Test.YtfpombhhnojjhaaAllIn
import Derived.Test.YtfpombhhnojjhaaCells
import Derived.Test.YtfpombhhnojjhaaIn
import Derived.Test.YtfpombhhnojjhaaOwn
set_option linter.unusedVariables false
namespace Go.Proofs.Ytfpombhhnojjhaa
open Go.RowKit

theorem l02Word_any (A : Option Addr) (n c : Nat) (f : Nat → Int) (l : Int) (w : World) (hn : n ≤ 4611686018427387904) (h : Cells w A n (fun i => .int .i64 (f i))) (h1 : 1 ≤ l) (h2 : l ≤ 4) :
    Calls Try.prog 139 #[.slice A n c, .int .i64 l] w fun e w' => e = .returned (.bool (wordB f n (l - 1))) ∧ w = w' := by
  have Hw := Lib.hid (show ∀ b, wordB f n b = (allIn f n b && decide (n ≤ 12)) from fun _ => rfl)
  go_enter Try.func139, Try.ntmps139
  go_wp2
  go_loop [5] (fun i => ∃ k : Nat, k ≤ n ∧ i = .int .i64 k ∧ Hid (∀ j, j < k → inB (f j) 0 (l - 1) = true)) (fun i => n - (intOf i).toNat)
  case atStart => exact ⟨0, Nat.zero_le _, rfl, fun j hj => by omega⟩
  case round =>
    obtain ⟨k, hk, rfl, HA⟩ := hrel
    by_cases hlt : k < n
    · have d1 : (k : Int) < n := by omega
      obtain ⟨x, rfl, hx0⟩ := h k hlt
      have hx : w.cell? (x.add k) = some (.int .i64 (f k)) := hx0
      clear hx0
      have HK := Lib.hid (show ∀ b, inB (f k) 0 b = false → wordB f n b = false from fun b e => by rw [Hw.out, allIn_no hlt e]; rfl)
      have HS := Lib.hid (show inB (f k) 0 (l - 1) = true → ∀ j, j < k + 1 → inB (f j) 0 (l - 1) = true from fun e j hj => by
        rcases Nat.lt_or_ge j k with h | h
        · exact HA.out j h
        · have : j = k := by omega
          subst this
          exact e)
      clear h HA
      generalize f k = v at *
      cases e : inB v 0 (l - 1)
      · have HR := Lib.hid (HK.out _ e)
        have HE := Lib.hid e
        clear e HK HS
        go_wp2_with (first | (go_at_call 130; refine (l00In_any _ _ _ _).mono ?_; rw [HE.out]; rintro e w' ⟨rfl, rfl⟩))
        go_ret
        exact ⟨ret_bool HR.out.symm, rfl⟩
      · have HN := Lib.hid (HS.out e)
        have HE := Lib.hid e
        clear e HK HS
        go_wp2_with (first | (go_at_call 130; refine (l00In_any _ _ _ _).mono ?_; rw [HE.out]; rintro e w' ⟨rfl, rfl⟩))
        go_round
        case rel => exact ⟨k + 1, by omega, by go_num, HN⟩
        case measure => simp [intOf]; omega
    · have d1 : ¬ (k : Int) < n := by omega
      have e : k = n := by omega
      subst e
      have HR := Lib.hid (show allIn f k (l - 1) = true from allIn_iff.2 fun i hi => inB_iff.1 (HA.out i hi))
      clear HA h
      by_cases h12 : k ≤ 12
      · have d2 : (k : Int) ≤ 12 := by omega
        go_wp2
        go_ret
        exact ⟨ret_bool (by rw [Hw.out, HR.out]; simp [h12]), rfl⟩
      · have d2 : ¬ (k : Int) ≤ 12 := by omega
        go_wp2
        go_ret
        exact ⟨ret_bool (by rw [Hw.out, HR.out]; simp [h12]), rfl⟩

theorem implIsWord_any (A : Option Addr) (n c : Nat) (f : Nat → Int) (l : Int) (w : World) (hn : n ≤ 4611686018427387904) (h : Cells w A n (fun i => .int .i64 (f i))) :
    Calls Try.prog 120 #[.slice A n c, .int .i64 l] w fun e w' => e = .returned (.bool (inB l 1 4 && wordB f n (l - 1))) ∧ w = w' := by
  have Hw := Lib.hid (show ∀ b, wordB f n b = (allIn f n b && decide (n ≤ 12)) from fun _ => rfl)
  cases hl : inB l 1 4
  · have HE := Lib.hid hl
    clear hl
    go_enter Try.func120, Try.ntmps120
    go_wp2_with (first | (go_at_call 96; refine (between_any _ _ _ _).mono ?_; rw [HE.out]; rintro e w' ⟨rfl, rfl⟩))
    go_ret
    exact ⟨rfl, rfl⟩
  · obtain ⟨h1, h2⟩ := inB_iff.1 hl
    have HE := Lib.hid hl
    clear hl
    by_cases h12 : n ≤ 12
    · have d2 : ¬ (12 : Int) < n := by omega
      go_enter Try.func120, Try.ntmps120
      go_wp2_with (first | (go_at_call 96; refine (between_any _ _ _ _).mono ?_; rw [HE.out]; rintro e w' ⟨rfl, rfl⟩))
      go_loop [6, 17] (fun _ i => ∃ k : Nat, k ≤ n ∧ i = .int .i64 k ∧ Hid (∀ j, j < k → inB (f j) 0 (l - 1) = true)) (fun _ i => n - (intOf i).toNat)
      case atStart => exact ⟨0, Nat.zero_le _, rfl, fun j hj => by omega⟩
      case round =>
        obtain ⟨k, hk, rfl, HA⟩ := hrel
        by_cases hlt : k < n
        · have d1 : (k : Int) < n := by omega
          obtain ⟨x, rfl, hx0⟩ := h k hlt
          have hx : w.cell? (x.add k) = some (.int .i64 (f k)) := hx0
          clear hx0
          have HK := Lib.hid (show ∀ b, inB (f k) 0 b = false → wordB f n b = false from fun b e => by rw [Hw.out, allIn_no hlt e]; rfl)
          have HS := Lib.hid (show inB (f k) 0 (l - 1) = true → ∀ j, j < k + 1 → inB (f j) 0 (l - 1) = true from fun e j hj => by
            rcases Nat.lt_or_ge j k with h | h
            · exact HA.out j h
            · have : j = k := by omega
              subst this
              exact e)
          clear h HA
          generalize f k = v at *
          cases e : inB v 0 (l - 1)
          · have HR := Lib.hid (HK.out _ e)
            have HE2 := Lib.hid e
            clear e HK HS
            go_wp2_with (first | (go_at_call 96; refine (between_any _ _ _ _).mono ?_; rw [HE2.out]; rintro e w' ⟨rfl, rfl⟩))
            go_ret
            exact ⟨ret_bool (by rw [HR.out]; rfl), rfl⟩
          · have HN := Lib.hid (HS.out e)
            have HE2 := Lib.hid e
            clear e HK HS
            go_wp2_with (first | (go_at_call 96; refine (between_any _ _ _ _).mono ?_; rw [HE2.out]; rintro e w' ⟨rfl, rfl⟩))
            go_round
            case rel => exact ⟨k + 1, by omega, by go_num, HN⟩
            case measure => simp [intOf]; omega
        · have d1 : ¬ (k : Int) < n := by omega
          have e : k = n := by omega
          subst e
          have HR := Lib.hid (show allIn f k (l - 1) = true from allIn_iff.2 fun i hi => inB_iff.1 (HA.out i hi))
          clear HA h
          go_wp2
          go_ret
          exact ⟨ret_bool (by rw [Hw.out, HR.out]; simp [h12]), rfl⟩
    · have d2 : (12 : Int) < n := by omega
      go_enter Try.func120, Try.ntmps120
      go_wp2_with (first | (go_at_call 96; refine (between_any _ _ _ _).mono ?_; rw [HE.out]; rintro e w' ⟨rfl, rfl⟩))
      go_ret
      exact ⟨ret_bool (by rw [Hw.out]; simp [h12]), rfl⟩

end Go.Proofs.Ytfpombhhnojjhaa
