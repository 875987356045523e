/- slices.ContainsFunc over numbers, with closures that only read. -/
import Derived.Test.YtfpombhhnojjhaaAllP
set_option linter.unusedVariables false
namespace Go.Proofs.Ytfpombhhnojjhaa
open Go.RowKit

theorem indexBounds   (pr : Int → Bool) (E : Option Addr) (r i : Nat) (u : Nat → Int) (w : World) (hr : r ≤ 1048576) (hE : Cells w E r (fun i => .int .i64 (u i)))
    (hC : ∀ z, Calls Try.prog 128 #[.int .i64 z ] w fun e w' => e = .returned (.bool (!pr z)) ∧ w = w') :
    Calls Try.prog 152 #[.slice E r i, .func (.func 128) #[] #[ ]] w fun e w' => IdxRes (!allP pr u r) r e ∧ w = w' := by
  have HE := Lib.hid hE
  have HC := Lib.hid hC
  have HNO := Lib.hid (fun k (hk : k < r) (h : pr (u k) = false) => allP_no hk h)
  have HYES := Lib.hid (fun (h : ∀ k, k < r → pr (u k) = true) => show allP pr u r = true from allP_iff.2 h)
  clear hE hC
  generalize allP pr u r = R at *
  go_enter Try.func152, Try.ntmps152
  go_wp2_with fail
  go_loop [5, 8] (fun _ j => ∃ k : Nat, k ≤ r ∧ j = .int .i64 k ∧ Hid (∀ j, j < k → pr (u j) = true)) (fun _ j => r - (intOf j).toNat)
  case atStart => exact ⟨0, Nat.zero_le _, rfl, fun j hj => by omega⟩
  case round =>
    obtain ⟨k, hk, rfl, HP⟩ := hrel
    by_cases hlt : k < r
    · have d1 : (k : Int) < r := by omega
      obtain ⟨y, rfl, hy0⟩ := HE.out k hlt
      have hy : w.cell? (y.add k) = some (.int .i64 (u k)) := hy0
      clear hy0
      have HNk := Lib.hid (HNO.out k hlt)
      have HPk := Lib.hid (show pr (u k) = true → ∀ j, j < k + 1 → pr (u j) = true from fun e j hj => by
        rcases Nat.lt_or_ge j k with h | h
        · exact HP.out j h
        · have : j = k := by omega
          subst this
          exact e)
      generalize u k = z at *
      have HCk := Lib.hid (HC.out z)
      clear HC
      cases hz : pr z
      · rw [hz] at HCk
        have HR := Lib.hid (HNk.out hz)
        clear hz HNk HPk
        go_wp2_with fail
        refine HCk.out.mono ?_
        rintro e w' ⟨rfl, rfl⟩
        go_wp2_with fail
        go_ret
        exact ⟨⟨k, rfl, by rw [HR.out]; simp, by omega, by omega⟩, rfl⟩
      · rw [hz] at HCk
        have HR := Lib.hid (HPk.out hz)
        clear hz HNk HPk
        go_wp2_with fail
        refine HCk.out.mono ?_
        rintro e w' ⟨rfl, rfl⟩
        go_wp2_with fail
        go_round
        case rel => exact ⟨k + 1, by omega, by go_num, HR.out⟩
        case measure => simp [intOf]; omega
    · have d1 : ¬ (k : Int) < r := by omega
      obtain rfl : r = k := by omega
      have HR := Lib.hid (HYES.out HP.out)
      go_wp2_with fail
      go_ret
      exact ⟨⟨-1, rfl, by rw [HR.out]; rfl, by omega, by omega⟩, rfl⟩
theorem containsBounds   (pr : Int → Bool) (E : Option Addr) (r i : Nat) (u : Nat → Int) (w : World) (hr : r ≤ 1048576) (hE : Cells w E r (fun i => .int .i64 (u i)))
    (hC : ∀ z, Calls Try.prog 128 #[.int .i64 z ] w fun e w' => e = .returned (.bool (!pr z)) ∧ w = w') :
    Calls Try.prog 129 #[.slice E r i, .func (.func 128) #[] #[ ]] w fun e w' => e = .returned (.bool (!allP pr u r)) ∧ w = w' := by
  have HI := Lib.hid (indexBounds   pr E r i u w hr hE hC)
  clear hE hC
  generalize allP pr u r = R at *
  go_enter Try.func129, Try.ntmps129
  go_wp2_with fail
  refine HI.out.mono ?_
  rintro e w' ⟨⟨j, rfl, hj, j1, j2⟩, rfl⟩
  have HJ := Lib.hid hj
  clear hj
  by_cases h : 0 ≤ j
  · have HD := Lib.hid (decide_eq_true h)
    go_wp2_with fail
    go_ret
    exact ⟨ret_bool (by rw [← HJ.out, HD.out]), rfl⟩
  · have HD := Lib.hid (decide_eq_false h)
    go_wp2_with fail
    go_ret
    exact ⟨ret_bool (by rw [← HJ.out, HD.out]), rfl⟩
end Go.Proofs.Ytfpombhhnojjhaa
