/- Lists of numbers from 0 to a bound: impl.areAll. -/
import Derived.Test.YtfpombhhnojjhaaAllP
import Derived.Test.YtfpombhhnojjhaaBoxP
import Derived.Test.YtfpombhhnojjhaaOwn
set_option linter.unusedVariables false
namespace Go.Proofs.Ytfpombhhnojjhaa
open Go.RowKit
theorem indexMost (q1 : Nat) (pr : Int → Bool) (E : Option Addr) (r i : Nat) (u : Nat → Int) (w : World) (hr : r ≤ 1048576) (hE : Cells w E r (fun i => .int .i64 (u i)))
    (hC : ∀ z, Calls Try.prog 141 #[.int .i64 z, .pointer (some ⟨q1, 0, none⟩)] w fun e w' => e = .returned (.bool (!pr z)) ∧ w = w') :
    Calls Try.prog 152 #[.slice E r i, .func (.func 141) #[] #[.pointer (some ⟨q1, 0, none⟩)]] w fun e w' => IdxRes (!allP pr u r) r e ∧ w = w' := by
  have HE := Lib.hid hE
  have HC := Lib.hid hC
  have HNO := Lib.hid (fun k (hk : k < r) (h : pr (u k) = false) => allP_no hk h)
  have HYES := Lib.hid (fun (h : ∀ k, k < r → pr (u k) = true) => show allP pr u r = true from allP_iff.2 h)
  clear hE hC
  generalize allP pr u r = R at *
  go_enter Try.func152, Try.ntmps152
  go_wp2_with fail
  go_loop [5, 8] (fun _ j => ∃ k : Nat, k ≤ r ∧ j = .int .i64 k ∧ Hid (∀ j, j < k → pr (u j) = true)) (fun _ j => r - (intOf j).toNat)
  case atStart => exact ⟨0, Nat.zero_le _, rfl, fun j hj => by omega⟩
  case round =>
    obtain ⟨k, hk, rfl, HP⟩ := hrel
    by_cases hlt : k < r
    · have d1 : (k : Int) < r := by omega
      obtain ⟨y, rfl, hy0⟩ := HE.out k hlt
      have hy : w.cell? (y.add k) = some (.int .i64 (u k)) := hy0
      clear hy0
      have HNk := Lib.hid (HNO.out k hlt)
      have HPk := Lib.hid (show pr (u k) = true → ∀ j, j < k + 1 → pr (u j) = true from fun e j hj => by
        rcases Nat.lt_or_ge j k with h | h
        · exact HP.out j h
        · have : j = k := by omega
          subst this
          exact e)
      generalize u k = z at *
      have HCk := Lib.hid (HC.out z)
      clear HC
      cases hz : pr z
      · rw [hz] at HCk
        have HR := Lib.hid (HNk.out hz)
        clear hz HNk HPk
        go_wp2_with fail
        refine HCk.out.mono ?_
        rintro e w' ⟨rfl, rfl⟩
        go_wp2_with fail
        go_ret
        exact ⟨⟨k, rfl, by rw [HR.out]; simp, by omega, by omega⟩, rfl⟩
      · rw [hz] at HCk
        have HR := Lib.hid (HPk.out hz)
        clear hz HNk HPk
        go_wp2_with fail
        refine HCk.out.mono ?_
        rintro e w' ⟨rfl, rfl⟩
        go_wp2_with fail
        go_round
        case rel => exact ⟨k + 1, by omega, by go_num, HR.out⟩
        case measure => simp [intOf]; omega
    · have d1 : ¬ (k : Int) < r := by omega
      obtain rfl : r = k := by omega
      have HR := Lib.hid (HYES.out HP.out)
      go_wp2_with fail
      go_ret
      exact ⟨⟨-1, rfl, by rw [HR.out]; rfl, by omega, by omega⟩, rfl⟩
theorem containsMost (q1 : Nat) (pr : Int → Bool) (E : Option Addr) (r i : Nat) (u : Nat → Int) (w : World) (hr : r ≤ 1048576) (hE : Cells w E r (fun i => .int .i64 (u i)))
    (hC : ∀ z, Calls Try.prog 141 #[.int .i64 z, .pointer (some ⟨q1, 0, none⟩)] w fun e w' => e = .returned (.bool (!pr z)) ∧ w = w') :
    Calls Try.prog 129 #[.slice E r i, .func (.func 141) #[] #[.pointer (some ⟨q1, 0, none⟩)]] w fun e w' => e = .returned (.bool (!allP pr u r)) ∧ w = w' := by
  have HI := Lib.hid (indexMost q1 pr E r i u w hr hE hC)
  clear hE hC
  generalize allP pr u r = R at *
  go_enter Try.func129, Try.ntmps129
  go_wp2_with fail
  refine HI.out.mono ?_
  rintro e w' ⟨⟨j, rfl, hj, j1, j2⟩, rfl⟩
  have HJ := Lib.hid hj
  clear hj
  by_cases h : 0 ≤ j
  · have HD := Lib.hid (decide_eq_true h)
    go_wp2_with fail
    go_ret
    exact ⟨ret_bool (by rw [← HJ.out, HD.out]), rfl⟩
  · have HD := Lib.hid (decide_eq_false h)
    go_wp2_with fail
    go_ret
    exact ⟨ret_bool (by rw [← HJ.out, HD.out]), rfl⟩
theorem areAll1_any (q1 : Nat) (most z : Int) (w : World) (h : w.cell? ⟨q1, 0, none⟩ = some (.int .i64 most)) :
    Calls Try.prog 141 #[.int .i64 z, .pointer (some ⟨q1, 0, none⟩)] w fun e w' => e = .returned (.bool (!inB z 0 most)) ∧ w = w' := by
  have H0 := Lib.hid (fun W => between_any z 0 most W)
  generalize inB z 0 most = r at *
  go_enter Try.func141, Try.ntmps141
  go_wp2_with fail
  refine (H0.out _).mono ?_
  rintro e w' ⟨rfl, rfl⟩
  go_wp2_with fail
  go_ret
  exact ⟨by cases r <;> rfl, rfl⟩
def mostB (cnt most : Int) (m : Nat) (g : Nat → Int) : Bool := decide ((m : Int) = cnt) && allP (fun z => inB z 0 most) g m
theorem areAll_any (B : Option Addr) (m d : Nat) (g : Nat → Int) (cnt most : Int) (w : World) (hm : m ≤ 1048576) (hB : Cells w B m (fun i => .int .i64 (g i))) :
    Calls Try.prog 97 #[.slice B m d, .int .i64 cnt, .int .i64 most] w fun e w' => e = .returned (.bool (mostB cnt most m g)) ∧ Below w.heap.size w w' := by
  have HB := Lib.hid hB
  have HU := Lib.hid (show mostB cnt most m g = (decide ((m : Int) = cnt) && allP (fun z => inB z 0 most) g m) from rfl)
  have HC := Lib.hid (fun q1 W k b => containsMost q1 (fun z => inB z 0 most) B m d g W hm k (fun z => areAll1_any q1 most z W b))
  have hmf : ∀ (fn : Fn) (first cap : Array Value) (w : World), (Instr.makeFunc fn first cap).run Try.prog w = .ok (.func fn first cap) w := fun _ _ _ _ => rfl
  clear hB
  generalize mostB cnt most m g = r at *
  generalize allP (fun z => inB z 0 most) g m = r2 at *
  by_cases h : (m : Int) = cnt
  · have b1 : ((m : Int) == cnt) = true := beq_iff_eq.2 h
    have HZ := Lib.hid (show r = r2 by rw [HU.out, decide_eq_true h]; exact Bool.true_and _)
    clear h HU
    go_enter Try.func97, Try.ntmps97
    go_wp2_with fail
    refine (HC.out w.heap.size _ (HB.out.below (by repeat (first | with_reducible exact Below.refl _ _ | exact Hid.out (by with_reducible assumption) | refine Below.setCell ?_ (by simp <;> omega) _ | refine below_alloc ?_ _ | refine Below.alloc ?_ (by simp <;> omega) _ | refine Below.drew ?_ | refine below_drewN ?_ _ | exact Below.refl _ _))) (by simp [go_sem])).mono ?_
    rintro e w' ⟨rfl, rfl⟩
    go_wp2_with fail
    go_ret
    exact ⟨ret_bool (by rw [HZ.out] <;> cases r2 <;> rfl), (by repeat (first | with_reducible exact Below.refl _ _ | exact Hid.out (by with_reducible assumption) | refine Below.setCell ?_ (by simp <;> omega) _ | refine below_alloc ?_ _ | refine Below.alloc ?_ (by simp <;> omega) _ | refine Below.drew ?_ | refine below_drewN ?_ _ | exact Below.refl _ _))⟩
  · have b1 : ((m : Int) == cnt) = false := beq_eq_false_iff_ne.2 h
    have HZ := Lib.hid (show r = false by rw [HU.out, decide_eq_false h]; rfl)
    clear h HU
    go_enter Try.func97, Try.ntmps97
    go_wp2_with fail
    go_ret
    exact ⟨ret_bool HZ.out.symm, (by repeat (first | with_reducible exact Below.refl _ _ | exact Hid.out (by with_reducible assumption) | refine Below.setCell ?_ (by simp <;> omega) _ | refine below_alloc ?_ _ | refine Below.alloc ?_ (by simp <;> omega) _ | refine Below.drew ?_ | refine below_drewN ?_ _ | exact Below.refl _ _))⟩
end Go.Proofs.Ytfpombhhnojjhaa
