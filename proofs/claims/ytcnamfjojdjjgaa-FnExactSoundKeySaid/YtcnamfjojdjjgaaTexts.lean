/- Texts and costs: whether lists have them. -/
import Derived.Test.YtcnamfjojdjjgaaChecked
import Derived.Test.YtcnamfjojdjjgaaCells
import Derived.Test.YtcnamfjojdjjgaaRet
import Derived.WalkKit
import Derived.LoopTactic
import Derived.Laws.RangeAny
import Derived.Outline
set_option linter.unusedVariables false
namespace Go.Proofs.Ytcnamfjojdjjgaa
open Go.RowKit

def textB (s : ByteArray) : Bool := decide (s.size ≤ 48)
/-- All of a list are texts. -/
def textsB (u : Nat → ByteArray) : Nat → Bool
  | 0 => true
  | k + 1 => textsB u k && textB (u k)
theorem textsB_iff {u : Nat → ByteArray} {r : Nat} : textsB u r = true ↔ ∀ k, k < r → textB (u k) = true := by
  induction r with
  | zero => exact ⟨fun _ k hk => by omega, fun _ => rfl⟩
  | succ r ih =>
    simp only [textsB, Bool.and_eq_true, ih]
    constructor
    · rintro ⟨h1, h2⟩ k hk
      rcases Nat.lt_or_ge k r with h | h
      · exact h1 k h
      · obtain rfl : k = r := by omega
        exact h2
    · intro h
      exact ⟨fun k hk => h k (by omega), h r (by omega)⟩
theorem textsB_no {u : Nat → ByteArray} {r k : Nat} (hk : k < r) (h : textB (u k) = false) : textsB u r = false := by
  rw [← Bool.not_eq_true, textsB_iff]
  intro g
  rw [g k hk] at h
  cases h
theorem textB_cases (s : ByteArray) : (s.size ≤ 48 ∧ textB s = true) ∨ (¬ s.size ≤ 48 ∧ textB s = false) := by
  unfold textB
  by_cases h : s.size ≤ 48
  · exact .inl ⟨h, decide_eq_true h⟩
  · exact .inr ⟨h, decide_eq_false h⟩

theorem implIsText_any (s : ByteArray) (w : World) : Calls Try.prog 14 #[.string s] w fun e w' => e = .returned (.bool (textB s)) ∧ w = w' := by
  rcases textB_cases s with ⟨h, e⟩ | ⟨h, e⟩
  · have d : (s.size : Int) ≤ 48 := by omega
    rw [e]
    go_enter Try.func14, Try.ntmps14
    go_wp2
    go_ret
    exact ⟨rfl, rfl⟩
  · have d : ¬ (s.size : Int) ≤ 48 := by omega
    rw [e]
    go_enter Try.func14, Try.ntmps14
    go_wp2
    go_ret
    exact ⟨rfl, rfl⟩
theorem l04Text_any (s : ByteArray) (w : World) : Calls Try.prog 36 #[.string s] w fun e w' => e = .returned (.bool (textB s)) ∧ w = w' := by
  rcases textB_cases s with ⟨h, e⟩ | ⟨h, e⟩
  · have d : (s.size : Int) ≤ 48 := by omega
    rw [e]
    go_enter Try.func36, Try.ntmps36
    go_wp2
    go_ret
    exact ⟨rfl, rfl⟩
  · have d : ¬ (s.size : Int) ≤ 48 := by omega
    rw [e]
    go_enter Try.func36, Try.ntmps36
    go_wp2
    go_ret
    exact ⟨rfl, rfl⟩
theorem specIsText_any (s : ByteArray) (w : World) : Calls Try.prog 13 #[.string s] w fun e w' => e = .returned (.bool (textB s)) ∧ w = w' := by
  go_enter Try.func13, Try.ntmps13
  go_wp2_with (first | (go_at_call 36; refine (l04Text_any s _).mono ?_; rintro e w' ⟨rfl, rfl⟩) | go_in)
  go_ret
  exact ⟨rfl, rfl⟩
theorem l04Two_any (a b : ByteArray) (w : World) : Calls Try.prog 37 #[.string a, .string b] w fun e w' => e = .returned (.bool (textB a && textB b)) ∧ w = w' := by
  have HA := Lib.hid (fun W => l04Text_any a W)
  have HB := Lib.hid (fun W => l04Text_any b W)
  cases ha : textB a
  · rw [ha] at HA
    go_enter Try.func37, Try.ntmps37
    go_wp2_with fail
    refine (HA.out _).mono ?_
    rintro e w' ⟨rfl, rfl⟩
    go_wp2_with fail
    go_ret
    exact ⟨rfl, rfl⟩
  · rw [ha] at HA
    generalize textB b = r at *
    go_enter Try.func37, Try.ntmps37
    go_wp2_with fail
    refine (HA.out _).mono ?_
    rintro e w' ⟨rfl, rfl⟩
    go_wp2_with fail
    refine (HB.out _).mono ?_
    rintro e w' ⟨rfl, rfl⟩
    go_wp2_with fail
    go_ret
    exact ⟨ret_bool (by cases r <;> rfl), rfl⟩
theorem areTexts1_any (s : ByteArray) (w : World) : Calls Try.prog 65 #[.string s] w fun e w' => e = .returned (.bool (!textB s)) ∧ w = w' := by
  have HI := Lib.hid (fun W => implIsText_any s W)
  generalize textB s = r at *
  go_enter Try.func65, Try.ntmps65
  go_wp2_with fail
  refine (HI.out _).mono ?_
  rintro e w' ⟨rfl, rfl⟩
  go_wp2_with fail
  go_ret
  exact ⟨rfl, rfl⟩
/-- Whether a list has one of another kind, told by its index. -/
def IdxResT (b : Bool) (r : Nat) (e : Ending) : Prop := ∃ i : Int, e = .returned (.int .i64 i) ∧ (decide (0 ≤ i)) = b ∧ -1 ≤ i ∧ i ≤ r
theorem indexTexts_any (E : Option Addr) (r i : Nat) (u : Nat → ByteArray) (w : World) (hr : r ≤ 1048576) (hE : Cells w E r (fun i => .string (u i))) :
    Calls Try.prog 83 #[.slice E r i, .func (.func 65) #[] #[]] w fun e w' => IdxResT (!textsB u r) r e ∧ w = w' := by
  have HE := Lib.hid hE
  have HC := Lib.hid (fun s => areTexts1_any s w)
  have HNO := Lib.hid (fun k (hk : k < r) (h : textB (u k) = false) => textsB_no hk h)
  have HYES := Lib.hid (fun (h : ∀ k, k < r → textB (u k) = true) => textsB_iff.2 h)
  clear hE
  generalize textsB u r = R at *
  go_enter Try.func83, Try.ntmps83
  go_wp2_with fail
  go_loop [5, 8] (fun _ j => ∃ k : Nat, k ≤ r ∧ j = .int .i64 k ∧ Hid (∀ j, j < k → textB (u j) = true)) (fun _ j => r - (intOf j).toNat)
  case atStart => exact ⟨0, Nat.zero_le _, rfl, fun j hj => by omega⟩
  case round =>
    obtain ⟨k, hk, rfl, HP⟩ := hrel
    by_cases hlt : k < r
    · have d1 : (k : Int) < r := by omega
      obtain ⟨y, rfl, hy0⟩ := HE.out k hlt
      have hy : w.cell? (y.add k) = some (.string (u k)) := hy0
      clear hy0
      have HNk := Lib.hid (HNO.out k hlt)
      have HPk := Lib.hid (show textB (u k) = true → ∀ j, j < k + 1 → textB (u j) = true from fun e j hj => by
        rcases Nat.lt_or_ge j k with h | h
        · exact HP.out j h
        · obtain rfl : j = k := by omega
          exact e)
      generalize u k = z at *
      have HCk := Lib.hid (HC.out z)
      cases hz : textB z
      · rw [hz] at HCk
        have HR := Lib.hid (HNk.out hz)
        clear hz HNk HPk
        go_wp2_with fail
        refine HCk.out.mono ?_
        rintro e w' ⟨rfl, rfl⟩
        go_wp2_with fail
        go_ret
        exact ⟨⟨k, rfl, by rw [HR.out]; simp, by omega, by omega⟩, rfl⟩
      · rw [hz] at HCk
        have HR := Lib.hid (HPk.out hz)
        clear hz HNk HPk
        go_wp2_with fail
        refine HCk.out.mono ?_
        rintro e w' ⟨rfl, rfl⟩
        go_wp2_with fail
        go_round
        case rel => exact ⟨k + 1, by omega, by go_num, HR.out⟩
        case measure => simp [intOf]; omega
    · have d1 : ¬ (k : Int) < r := by omega
      obtain rfl : r = k := by omega
      have HR := Lib.hid (HYES.out HP.out)
      go_wp2_with fail
      go_ret
      exact ⟨⟨-1, rfl, by rw [HR.out]; rfl, by omega, by omega⟩, rfl⟩
theorem containsTexts_any (E : Option Addr) (r i : Nat) (u : Nat → ByteArray) (w : World) (hr : r ≤ 1048576) (hE : Cells w E r (fun i => .string (u i))) :
    Calls Try.prog 66 #[.slice E r i, .func (.func 65) #[] #[]] w fun e w' => e = .returned (.bool (!textsB u r)) ∧ w = w' := by
  have HI := Lib.hid (indexTexts_any E r i u w hr hE)
  clear hE
  generalize textsB u r = R at *
  go_enter Try.func66, Try.ntmps66
  go_wp2_with fail
  refine HI.out.mono ?_
  rintro e w' ⟨⟨j, rfl, hj, j1, j2⟩, rfl⟩
  have HJ := Lib.hid hj
  clear hj
  by_cases h : 0 ≤ j
  · have HD := Lib.hid (decide_eq_true h)
    go_wp2_with fail
    go_ret
    exact ⟨ret_bool (by rw [← HJ.out, HD.out]), rfl⟩
  · have HD := Lib.hid (decide_eq_false h)
    go_wp2_with fail
    go_ret
    exact ⟨ret_bool (by rw [← HJ.out, HD.out]), rfl⟩
theorem areTexts_any (E : Option Addr) (r i : Nat) (u : Nat → ByteArray) (w : World) (hr : r ≤ 1048576) (hE : Cells w E r (fun i => .string (u i))) :
    Calls Try.prog 40 #[.slice E r i] w fun e w' => e = .returned (.bool (textsB u r)) ∧ w = w' := by
  have HC := Lib.hid (containsTexts_any E r i u w hr hE)
  clear hE
  generalize textsB u r = R at *
  go_enter Try.func40, Try.ntmps40
  go_wp2_with fail
  refine HC.out.mono ?_
  rintro e w' ⟨rfl, rfl⟩
  go_wp2_with fail
  go_ret
  exact ⟨ret_bool (by cases R <;> rfl), rfl⟩
/-- Two strings in a block. -/
def two (a b : ByteArray) (i : Nat) : ByteArray := if i = 0 then a else b
theorem textsB_two (a b : ByteArray) : textsB (two a b) 2 = (textB a && textB b) := by
  show ((true && textB (two a b 0)) && textB (two a b 1)) = _
  simp [two]
theorem cells_two {w : World} {B : Nat} {a b : ByteArray} {t : TypeId} (h : w.heap.size = B) : Cells (w.alloc (.cells #[.string a, .string b] t)) (some ⟨B, 0, none⟩) 2 (fun i => .string (two a b i)) := fun k hk => by
  subst h
  refine ⟨_, rfl, ?_⟩
  rw [add0]
  rcases (show k = 0 ∨ k = 1 by omega) with rfl | rfl <;> simp [go_sem, two]
/-! ### Costs -/
def costB (n : Int) : Bool := decide (0 ≤ n) && decide (n ≤ 1000)
def costsB (u : Nat → Int) : Nat → Bool
  | 0 => true
  | k + 1 => costsB u k && costB (u k)
theorem costsB_iff {u : Nat → Int} {r : Nat} : costsB u r = true ↔ ∀ k, k < r → costB (u k) = true := by
  induction r with
  | zero => exact ⟨fun _ k hk => by omega, fun _ => rfl⟩
  | succ r ih =>
    simp only [costsB, Bool.and_eq_true, ih]
    constructor
    · rintro ⟨h1, h2⟩ k hk
      rcases Nat.lt_or_ge k r with h | h
      · exact h1 k h
      · obtain rfl : k = r := by omega
        exact h2
    · intro h
      exact ⟨fun k hk => h k (by omega), h r (by omega)⟩
theorem costsB_no {u : Nat → Int} {r k : Nat} (hk : k < r) (h : costB (u k) = false) : costsB u r = false := by
  rw [← Bool.not_eq_true, costsB_iff]
  intro g
  rw [g k hk] at h
  cases h
theorem costB_cases (n : Int) : (0 ≤ n ∧ n ≤ 1000 ∧ costB n = true) ∨ (0 ≤ n ∧ ¬ n ≤ 1000 ∧ costB n = false) ∨ (¬ 0 ≤ n ∧ costB n = false) := by
  unfold costB
  by_cases h : 0 ≤ n
  · by_cases k : n ≤ 1000
    · exact .inl ⟨h, k, by simp [h, k]⟩
    · exact .inr (.inl ⟨h, k, by simp [k]⟩)
  · exact .inr (.inr ⟨h, by simp [h]⟩)
theorem betweenC_any (n : Int) (w : World) : Calls Try.prog 57 #[.int .i64 n, .int .i64 0, .int .i64 1000] w fun e w' => e = .returned (.bool (costB n)) ∧ w = w' := by
  rcases costB_cases n with ⟨h1, h2, e⟩ | ⟨h1, h2, e⟩ | ⟨h1, e⟩ <;> rw [e] <;> clear e
  · go_enter Try.func57, Try.ntmps57
    go_wp2
    go_ret
    exact ⟨ret_bool (by simp <;> omega), rfl⟩
  · go_enter Try.func57, Try.ntmps57
    go_wp2
    go_ret
    exact ⟨ret_bool (by simp <;> omega), rfl⟩
  · go_enter Try.func57, Try.ntmps57
    go_wp2
    go_ret
    exact ⟨ret_bool (by simp <;> omega), rfl⟩
theorem areWeights1_any (n : Int) (w : World) : Calls Try.prog 67 #[.int .i64 n] w fun e w' => e = .returned (.bool (!costB n)) ∧ w = w' := by
  have HI := Lib.hid (fun W => betweenC_any n W)
  generalize costB n = r at *
  go_enter Try.func67, Try.ntmps67
  go_wp2_with fail
  refine (HI.out _).mono ?_
  rintro e w' ⟨rfl, rfl⟩
  go_wp2_with fail
  go_ret
  exact ⟨rfl, rfl⟩
theorem indexCosts_any (E : Option Addr) (r i : Nat) (u : Nat → Int) (w : World) (hr : r ≤ 1048576) (hE : Cells w E r (fun i => .int .i64 (u i))) :
    Calls Try.prog 84 #[.slice E r i, .func (.func 67) #[] #[]] w fun e w' => IdxResT (!costsB u r) r e ∧ w = w' := by
  have HE := Lib.hid hE
  have HC := Lib.hid (fun s => areWeights1_any s w)
  have HNO := Lib.hid (fun k (hk : k < r) (h : costB (u k) = false) => costsB_no hk h)
  have HYES := Lib.hid (fun (h : ∀ k, k < r → costB (u k) = true) => costsB_iff.2 h)
  clear hE
  generalize costsB u r = R at *
  go_enter Try.func84, Try.ntmps84
  go_wp2_with fail
  go_loop [5, 8] (fun _ j => ∃ k : Nat, k ≤ r ∧ j = .int .i64 k ∧ Hid (∀ j, j < k → costB (u j) = true)) (fun _ j => r - (intOf j).toNat)
  case atStart => exact ⟨0, Nat.zero_le _, rfl, fun j hj => by omega⟩
  case round =>
    obtain ⟨k, hk, rfl, HP⟩ := hrel
    by_cases hlt : k < r
    · have d1 : (k : Int) < r := by omega
      obtain ⟨y, rfl, hy0⟩ := HE.out k hlt
      have hy : w.cell? (y.add k) = some (.int .i64 (u k)) := hy0
      clear hy0
      have HNk := Lib.hid (HNO.out k hlt)
      have HPk := Lib.hid (show costB (u k) = true → ∀ j, j < k + 1 → costB (u j) = true from fun e j hj => by
        rcases Nat.lt_or_ge j k with h | h
        · exact HP.out j h
        · obtain rfl : j = k := by omega
          exact e)
      generalize u k = z at *
      have HCk := Lib.hid (HC.out z)
      cases hz : costB z
      · rw [hz] at HCk
        have HR := Lib.hid (HNk.out hz)
        clear hz HNk HPk
        go_wp2_with fail
        refine HCk.out.mono ?_
        rintro e w' ⟨rfl, rfl⟩
        go_wp2_with fail
        go_ret
        exact ⟨⟨k, rfl, by rw [HR.out]; simp, by omega, by omega⟩, rfl⟩
      · rw [hz] at HCk
        have HR := Lib.hid (HPk.out hz)
        clear hz HNk HPk
        go_wp2_with fail
        refine HCk.out.mono ?_
        rintro e w' ⟨rfl, rfl⟩
        go_wp2_with fail
        go_round
        case rel => exact ⟨k + 1, by omega, by go_num, HR.out⟩
        case measure => simp [intOf]; omega
    · have d1 : ¬ (k : Int) < r := by omega
      obtain rfl : r = k := by omega
      have HR := Lib.hid (HYES.out HP.out)
      go_wp2_with fail
      go_ret
      exact ⟨⟨-1, rfl, by rw [HR.out]; rfl, by omega, by omega⟩, rfl⟩
theorem containsCosts_any (E : Option Addr) (r i : Nat) (u : Nat → Int) (w : World) (hr : r ≤ 1048576) (hE : Cells w E r (fun i => .int .i64 (u i))) :
    Calls Try.prog 68 #[.slice E r i, .func (.func 67) #[] #[]] w fun e w' => e = .returned (.bool (!costsB u r)) ∧ w = w' := by
  have HI := Lib.hid (indexCosts_any E r i u w hr hE)
  clear hE
  generalize costsB u r = R at *
  go_enter Try.func68, Try.ntmps68
  go_wp2_with fail
  refine HI.out.mono ?_
  rintro e w' ⟨⟨j, rfl, hj, j1, j2⟩, rfl⟩
  have HJ := Lib.hid hj
  clear hj
  by_cases h : 0 ≤ j
  · have HD := Lib.hid (decide_eq_true h)
    go_wp2_with fail
    go_ret
    exact ⟨ret_bool (by rw [← HJ.out, HD.out]), rfl⟩
  · have HD := Lib.hid (decide_eq_false h)
    go_wp2_with fail
    go_ret
    exact ⟨ret_bool (by rw [← HJ.out, HD.out]), rfl⟩
theorem areWeights_any (E : Option Addr) (r i : Nat) (u : Nat → Int) (w : World) (hr : r ≤ 1048576) (hE : Cells w E r (fun i => .int .i64 (u i))) :
    Calls Try.prog 41 #[.slice E r i] w fun e w' => e = .returned (.bool (costsB u r)) ∧ w = w' := by
  have HC := Lib.hid (containsCosts_any E r i u w hr hE)
  clear hE
  generalize costsB u r = R at *
  go_enter Try.func41, Try.ntmps41
  go_wp2_with fail
  refine HC.out.mono ?_
  rintro e w' ⟨rfl, rfl⟩
  go_wp2_with fail
  go_ret
  exact ⟨ret_bool (by cases R <;> rfl), rfl⟩
theorem l00InC_any (n : Int) (w : World) : Calls Try.prog 63 #[.int .i64 n, .int .i64 0, .int .i64 1000] w fun e w' => e = .returned (.bool (costB n)) ∧ w = w' := by
  rcases costB_cases n with ⟨h1, h2, e⟩ | ⟨h1, h2, e⟩ | ⟨h1, e⟩ <;> rw [e] <;> clear e
  · go_enter Try.func63, Try.ntmps63
    go_wp2
    go_ret
    exact ⟨ret_bool (by simp <;> omega), rfl⟩
  · go_enter Try.func63, Try.ntmps63
    go_wp2
    go_ret
    exact ⟨ret_bool (by simp <;> omega), rfl⟩
  · go_enter Try.func63, Try.ntmps63
    go_wp2
    go_ret
    exact ⟨ret_bool (by simp <;> omega), rfl⟩
theorem l04Costs_any (E : Option Addr) (r i : Nat) (u : Nat → Int) (w : World) (hr : r ≤ 1048576) (hE : Cells w E r (fun i => .int .i64 (u i))) :
    Calls Try.prog 38 #[.slice E r i] w fun e w' => e = .returned (.bool (costsB u r)) ∧ w = w' := by
  have HE := Lib.hid hE
  have HC := Lib.hid (fun s => l00InC_any s w)
  have HNO := Lib.hid (fun k (hk : k < r) (h : costB (u k) = false) => costsB_no hk h)
  have HYES := Lib.hid (fun (h : ∀ k, k < r → costB (u k) = true) => costsB_iff.2 h)
  clear hE
  generalize costsB u r = R at *
  go_enter Try.func38, Try.ntmps38
  go_wp2_with fail
  go_loop [3] (fun j => ∃ k : Nat, k ≤ r ∧ j = .int .i64 k ∧ Hid (∀ j, j < k → costB (u j) = true)) (fun j => r - (intOf j).toNat)
  case atStart => exact ⟨0, Nat.zero_le _, rfl, fun j hj => by omega⟩
  case round =>
    obtain ⟨k, hk, rfl, HP⟩ := hrel
    by_cases hlt : k < r
    · have d1 : (k : Int) < r := by omega
      obtain ⟨y, rfl, hy0⟩ := HE.out k hlt
      have hy : w.cell? (y.add k) = some (.int .i64 (u k)) := hy0
      clear hy0
      have HNk := Lib.hid (HNO.out k hlt)
      have HPk := Lib.hid (show costB (u k) = true → ∀ j, j < k + 1 → costB (u j) = true from fun e j hj => by
        rcases Nat.lt_or_ge j k with h | h
        · exact HP.out j h
        · obtain rfl : j = k := by omega
          exact e)
      generalize u k = z at *
      have HCk := Lib.hid (HC.out z)
      cases hz : costB z
      · rw [hz] at HCk
        have HR := Lib.hid (HNk.out hz)
        clear hz HNk HPk
        go_wp2_with fail
        refine HCk.out.mono ?_
        rintro e w' ⟨rfl, rfl⟩
        go_wp2_with fail
        go_ret
        exact ⟨ret_bool HR.out.symm, rfl⟩
      · rw [hz] at HCk
        have HR := Lib.hid (HPk.out hz)
        clear hz HNk HPk
        go_wp2_with fail
        refine HCk.out.mono ?_
        rintro e w' ⟨rfl, rfl⟩
        go_wp2_with fail
        go_round
        case rel => exact ⟨k + 1, by omega, by go_num, HR.out⟩
        case measure => simp [intOf]; omega
    · have d1 : ¬ (k : Int) < r := by omega
      obtain rfl : r = k := by omega
      have HR := Lib.hid (HYES.out HP.out)
      go_wp2_with fail
      go_ret
      exact ⟨ret_bool HR.out.symm, rfl⟩
def row3 (a b c : Int) (i : Nat) : Int := if i = 0 then a else if i = 1 then b else c
theorem costsB_3 (a b c : Int) : costsB (row3 a b c) 3 = (costB a && costB b && costB c) := by
  show (((true && costB (row3 a b c 0)) && costB (row3 a b c 1)) && costB (row3 a b c 2)) = _
  simp [row3]
theorem cells_3 {w : World} {B : Nat} {a b c : Int} {t : TypeId} (h : w.heap.size = B) : Cells (w.alloc (.cells #[.int .i64 a, .int .i64 b, .int .i64 c] t)) (some ⟨B, 0, none⟩) 3 (fun i => .int .i64 (row3 a b c i)) := fun k hk => by
  subst h
  refine ⟨_, rfl, ?_⟩
  rw [add0]
  rcases (show k = 0 ∨ k = 1 ∨ k = 2 by omega) with rfl | rfl | rfl <;> simp [go_sem, row3]
def row4 (a b c d : Int) (i : Nat) : Int := if i = 0 then a else if i = 1 then b else if i = 2 then c else d
theorem costsB_4 (a b c d : Int) : costsB (row4 a b c d) 4 = (costB a && costB b && costB c && costB d) := by
  show ((((true && costB (row4 a b c d 0)) && costB (row4 a b c d 1)) && costB (row4 a b c d 2)) && costB (row4 a b c d 3)) = _
  simp [row4]
theorem cells_4 {w : World} {B : Nat} {a b c d : Int} {t : TypeId} (h : w.heap.size = B) : Cells (w.alloc (.cells #[.int .i64 a, .int .i64 b, .int .i64 c, .int .i64 d] t)) (some ⟨B, 0, none⟩) 4 (fun i => .int .i64 (row4 a b c d i)) := fun k hk => by
  subst h
  refine ⟨_, rfl, ?_⟩
  rw [add0]
  rcases (show k = 0 ∨ k = 1 ∨ k = 2 ∨ k = 3 by omega) with rfl | rfl | rfl | rfl <;> simp [go_sem, row4]
end Go.Proofs.Ytcnamfjojdjjgaa
