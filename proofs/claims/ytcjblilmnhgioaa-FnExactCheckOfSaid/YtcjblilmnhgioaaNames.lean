/- The laws on names and on check numbers. -/
import Derived.Test.YtcjblilmnhgioaaChecked
import Derived.WalkKit
import Derived.WalkLawsBesides
import Derived.Lib.Hide
import Derived.LoopTactic
import Derived.Laws.RangeAny
import Derived.Outline
set_option linter.unusedVariables false
namespace Go.Proofs.Ytcjblilmnhgioaa
open Go.RowKit

theorem ret_bool {a b : Bool} (h : a = b) : Ending.returned (.bool a) = .returned (.bool b) := by rw [h]
theorem ret_int {k : IntKind} {a b : Int} (h : a = b) : Ending.returned (.int k a) = .returned (.int k b) := by rw [h]

/-! ### Check numbers -/
def chkStep (n : Int) (c : UInt8) : Int := (919 * n + (c.toNat : Int) + 191) % 65003
def chkV (n : Int) (l : List UInt8) : Int := l.foldl chkStep n
theorem chk_bd (n : Int) (l : List UInt8) (h0 : 0 ≤ n) (h1 : n < 65003) : 0 ≤ chkV n l ∧ chkV n l < 65003 := by
  unfold chkV
  induction l generalizing n with
  | nil => exact ⟨h0, h1⟩
  | cons c l ih => exact ih _ (by unfold chkStep; omega) (by unfold chkStep; omega)
theorem take_snoc (s : ByteArray) (k : Nat) (h : k < s.size) : s.data.toList.take (k + 1) = s.data.toList.take k ++ [s[k]] := by
  rw [List.take_succ_eq_append_getElem (by simpa using h)]; rfl
theorem chk_snoc (n : Int) (l : List UInt8) (c : UInt8) : chkV n (l ++ [c]) = chkStep (chkV n l) c := by unfold chkV; rw [List.foldl_append]; rfl

theorem wrap_chk (x : Int) (c : UInt8) (h0 : 0 ≤ x) (h1 : x < 65003) : (wrap64 (wrap64 (919 * x + wrap64 (c.toNat : Int)) + 191)).tmod 65003 = (919 * x + (c.toNat : Int) + 191) % 65003 := by
  have hc : c.toNat < 256 := c.toNat_lt
  have e1 : wrap64 (c.toNat : Int) = (c.toNat : Int) := by unfold wrap64; omega
  rw [e1]
  have e2 : wrap64 (919 * x + (c.toNat : Int)) = 919 * x + (c.toNat : Int) := by unfold wrap64; omega
  rw [e2]
  have e3 : wrap64 (919 * x + (c.toNat : Int) + 191) = 919 * x + (c.toNat : Int) + 191 := by unfold wrap64; omega
  rw [e3]
  exact Int.tmod_eq_emod_of_nonneg (by omega)

theorem l01Check_any (a : Int) (s : ByteArray) (w : World) (h0 : 0 ≤ a) (h1 : a < 65003) (hs : s.size ≤ maxLen) : Calls Try.prog 10 #[.int .i64 a, .string s] w fun e w' => e = .returned (.int .i64 (chkV a s.data.toList)) ∧ w = w' := by
  unfold maxLen at hs
  go_enter Try.func10, Try.ntmps10
  go_wp2
  go_loop [0, 5] (fun v i => ∃ k : Nat, k ≤ s.size ∧ i = .int .i64 k ∧ v = .int .i64 (chkV a (s.data.toList.take k))) (fun _ i => s.size - (intOf i).toNat)
  case atStart => exact ⟨0, Nat.zero_le _, rfl, rfl⟩
  case round =>
    obtain ⟨k, hk, rfl, rfl⟩ := hrel
    by_cases hlt : k < s.size
    · have hb := chk_bd a (s.data.toList.take k) h0 h1
      have HS := Lib.hid (show chkV a (s.data.toList.take (k + 1)) = (919 * chkV a (s.data.toList.take k) + ((s[k]).toNat : Int) + 191) % 65003 by rw [take_snoc s k hlt, chk_snoc]; rfl)
      generalize chkV a (s.data.toList.take k) = x at *
      obtain ⟨hb0, hb1⟩ := hb
      go_wp2
      go_round
      case rel => exact ⟨k + 1, by omega, by go_num, by rw [HS.out, wrap_chk x _ hb0 hb1]⟩
      case measure => simp [intOf]; omega
    · go_wp2
      go_ret
      exact ⟨ret_int (by rw [List.take_of_length_le (by simp; omega)]), rfl⟩
theorem implCheck_no (a : Int) (s : ByteArray) (w : World) (h : a < 0 ∨ 65003 ≤ a) : Calls Try.prog 8 #[.int .i64 a, .string s] w fun e w' => e = .returned (.tuple #[.int .i64 0, .bool false]) ∧ w = w' := by
  by_cases h0 : a < 0
  · clear h
    go_enter Try.func8, Try.ntmps8
    go_wp2
    go_ret2
    exact ⟨rfl, rfl⟩
  · have h1 : 65003 ≤ a := by omega
    clear h
    go_enter Try.func8, Try.ntmps8
    go_wp2
    go_ret2
    exact ⟨rfl, rfl⟩
theorem implCheck_yes (a : Int) (s : ByteArray) (w : World) (h0 : 0 ≤ a) (h1 : a < 65003) (hs : s.size ≤ maxLen) : Calls Try.prog 8 #[.int .i64 a, .string s] w fun e w' => e = .returned (.tuple #[.int .i64 (chkV a s.data.toList), .bool true]) ∧ w = w' := by
  unfold maxLen at hs
  have n0 : ¬ a < 0 := by omega
  have n1 : ¬ 65003 ≤ a := by omega
  go_enter Try.func8, Try.ntmps8
  go_wp2
  go_loop [6, 17] (fun v i => ∃ k : Nat, k ≤ s.size ∧ i = .int .i64 k ∧ v = .int .i64 (chkV a (s.data.toList.take k))) (fun _ i => s.size - (intOf i).toNat)
  case atStart => exact ⟨0, Nat.zero_le _, rfl, rfl⟩
  case round =>
    obtain ⟨k, hk, rfl, rfl⟩ := hrel
    by_cases hlt : k < s.size
    · have hb := chk_bd a (s.data.toList.take k) h0 h1
      have HS := Lib.hid (show chkV a (s.data.toList.take (k + 1)) = (919 * chkV a (s.data.toList.take k) + ((s[k]).toNat : Int) + 191) % 65003 by rw [take_snoc s k hlt, chk_snoc]; rfl)
      generalize chkV a (s.data.toList.take k) = x at *
      obtain ⟨hb0, hb1⟩ := hb
      go_wp2
      go_round
      case rel => exact ⟨k + 1, by omega, by go_num, by rw [HS.out, wrap_chk x _ hb0 hb1]⟩
      case measure => simp [intOf]; omega
    · have HE := Lib.hid (show chkV a (s.data.toList.take k) = chkV a s.data.toList by rw [List.take_of_length_le (by simp; omega)])
      go_wp2
      go_ret2
      exact ⟨by rw [← HE.out]; rfl, rfl⟩
theorem specCheck_no (a : Int) (s : ByteArray) (w : World) (h : a < 0 ∨ 65003 ≤ a) : Calls Try.prog 7 #[.int .i64 a, .string s] w fun e w' => e = .returned (.tuple #[.int .i64 0, .bool false]) ∧ w = w' := by
  by_cases h0 : 0 ≤ a
  · have h1 : ¬ a ≤ 65002 := by omega
    clear h
    go_enter Try.func7, Try.ntmps7
    go_wp2
    go_ret2
    exact ⟨rfl, rfl⟩
  · clear h
    go_enter Try.func7, Try.ntmps7
    go_wp2
    go_ret2
    exact ⟨rfl, rfl⟩
theorem specCheck_yes (a : Int) (s : ByteArray) (w : World) (h0 : 0 ≤ a) (h1 : a < 65003) (hs : s.size ≤ maxLen) : Calls Try.prog 7 #[.int .i64 a, .string s] w fun e w' => e = .returned (.tuple #[.int .i64 (chkV a s.data.toList), .bool true]) ∧ w = w' := by
  have h2 : a ≤ 65002 := by omega
  go_enter Try.func7, Try.ntmps7
  go_wp2_with (first | (go_at_call 10; refine (l01Check_any a s _ h0 h1 hs).mono ?_; rintro e w' ⟨rfl, rfl⟩) | go_in)
  go_ret2
  exact ⟨rfl, rfl⟩
theorem fnExactCheckOf.walk (a : Int) (s : ByteArray) (w : World) (wa : (Lit.int .i64 a).wf = true) (ws : s.size ≤ maxLen) : Calls Try.prog 4 #[.int .i64 a, .string s] w fun e w' => e = .returned (.bool true) ∧ Below w.heap.size w w' := by
  have WS := Lib.hid ws
  unfold maxLen at ws
  by_cases hl : 1048576 < s.size
  · have hl' : (1048576 : Int) < (s.size : Int) := by omega
    go_enter Try.func4, Try.ntmps4
    go_wp2_with fail
    go_ret
    exact ⟨rfl, Below.refl _ _⟩
  · have hl' : ¬ (1048576 : Int) < (s.size : Int) := by omega
    by_cases h : a < 0 ∨ 65003 ≤ a
    · go_enter Try.func4, Try.ntmps4
      go_wp2_with fail
      refine (specCheck_no a s _ h).mono ?_
      rintro e w' ⟨rfl, rfl⟩
      go_wp2_with fail
      refine (implCheck_no a s _ h).mono ?_
      rintro e w' ⟨rfl, rfl⟩
      go_wp2_with fail
      go_ret
      exact ⟨rfl, Below.refl _ _⟩
    · have h0 : 0 ≤ a := by omega
      have h1 : a < 65003 := by omega
      clear h
      go_enter Try.func4, Try.ntmps4
      go_wp2_with fail
      refine (specCheck_yes a s _ h0 h1 WS.out).mono ?_
      rintro e w' ⟨rfl, rfl⟩
      go_wp2_with fail
      refine (implCheck_yes a s _ h0 h1 WS.out).mono ?_
      rintro e w' ⟨rfl, rfl⟩
      go_wp2_with fail
      go_ret
      exact ⟨rfl, Below.refl _ _⟩

end Go.Proofs.Ytcjblilmnhgioaa
