/- The laws on names and on check numbers. -/
import Derived.Test.YtfpombhhnojjhaaChecked
import Derived.Test.YtfpombhhnojjhaaRet
import Derived.WalkKit
import Derived.WalkLawsBesides
import Derived.Lib.Hide
import Derived.LoopTactic
import Derived.Laws.RangeAny
import Derived.Outline
set_option linter.unusedVariables false
namespace Go.Proofs.Ytfpombhhnojjhaa
open Go.RowKit


/-! ### Check numbers -/
def chkStep (n : Int) (c : UInt8) : Int := (919 * n + (c.toNat : Int) + 191) % 65003
def chkV (n : Int) (l : List UInt8) : Int := l.foldl chkStep n
theorem chk_bd (n : Int) (l : List UInt8) (h0 : 0 ≤ n) (h1 : n < 65003) : 0 ≤ chkV n l ∧ chkV n l < 65003 := by
  unfold chkV
  induction l generalizing n with
  | nil => exact ⟨h0, h1⟩
  | cons c l ih => exact ih _ (by unfold chkStep; omega) (by unfold chkStep; omega)
theorem take_snoc (s : ByteArray) (k : Nat) (h : k < s.size) : s.data.toList.take (k + 1) = s.data.toList.take k ++ [s[k]] := by
  rw [List.take_succ_eq_append_getElem (by simpa using h)]; rfl
theorem chk_snoc (n : Int) (l : List UInt8) (c : UInt8) : chkV n (l ++ [c]) = chkStep (chkV n l) c := by unfold chkV; rw [List.foldl_append]; rfl

theorem wrap_chk (x : Int) (c : UInt8) (h0 : 0 ≤ x) (h1 : x < 65003) : (wrap64 (wrap64 (919 * x + wrap64 (c.toNat : Int)) + 191)).tmod 65003 = (919 * x + (c.toNat : Int) + 191) % 65003 := by
  have hc : c.toNat < 256 := c.toNat_lt
  have e1 : wrap64 (c.toNat : Int) = (c.toNat : Int) := by unfold wrap64; omega
  rw [e1]
  have e2 : wrap64 (919 * x + (c.toNat : Int)) = 919 * x + (c.toNat : Int) := by unfold wrap64; omega
  rw [e2]
  have e3 : wrap64 (919 * x + (c.toNat : Int) + 191) = 919 * x + (c.toNat : Int) + 191 := by unfold wrap64; omega
  rw [e3]
  exact Int.tmod_eq_emod_of_nonneg (by omega)

theorem l01Check_any (a : Int) (s : ByteArray) (w : World) (h0 : 0 ≤ a) (h1 : a < 65003) (hs : s.size ≤ maxLen) : Calls Try.prog 149 #[.int .i64 a, .string s] w fun e w' => e = .returned (.int .i64 (chkV a s.data.toList)) ∧ w = w' := by
  unfold maxLen at hs
  go_enter Try.func149, Try.ntmps149
  go_wp2
  go_loop [0, 5] (fun v i => ∃ k : Nat, k ≤ s.size ∧ i = .int .i64 k ∧ v = .int .i64 (chkV a (s.data.toList.take k))) (fun _ i => s.size - (intOf i).toNat)
  case atStart => exact ⟨0, Nat.zero_le _, rfl, rfl⟩
  case round =>
    obtain ⟨k, hk, rfl, rfl⟩ := hrel
    by_cases hlt : k < s.size
    · have hb := chk_bd a (s.data.toList.take k) h0 h1
      have HS := Lib.hid (show chkV a (s.data.toList.take (k + 1)) = (919 * chkV a (s.data.toList.take k) + ((s[k]).toNat : Int) + 191) % 65003 by rw [take_snoc s k hlt, chk_snoc]; rfl)
      generalize chkV a (s.data.toList.take k) = x at *
      obtain ⟨hb0, hb1⟩ := hb
      go_wp2
      go_round
      case rel => exact ⟨k + 1, by omega, by go_num, by rw [HS.out, wrap_chk x _ hb0 hb1]⟩
      case measure => simp [intOf]; omega
    · go_wp2
      go_ret
      exact ⟨ret_int (by rw [List.take_of_length_le (by simp; omega)]), rfl⟩
theorem implCheck_no (a : Int) (s : ByteArray) (w : World) (h : a < 0 ∨ 65003 ≤ a) : Calls Try.prog 117 #[.int .i64 a, .string s] w fun e w' => e = .returned (.tuple #[.int .i64 0, .bool false]) ∧ w = w' := by
  by_cases h0 : a < 0
  · clear h
    go_enter Try.func117, Try.ntmps117
    go_wp2
    go_ret2
    exact ⟨rfl, rfl⟩
  · have h1 : 65003 ≤ a := by omega
    clear h
    go_enter Try.func117, Try.ntmps117
    go_wp2
    go_ret2
    exact ⟨rfl, rfl⟩
theorem implCheck_yes (a : Int) (s : ByteArray) (w : World) (h0 : 0 ≤ a) (h1 : a < 65003) (hs : s.size ≤ maxLen) : Calls Try.prog 117 #[.int .i64 a, .string s] w fun e w' => e = .returned (.tuple #[.int .i64 (chkV a s.data.toList), .bool true]) ∧ w = w' := by
  unfold maxLen at hs
  have n0 : ¬ a < 0 := by omega
  have n1 : ¬ 65003 ≤ a := by omega
  go_enter Try.func117, Try.ntmps117
  go_wp2
  go_loop [6, 17] (fun v i => ∃ k : Nat, k ≤ s.size ∧ i = .int .i64 k ∧ v = .int .i64 (chkV a (s.data.toList.take k))) (fun _ i => s.size - (intOf i).toNat)
  case atStart => exact ⟨0, Nat.zero_le _, rfl, rfl⟩
  case round =>
    obtain ⟨k, hk, rfl, rfl⟩ := hrel
    by_cases hlt : k < s.size
    · have hb := chk_bd a (s.data.toList.take k) h0 h1
      have HS := Lib.hid (show chkV a (s.data.toList.take (k + 1)) = (919 * chkV a (s.data.toList.take k) + ((s[k]).toNat : Int) + 191) % 65003 by rw [take_snoc s k hlt, chk_snoc]; rfl)
      generalize chkV a (s.data.toList.take k) = x at *
      obtain ⟨hb0, hb1⟩ := hb
      go_wp2
      go_round
      case rel => exact ⟨k + 1, by omega, by go_num, by rw [HS.out, wrap_chk x _ hb0 hb1]⟩
      case measure => simp [intOf]; omega
    · have HE := Lib.hid (show chkV a (s.data.toList.take k) = chkV a s.data.toList by rw [List.take_of_length_le (by simp; omega)])
      go_wp2
      go_ret2
      exact ⟨by rw [← HE.out]; rfl, rfl⟩

/-! ### Names -/
def isLow (c : UInt8) : Bool := decide (97 ≤ c.toNat) && decide (c.toNat ≤ 122)
def nameV (l : List UInt8) : Bool := l.all isLow && (decide (1 ≤ l.length) && decide (l.length ≤ 8))
theorem all_at (s : ByteArray) (k : Nat) (h : k < s.size) : (s.data.toList.take (k + 1)).all isLow = ((s.data.toList.take k).all isLow && isLow s[k]) := by
  rw [take_snoc s k h, List.all_append]; simp
theorem not_all (s : ByteArray) (k : Nat) (h : k < s.size) (hl : isLow s[k] = false) : nameV s.data.toList = false := by
  unfold nameV
  have : s.data.toList.all isLow = false := by
    rw [List.all_eq_false]
    refine ⟨s[k], ?_, by rw [hl]; decide⟩
    have : s[k] = s.data.toList[k]'(by simpa using h) := rfl
    rw [this]
    exact List.getElem_mem _
  rw [this]; rfl
theorem low_cases (c : UInt8) : (c.toNat < 97 ∧ isLow c = false) ∨ (97 ≤ c.toNat ∧ 122 < c.toNat ∧ isLow c = false) ∨ (97 ≤ c.toNat ∧ c.toNat ≤ 122 ∧ isLow c = true) := by
  unfold isLow
  by_cases h1 : 97 ≤ c.toNat
  · by_cases h2 : c.toNat ≤ 122
    · right; right; exact ⟨h1, h2, by simp [h1, h2]⟩
    · right; left; exact ⟨h1, by omega, by simp [h2]⟩
  · left; exact ⟨by omega, by simp [h1]⟩

theorem l07Name_any (s : ByteArray) (w : World) (hs : s.size ≤ maxLen) : Calls Try.prog 144 #[.string s] w fun e w' => e = .returned (.bool (nameV s.data.toList)) ∧ w = w' := by
  unfold maxLen at hs
  go_enter Try.func144, Try.ntmps144
  go_wp2
  go_loop [3] (fun i => ∃ k : Nat, k ≤ s.size ∧ i = .int .i64 k ∧ Hid ((s.data.toList.take k).all isLow = true)) (fun i => s.size - (intOf i).toNat)
  case atStart => exact ⟨0, Nat.zero_le _, rfl, rfl⟩
  case round =>
    obtain ⟨k, hk, rfl, hall⟩ := hrel
    by_cases hlt : k < s.size
    · have HS := Lib.hid (all_at s k hlt)
      have HN := Lib.hid (not_all s k hlt)
      rcases low_cases s[k] with ⟨h1, h2⟩ | ⟨h1, h2, h3⟩ | ⟨h1, h2, h3⟩
      · have L := Lib.hid h2
        have d1 : ((s[k].toNat : Int)) < 97 := by omega
        clear h2 h1
        go_wp2
        go_ret
        exact ⟨ret_bool (HN.out L.out).symm, rfl⟩
      · have L := Lib.hid h3
        have d1 : ¬ ((s[k].toNat : Int)) < 97 := by omega
        have d2 : 122 < ((s[k].toNat : Int)) := by omega
        clear h3 h1 h2
        go_wp2
        go_ret
        exact ⟨ret_bool (HN.out L.out).symm, rfl⟩
      · have L := Lib.hid h3
        have d1 : ¬ ((s[k].toNat : Int)) < 97 := by omega
        have d2 : ¬ 122 < ((s[k].toNat : Int)) := by omega
        clear h3 h1 h2
        go_wp2
        go_round
        case rel => exact ⟨k + 1, by omega, by go_num, by unfold Hid; rw [HS.out, L.out, hall]; rfl⟩
        case measure => simp [intOf]; omega
    · have hk2 : k = s.size := by omega
      subst hk2
      have HA := Lib.hid (show nameV s.data.toList = (decide (1 ≤ s.size) && decide (s.size ≤ 8)) by
        have h := hall
        unfold Hid at h
        rw [List.take_of_length_le (by simp)] at h
        unfold nameV
        rw [h]
        simp)
      clear hall
      by_cases h1 : 1 ≤ s.size
      · have d1 : (1 : Int) ≤ (s.size : Int) := by omega
        by_cases h8 : s.size ≤ 8
        · have d2 : (s.size : Int) ≤ 8 := by omega
          go_wp2
          go_ret
          exact ⟨ret_bool (by rw [HA.out]; simp [h1, h8]), rfl⟩
        · have d2 : ¬ (s.size : Int) ≤ 8 := by omega
          go_wp2
          go_ret
          exact ⟨ret_bool (by rw [HA.out]; simp [h8]), rfl⟩
      · have d1 : ¬ (1 : Int) ≤ (s.size : Int) := by omega
        go_wp2
        go_ret
        exact ⟨ret_bool (by rw [HA.out]; simp [h1]), rfl⟩
theorem nameV_size {s : ByteArray} (h : s.size < 1 ∨ 8 < s.size) : nameV s.data.toList = false := by
  unfold nameV
  have : s.data.toList.length = s.size := by simp
  rw [this]
  rcases h with h | h
  · rw [show decide (1 ≤ s.size) = false from decide_eq_false (by omega)]; simp
  · rw [show decide (s.size ≤ 8) = false from decide_eq_false (by omega)]; simp
theorem below_iter (w : World) (s : ByteArray) (p : Nat) : Below w.heap.size w (w.iter s p) := (Below.refl _ _).alloc (Nat.le_refl _) _

set_option maxRecDepth 100000 in
theorem implIsName_any (s : ByteArray) (w : World) (hs : s.size ≤ maxLen) : Calls Try.prog 109 #[.string s] w fun e w' => e = .returned (.bool (nameV s.data.toList)) ∧ Below w.heap.size w w' := by
  unfold maxLen at hs
  by_cases h1 : s.size < 1
  · have HA := Lib.hid (nameV_size (.inl h1))
    have d1 : (s.size : Int) < 1 := by omega
    go_enter Try.func109, Try.ntmps109
    go_wp2
    go_ret
    exact ⟨ret_bool HA.out.symm, Below.refl _ _⟩
  · have d1 : ¬ (s.size : Int) < 1 := by omega
    by_cases h8 : 8 < s.size
    · have HA := Lib.hid (nameV_size (.inr h8))
      have d2 : (8 : Int) < (s.size : Int) := by omega
      go_enter Try.func109, Try.ntmps109
      go_wp2
      go_ret
      exact ⟨ret_bool HA.out.symm, Below.refl _ _⟩
    · have d2 : ¬ (8 : Int) < (s.size : Int) := by omega
      have HL := Lib.hid (show (decide (1 ≤ s.data.toList.length) && decide (s.data.toList.length ≤ 8)) = true by
        have : s.data.toList.length = s.size := by simp
        rw [this]; simp; omega)
      go_enter Try.func109, Try.ntmps109
      go_wp2
      go_loopw [4] (fun r wr => ∃ k : Nat, k ≤ s.size ∧ wr = w.iter s k ∧ Hid ((s.data.toList.take k).all isLow = true)) (fun _ wr => s.size - wr.iterPos w.heap.size)
      case atStart => exact ⟨0, Nat.zero_le _, rfl, rfl⟩
      case round =>
        obtain ⟨k, hk, rfl, hall⟩ := hrel
        by_cases hlt : k < s.size
        · have HS := Lib.hid (all_at s k hlt)
          have HN := Lib.hid (not_all s k hlt)
          rcases low_cases s[k] with ⟨h1, h2⟩ | ⟨h1, h2, h3⟩ | ⟨h1, h2, h3⟩
          · have L := Lib.hid h2
            have hnx := fun ty => run_next_ascii (P := Try.prog) w s k ty hlt (by omega)
            have e1 : ((s[k].toNat : Int)) < 97 := by omega
            clear h2 h1
            generalize ((s[k].toNat : Nat)) = c at *
            go_wp2
            go_ret
            exact ⟨ret_bool (HN.out L.out).symm, below_iter _ _ _⟩
          · have L := Lib.hid h3
            by_cases ha : s[k].toNat < 128
            · have hnx := fun ty => run_next_ascii (P := Try.prog) w s k ty hlt ha
              have e1 : ¬ ((s[k].toNat : Int)) < 97 := by omega
              have e2 : 122 < ((s[k].toNat : Int)) := by omega
              clear h3 h1 h2 ha
              generalize ((s[k].toNat : Nat)) = c at *
              go_wp2
              go_ret
              exact ⟨ret_bool (HN.out L.out).symm, below_iter _ _ _⟩
            · have hnx := fun ty => run_next_any (P := Try.prog) w s k ty hlt
              have hd := (decode_high s k hlt (by omega)).1
              generalize (Utf8.decode s k).1 = c at *
              generalize (Utf8.decode s k).2 = q at *
              have e1 : ¬ ((c : Int)) < 97 := by omega
              have e2 : 122 < ((c : Int)) := by omega
              clear h3 h1 h2 ha hd
              go_wp2
              go_ret
              exact ⟨ret_bool (HN.out L.out).symm, below_iter _ _ _⟩
          · have L := Lib.hid h3
            have hnx := fun ty => run_next_ascii (P := Try.prog) w s k ty hlt (by omega)
            have e1 : ¬ ((s[k].toNat : Int)) < 97 := by omega
            have e2 : ¬ 122 < ((s[k].toNat : Int)) := by omega
            clear h3 h1 h2
            generalize ((s[k].toNat : Nat)) = c at *
            go_wp2
            go_roundw
            case rel => exact ⟨k + 1, by omega, rfl, by unfold Hid; rw [HS.out, L.out, hall]; rfl⟩
            case measure => simp; omega
        · have hnx := fun ty => run_next_end (P := Try.prog) w s k ty hlt
          have HA := Lib.hid (show nameV s.data.toList = true by
            have h := hall
            unfold Hid at h
            rw [List.take_of_length_le (by simp; omega)] at h
            unfold nameV
            rw [h, HL.out]; rfl)
          clear hall HL
          go_wp2
          go_ret
          exact ⟨ret_bool HA.out.symm, below_iter _ _ _⟩

end Go.Proofs.Ytfpombhhnojjhaa
