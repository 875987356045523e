/- Texts of letters: both sides. -/
import Derived.Test.YtcnamfjojdjjgaaTexts
import Derived.Test.YtcnamfjojdjjgaaEditI2
import Derived.Laws.RangeString
import Derived.Laws.RangeAny
set_option linter.unusedVariables false
namespace Go.Proofs.Ytcnamfjojdjjgaa
open Go.RowKit
def letB (c : Nat) : Bool := decide (97 ≤ c) && decide (c ≤ 122)
def letsB (s : ByteArray) : Nat → Bool
  | 0 => true
  | n + 1 => letsB s n && letB (bx s n)
theorem letsB_iff {s : ByteArray} {n : Nat} : letsB s n = true ↔ ∀ k, k < n → letB (bx s k) = true := by
  induction n with
  | zero => exact ⟨fun _ k hk => by omega, fun _ => rfl⟩
  | succ n ih =>
    rw [letsB, Bool.and_eq_true, ih]
    refine ⟨fun ⟨h1, h2⟩ k hk => ?_, fun h => ⟨fun k hk => h k (by omega), h n (by omega)⟩⟩
    rcases Nat.lt_or_ge k n with h | h
    · exact h1 k h
    · obtain rfl : k = n := by omega
      exact h2
theorem letsB_no {s : ByteArray} {n k : Nat} (hk : k < n) (h : letB (bx s k) = false) : letsB s n = false := by
  cases hl : letsB s n
  · rfl
  · rw [letsB_iff.1 hl k hk] at h; cases h
theorem letB_cases (c : Nat) : (c < 97 ∧ letB c = false) ∨ (97 ≤ c ∧ 122 < c ∧ letB c = false) ∨ (97 ≤ c ∧ c ≤ 122 ∧ letB c = true) := by
  unfold letB
  by_cases h1 : 97 ≤ c
  · by_cases h2 : c ≤ 122
    · exact .inr (.inr ⟨h1, h2, by simp [h1, h2]⟩)
    · exact .inr (.inl ⟨h1, by omega, by simp [h2]⟩)
  · exact .inl ⟨by omega, by simp [h1]⟩
def lettersB (s : ByteArray) : Bool := textB s && letsB s s.size
theorem isLetter_any (c : Nat) (w : World) : Calls Try.prog 81 #[.int .i32 c] w fun e w' => e = .returned (.bool (letB c)) ∧ w = w' := by
  rcases letB_cases c with ⟨h1, h2⟩ | ⟨h1, h2, h3⟩ | ⟨h1, h2, h3⟩
  · have L := Lib.hid h2
    have d1 : ¬ (97 : Int) ≤ (c : Int) := by omega
    have d2 : ¬ 97 ≤ c := by omega
    clear h1 h2
    go_enter Try.func81, Try.ntmps81
    go_wp2
    go_ret
    exact ⟨ret_bool (by rw [L.out]), rfl⟩
  · have L := Lib.hid h3
    have d1 : (97 : Int) ≤ (c : Int) := by omega
    have d2 : ¬ (c : Int) ≤ 122 := by omega
    have d3 : ¬ c ≤ 122 := by omega
    clear h2 h3
    go_enter Try.func81, Try.ntmps81
    go_wp2
    go_ret
    exact ⟨ret_bool (by rw [L.out]), rfl⟩
  · have L := Lib.hid h3
    have d1 : (97 : Int) ≤ (c : Int) := by omega
    have d2 : (c : Int) ≤ 122 := by omega
    clear h3
    go_enter Try.func81, Try.ntmps81
    go_wp2
    go_ret
    exact ⟨ret_bool (by rw [L.out]), rfl⟩
theorem isNone_any (c : Nat) (w : World) : Calls Try.prog 80 #[.int .i32 c] w fun e w' => e = .returned (.bool (!letB c)) ∧ w = w' := by
  have HI := Lib.hid (fun W => isLetter_any c W)
  generalize letB c = r at *
  go_enter Try.func80, Try.ntmps80
  go_wp2_with fail
  refine (HI.out _).mono ?_
  rintro e w' ⟨rfl, rfl⟩
  go_wp2_with fail
  go_ret
  exact ⟨rfl, rfl⟩
/-- Where the first other byte stands, or -1. -/
def IdxL (b : Bool) (s : ByteArray) (e : Ending) : Prop := ∃ i : Int, e = .returned (.int .i64 i) ∧ decide (0 ≤ i) = b
theorem indexLetters_any (s : ByteArray) (w : World) (hs : s.size ≤ 48) :
    Calls Try.prog 91 #[.string s, .func (.func 80) #[] #[], .bool true] w fun e w' => IdxL (!letsB s s.size) s e ∧ Below w.heap.size w w' := by
  have HC := Lib.hid (fun c W => isNone_any c W)
  have HNO := Lib.hid (fun k (hk : k < s.size) (h : letB (bx s k) = false) => letsB_no hk h)
  have HYES := Lib.hid (fun (h : ∀ k, k < s.size → letB (bx s k) = true) => letsB_iff.2 h)
  generalize letsB s s.size = R at *
  go_enter Try.func91, Try.ntmps91
  go_wp2_with fail
  go_loopw [7] (fun _ wr => ∃ k : Nat, k ≤ s.size ∧ wr = w.iter s k ∧ Hid (∀ j, j < k → letB (bx s j) = true)) (fun _ wr => s.size - wr.iterPos w.heap.size)
  case atStart => exact ⟨0, Nat.zero_le _, rfl, fun j hj => by omega⟩
  case round =>
    obtain ⟨k, hk, rfl, HP⟩ := hrel
    by_cases hlt : k < s.size
    · have hbx : (s[k]'hlt).toNat = bx s k := bx_eq hlt
      have HNk := Lib.hid (HNO.out k hlt)
      have HPk := Lib.hid (show letB (bx s k) = true → ∀ j, j < k + 1 → letB (bx s j) = true from fun e j hj => by
        rcases Nat.lt_or_ge j k with h | h
        · exact HP.out j h
        · obtain rfl : j = k := by omega
          exact e)
      have hnx := fun ty => run_next_any (P := Try.prog) w s k ty hlt
      by_cases ha : bx s k < 128
      · have hdec := decode_ascii s k hlt (by omega)
        rw [hdec, hbx] at hnx
        clear hdec hbx ha
        generalize bx s k = c at *
        simp only at hnx
        cases hbad : letB c
        · have HR := Lib.hid (HNk.out hbad)
          clear HNk HPk
          have HCk := Lib.hid (HC.out c)
          rw [hbad] at HCk
          clear hbad
          go_wp2_with fail
          refine (HCk.out _).mono ?_
          rintro e w' ⟨rfl, rfl⟩
          go_wp2_with fail
          go_ret
          exact ⟨⟨k, rfl, by rw [HR.out]; simp⟩, (Below.refl _ _).alloc (Nat.le_refl _) _⟩
        · have HR := Lib.hid (HPk.out hbad)
          have HCk := Lib.hid (HC.out c)
          rw [hbad] at HCk
          clear HNk HPk hbad
          go_wp2_with fail
          refine (HCk.out _).mono ?_
          rintro e w' ⟨rfl, rfl⟩
          go_wp2_with fail
          go_roundw
          case rel => exact ⟨k + 1, by omega, rfl, HR.out⟩
          case measure => simp; omega
      · have hd := (decode_high s k hlt (by omega)).1
        have HR := Lib.hid (HNk.out (by unfold letB; simp; omega))
        generalize (Utf8.decode s k).1 = c at *
        generalize (Utf8.decode s k).2 = q at *
        have hbad : letB c = false := by unfold letB; simp; omega
        clear HNk HPk hbx ha hd
        have HCk := Lib.hid (HC.out c)
        rw [hbad] at HCk
        clear hbad
        go_wp2_with fail
        refine (HCk.out _).mono ?_
        rintro e w' ⟨rfl, rfl⟩
        go_wp2_with fail
        go_ret
        exact ⟨⟨k, rfl, by rw [HR.out]; simp⟩, (Below.refl _ _).alloc (Nat.le_refl _) _⟩
    · have hnx := fun ty => run_next_end (P := Try.prog) w s k ty hlt
      have HR := Lib.hid (HYES.out (fun j hj => HP.out j (by omega)))
      go_wp2_with fail
      go_ret
      exact ⟨⟨-1, rfl, by rw [HR.out]; rfl⟩, (Below.refl _ _).alloc (Nat.le_refl _) _⟩
theorem indexLetters2_any (s : ByteArray) (w : World) (hs : s.size ≤ 48) :
    Calls Try.prog 87 #[.string s, .func (.func 80) #[] #[]] w fun e w' => IdxL (!letsB s s.size) s e ∧ Below w.heap.size w w' := by
  have HI := Lib.hid (fun W => indexLetters_any s W hs)
  generalize letsB s s.size = R at *
  go_enter Try.func87, Try.ntmps87
  go_wp2_with fail
  refine (HI.out _).mono ?_
  rintro e w' ⟨⟨j, rfl, hj⟩, hb⟩
  have HJ := Lib.hid hj
  have HB := Lib.hid hb
  clear hj hb
  go_wp2_with fail
  go_ret
  exact ⟨⟨j, rfl, HJ.out⟩, HB.out⟩
theorem containsLetters_any (s : ByteArray) (w : World) (hs : s.size ≤ 48) :
    Calls Try.prog 82 #[.string s, .func (.func 80) #[] #[]] w fun e w' => e = .returned (.bool (!letsB s s.size)) ∧ Below w.heap.size w w' := by
  have HI := Lib.hid (fun W => indexLetters2_any s W hs)
  generalize letsB s s.size = R at *
  go_enter Try.func82, Try.ntmps82
  go_wp2_with fail
  refine (HI.out _).mono ?_
  rintro e w' ⟨⟨j, rfl, hj⟩, hb⟩
  have HJ := Lib.hid hj
  have HB := Lib.hid hb
  clear hj hb
  by_cases h : 0 ≤ j
  · have HD := Lib.hid (decide_eq_true h)
    go_wp2_with fail
    go_ret
    exact ⟨ret_bool (by rw [← HJ.out, HD.out]), HB.out⟩
  · have HD := Lib.hid (decide_eq_false h)
    go_wp2_with fail
    go_ret
    exact ⟨ret_bool (by rw [← HJ.out, HD.out]), HB.out⟩
theorem textB_le' {s : ByteArray} (h : textB s = true) : s.size ≤ 48 := by unfold textB at h; exact of_decide_eq_true h
theorem isLetterText_any (s : ByteArray) (w : World) : Calls Try.prog 61 #[.string s] w fun e w' => e = .returned (.bool (lettersB s)) ∧ Below w.heap.size w w' := by
  have HT := Lib.hid (fun W => implIsText_any s W)
  have HV := Lib.hid (show lettersB s = (textB s && letsB s s.size) from rfl)
  cases ht : textB s
  · rw [ht] at HT HV
    clear ht
    go_enter Try.func61, Try.ntmps61
    go_wp2_with fail
    refine (HT.out _).mono ?_
    rintro e w' ⟨rfl, rfl⟩
    go_wp2_with fail
    go_ret
    exact ⟨ret_bool (by rw [HV.out]; rfl), Below.refl _ _⟩
  · have HC := Lib.hid (fun W => containsLetters_any s W (textB_le' ht))
    rw [ht] at HT HV
    clear ht
    generalize letsB s s.size = R at *
    go_enter Try.func61, Try.ntmps61
    go_wp2_with fail
    refine (HT.out _).mono ?_
    rintro e w' ⟨rfl, rfl⟩
    go_wp2_with fail
    refine (HC.out _).mono ?_
    rintro e w' ⟨rfl, hb⟩
    have HB := Lib.hid hb
    clear hb
    go_wp2_with fail
    go_ret
    exact ⟨ret_bool (by rw [HV.out]; cases R <;> rfl), HB.out⟩
theorem l04Letters_any (s : ByteArray) (w : World) (hs : s.size ≤ 1048576) : Calls Try.prog 59 #[.string s] w fun e w' => e = .returned (.bool (lettersB s)) ∧ w = w' := by
  have HT := Lib.hid (fun W => l04Text_any s W)
  have HV := Lib.hid (show lettersB s = (textB s && letsB s s.size) from rfl)
  have HNO := Lib.hid (fun k (hk : k < s.size) (h : letB (bx s k) = false) => letsB_no hk h)
  have HYES := Lib.hid (fun (h : ∀ k, k < s.size → letB (bx s k) = true) => letsB_iff.2 h)
  generalize letsB s s.size = R at *
  generalize lettersB s = V at *
  generalize textB s = T at *
  go_enter Try.func59, Try.ntmps59
  go_wp2
  go_loop [3] (fun i => ∃ k : Nat, k ≤ s.size ∧ i = .int .i64 k ∧ Hid (∀ j, j < k → letB (bx s j) = true)) (fun i => s.size - (intOf i).toNat)
  case atStart => exact ⟨0, Nat.zero_le _, rfl, fun j hj => by omega⟩
  case round =>
    obtain ⟨k, hk, rfl, HP⟩ := hrel
    by_cases hlt : k < s.size
    · have hbx : (s[k]'hlt).toNat = bx s k := bx_eq hlt
      have d0 : (k : Int) < s.size := by omega
      have HNk := Lib.hid (HNO.out k hlt)
      have HPk := Lib.hid (show letB (bx s k) = true → ∀ j, j < k + 1 → letB (bx s j) = true from fun e j hj => by
        rcases Nat.lt_or_ge j k with h | h
        · exact HP.out j h
        · obtain rfl : j = k := by omega
          exact e)
      rcases letB_cases (bx s k) with ⟨h1, h2⟩ | ⟨h1, h2, h3⟩ | ⟨h1, h2, h3⟩
      · have HR := Lib.hid (HNk.out h2)
        have d1 : ((s[k].toNat : Int)) < 97 := by omega
        clear h2 h1 HNk HPk hbx
        go_wp2
        go_ret
        exact ⟨ret_bool (by rw [HV.out, HR.out]; cases T <;> rfl), rfl⟩
      · have HR := Lib.hid (HNk.out h3)
        have d1 : ¬ ((s[k].toNat : Int)) < 97 := by omega
        have d2 : 122 < ((s[k].toNat : Int)) := by omega
        clear h2 h1 h3 HNk HPk hbx
        go_wp2
        go_ret
        exact ⟨ret_bool (by rw [HV.out, HR.out]; cases T <;> rfl), rfl⟩
      · have HR := Lib.hid (HPk.out h3)
        have d1 : ¬ ((s[k].toNat : Int)) < 97 := by omega
        have d2 : ¬ 122 < ((s[k].toNat : Int)) := by omega
        clear h2 h1 h3 HNk HPk hbx
        go_wp2
        go_round
        case rel => exact ⟨k + 1, by omega, by go_num, HR.out⟩
        case measure => simp [intOf]; omega
    · have d0 : ¬ (k : Int) < s.size := by omega
      have HR := Lib.hid (HYES.out (fun j hj => HP.out j (by omega)))
      go_wp2_with fail
      refine (HT.out _).mono ?_
      rintro e w' ⟨rfl, rfl⟩
      go_wp2_with fail
      go_ret
      exact ⟨ret_bool (by rw [HV.out, HR.out]; cases T <;> rfl), rfl⟩
end Go.Proofs.Ytcnamfjojdjjgaa
