/- Keys of sounds: what both programs compute; a letter's digit on both sides. -/
import Derived.Test.YtcnamfjojdjjgaaSndL
import Derived.Test.YtcnamfjojdjjgaaComT
import Derived.Laws.Runes
set_option linter.unusedVariables false
namespace Go.Proofs.Ytcnamfjojdjjgaa
open Go.RowKit
/-- A letter's digit. -/
def sndD (c : Nat) : Nat := [48, 49, 50, 51, 48, 49, 50, 48, 48, 50, 50, 52, 53, 53, 48, 49, 50, 54, 50, 51, 48, 49, 48, 50, 48, 50].getD (c - 97) 0
/-- A digit as a text; 0 is none. -/
def digT (d : Nat) : ByteArray := if d = 48 then ⟨#[]⟩ else textL [d]
theorem let_cases {c : Nat} (h1 : 97 ≤ c) (h2 : c ≤ 122) : c = 97 ∨ c = 98 ∨ c = 99 ∨ c = 100 ∨ c = 101 ∨ c = 102 ∨ c = 103 ∨ c = 104 ∨ c = 105 ∨ c = 106 ∨ c = 107 ∨ c = 108 ∨ c = 109 ∨ c = 110 ∨ c = 111 ∨ c = 112 ∨ c = 113 ∨ c = 114 ∨ c = 115 ∨ c = 116 ∨ c = 117 ∨ c = 118 ∨ c = 119 ∨ c = 120 ∨ c = 121 ∨ c = 122 := by omega
theorem sndD_bd {c : Nat} (h1 : 97 ≤ c) (h2 : c ≤ 122) : 48 ≤ sndD c ∧ sndD c ≤ 54 := by
  rcases let_cases h1 h2 with rfl | rfl | rfl | rfl | rfl | rfl | rfl | rfl | rfl | rfl | rfl | rfl | rfl | rfl | rfl | rfl | rfl | rfl | rfl | rfl | rfl | rfl | rfl | rfl | rfl | rfl <;> decide
theorem soundOf_any (c : Nat) (w : World) (h1 : 97 ≤ c) (h2 : c ≤ 122) : Calls Try.prog 62 #[.int .i32 c] w fun e w' => e = .returned (.string (digT (sndD c))) ∧ w = w' := by
  rcases let_cases h1 h2 with rfl | rfl | rfl | rfl | rfl | rfl | rfl | rfl | rfl | rfl | rfl | rfl | rfl | rfl | rfl | rfl | rfl | rfl | rfl | rfl | rfl | rfl | rfl | rfl | rfl | rfl
  all_goals (
    clear h1 h2
    go_enter Try.func62, Try.ntmps62
    go_wp2
    go_ret
    exact ⟨rfl, rfl⟩)
theorem l04Sound_any (c : Nat) (w : World) (h1 : 97 ≤ c) (h2 : c ≤ 122) : Calls Try.prog 60 #[.int .u8 c] w fun e w' => e = .returned (.int .u8 (sndD c)) ∧ w = w' := by
  rcases let_cases h1 h2 with rfl | rfl | rfl | rfl | rfl | rfl | rfl | rfl | rfl | rfl | rfl | rfl | rfl | rfl | rfl | rfl | rfl | rfl | rfl | rfl | rfl | rfl | rfl | rfl | rfl | rfl
  all_goals (
    clear h1 h2
    go_enter Try.func60, Try.ntmps60
    go_wp2
    go_ret
    exact ⟨rfl, rfl⟩)
/-- What a letter does: the digit before, and the key so far. -/
def sndStep (st : Nat × List Nat) (c : Nat) : Nat × List Nat := if c = 104 ∨ c = 119 then st else (sndD c, if sndD c ≠ 48 ∧ sndD c ≠ st.1 then st.2 ++ [sndD c] else st.2)
/-- Behind the letters 0 .. k. -/
def sndAt (s : ByteArray) : Nat → Nat × List Nat
  | 0 => (sndD (bx s 0), [bx s 0])
  | k + 1 => sndStep (sndAt s k) (bx s (k + 1))
theorem sndStep_pre (st : Nat × List Nat) (c : Nat) : ∃ l, (sndStep st c).2 = st.2 ++ l ∧ l.length ≤ 1 := by
  unfold sndStep
  by_cases h : c = 104 ∨ c = 119
  · rw [if_pos h]; exact ⟨[], by simp, by simp⟩
  · rw [if_neg h]
    by_cases h2 : sndD c ≠ 48 ∧ sndD c ≠ st.1
    · exact ⟨[sndD c], by simp [h2], by simp⟩
    · exact ⟨[], by simp [h2], by simp⟩
theorem sndAt_pre (s : ByteArray) (k : Nat) : ∀ m, k ≤ m → ∃ l, (sndAt s m).2 = (sndAt s k).2 ++ l := by
  intro m
  induction m with
  | zero => intro h; obtain rfl : k = 0 := by omega
            exact ⟨[], by simp⟩
  | succ m ih =>
    intro h
    rcases Nat.lt_or_ge k (m + 1) with h2 | h2
    · obtain ⟨l, hl⟩ := ih (by omega)
      obtain ⟨l2, hl2, _⟩ := sndStep_pre (sndAt s m) (bx s (m + 1))
      exact ⟨l ++ l2, by show (sndStep (sndAt s m) (bx s (m + 1))).2 = _; rw [hl2, hl, List.append_assoc]⟩
    · obtain rfl : k = m + 1 := by omega
      exact ⟨[], by simp⟩
theorem sndAt_len (s : ByteArray) (k : Nat) : 1 ≤ (sndAt s k).2.length ∧ (sndAt s k).2.length ≤ k + 1 := by
  induction k with
  | zero => exact ⟨Nat.le_refl _, Nat.le_refl _⟩
  | succ k ih =>
    obtain ⟨l, hl, h1⟩ := sndStep_pre (sndAt s k) (bx s (k + 1))
    have e : (sndAt s (k + 1)).2 = (sndAt s k).2 ++ l := hl
    rw [e, List.length_append]
    omega
def soundL (s : ByteArray) : List Nat := ((sndAt s (s.size - 1)).2 ++ [48, 48, 48]).take 4
theorem soundL_len (s : ByteArray) : (soundL s).length = 4 := by
  have := sndAt_len s (s.size - 1)
  unfold soundL
  simp
  omega
/-- Four signs are enough, and so are all letters: noughts follow. -/
theorem sound_end (s : ByteArray) (k : Nat) (hk : k ≤ s.size - 1) (h4 : (sndAt s k).2.length ≤ 4) (h : k = s.size - 1 ∨ (sndAt s k).2.length = 4) : (soundL s).take (sndAt s k).2.length = (sndAt s k).2 ∧ ∀ m (hm : m < 4), (sndAt s k).2.length ≤ m → (soundL s)[m]'(by rw [soundL_len]; exact hm) = 48 := by
  rcases h with rfl | h
  · unfold soundL
    refine ⟨by rw [List.take_take, Nat.min_eq_left h4]; exact List.take_left, fun m hm hl => ?_⟩
    simp only [List.getElem_take]
    rw [List.getElem_append_right hl]
    have h1 := (sndAt_len s (s.size - 1)).1
    have : m - (sndAt s (s.size - 1)).2.length = 0 ∨ m - (sndAt s (s.size - 1)).2.length = 1 ∨ m - (sndAt s (s.size - 1)).2.length = 2 := by omega
    rcases this with e | e | e <;> simp [e]
  · obtain ⟨l, hl⟩ := sndAt_pre s k _ hk
    refine ⟨?_, fun m hm hl => by omega⟩
    unfold soundL
    rw [hl, List.append_assoc, h, List.take_take, Nat.min_self, ← h]
    exact List.take_left
def vSoundKey1 (s : ByteArray) : Bool := lettersB s && decide (1 ≤ s.size)
def vSoundKey0 (s : ByteArray) : ByteArray := if vSoundKey1 s then textL (soundL s) else ⟨#[]⟩
end Go.Proofs.Ytcnamfjojdjjgaa
