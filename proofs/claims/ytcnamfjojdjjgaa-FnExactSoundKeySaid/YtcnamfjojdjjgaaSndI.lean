/- SoundKey: the program's law. -/
import Derived.Test.YtcnamfjojdjjgaaSndS
set_option linter.unusedVariables false
namespace Go.Proofs.Ytcnamfjojdjjgaa
open Go.RowKit
theorem toL_ne {a b : ByteArray} (h : a ≠ b) : (a.toList == b.toList) = false := by
  cases e : a.toList == b.toList
  · rfl
  · have := eq_of_beq e
    rw [ByteArray.toList_eq, ByteArray.toList_eq] at this
    exact absurd (ByteArray.ext (Array.ext' this)) h
theorem sndD_le (c : Nat) : sndD c ≤ 54 := by
  unfold sndD
  rcases Nat.lt_or_ge (c - 97) 26 with h | h
  · generalize c - 97 = i at *
    revert i
    decide
  · rw [List.getD, List.getElem?_eq_none (by simpa using h)]
    simp
theorem sndAt_le (s : ByteArray) (k : Nat) : (sndAt s k).1 ≤ 54 := by
  induction k with
  | zero => exact sndD_le _
  | succ k ih =>
    show (sndStep (sndAt s k) (bx s (k + 1))).1 ≤ 54
    unfold sndStep
    split
    · exact ih
    · exact sndD_le _
theorem textL_inj {c d : Nat} (hc : c < 256) (hd : d < 256) (h : textL [c] = textL [d]) : c = d := by
  unfold textL at h
  injection h with h
  simp at h
  have := congrArg UInt8.toNat h
  simp [UInt8.toNat_ofNat', Nat.mod_eq_of_lt hc, Nat.mod_eq_of_lt hd] at this
  omega
theorem digT_ne {c d : Nat} (hc : c ≤ 54) (hd : d ≤ 54) (h : c ≠ d) : digT c ≠ digT d := by
  intro e
  unfold digT at e
  by_cases h1 : c = 48
  · by_cases h2 : d = 48
    · omega
    · rw [if_pos h1, if_neg h2] at e
      have := congrArg ByteArray.size e
      rw [textL_size] at this
      cases this
  · by_cases h2 : d = 48
    · rw [if_neg h1, if_pos h2] at e
      have := congrArg ByteArray.size e
      rw [textL_size] at this
      cases this
    · rw [if_neg h1, if_neg h2] at e
      exact h (textL_inj (by omega) (by omega) e)
theorem textL_take4 (l : List Nat) (h : 4 ≤ l.length) : (textL l).extract 0 4 = textL (l.take 4) := by
  unfold textL
  apply ByteArray.ext
  apply Array.ext'
  simp [ByteArray.data_extract, List.map_take]
/-- What the loop holds ahead of letter k. -/
def keyI (s : ByteArray) (k : Nat) : ByteArray := if k = 0 then ⟨#[]⟩ else textL (sndAt s (k - 1)).2
def lastI (s : ByteArray) (k : Nat) : ByteArray := if k = 0 then ⟨#[]⟩ else digT (sndAt s (k - 1)).1
/-- What a letter does to them. -/
structure SndGo (s : ByteArray) (k : Nat) : Prop where
  zero : k = 0 → keyI s k ++ textL [bx s k] = keyI s (k + 1) ∧ lastI s (k + 1) = digT (sndD (bx s k))
  skip : 0 < k → (bx s k = 104 ∨ bx s k = 119) → keyI s (k + 1) = keyI s k ∧ lastI s (k + 1) = lastI s k
  ne : 0 < k → ¬ (bx s k = 104 ∨ bx s k = 119) → digT (sndD (bx s k)) ≠ lastI s k → keyI s k ++ digT (sndD (bx s k)) = keyI s (k + 1) ∧ lastI s (k + 1) = digT (sndD (bx s k))
  eq : 0 < k → ¬ (bx s k = 104 ∨ bx s k = 119) → digT (sndD (bx s k)) = lastI s k → keyI s (k + 1) = keyI s k ∧ lastI s (k + 1) = digT (sndD (bx s k))
theorem snd_go (s : ByteArray) (k : Nat) : SndGo s k := by
  cases k with
  | zero =>
    refine ⟨fun _ => ⟨?_, rfl⟩, fun h => by omega, fun h => by omega, fun h => by omega⟩
    show (⟨#[]⟩ : ByteArray) ++ textL [bx s 0] = textL [bx s 0]
    apply ByteArray.ext
    simp [textL]
  | succ K =>
    have e1 : keyI s (K + 1) = textL (sndAt s K).2 := rfl
    have e2 : lastI s (K + 1) = digT (sndAt s K).1 := rfl
    have e3 : keyI s (K + 1 + 1) = textL (sndStep (sndAt s K) (bx s (K + 1))).2 := rfl
    have e4 : lastI s (K + 1 + 1) = digT (sndStep (sndAt s K) (bx s (K + 1))).1 := rfl
    have hd := sndAt_le s K
    have hq := sndD_le (bx s (K + 1))
    refine ⟨fun h => by omega, fun _ h => ?_, fun _ h hne => ?_, fun _ h heq => ?_⟩
    · rw [e3, e4, e1, e2]
      unfold sndStep
      rw [if_pos h]
      exact ⟨rfl, rfl⟩
    · rw [e2] at hne
      rw [e3, e4, e1]
      unfold sndStep
      rw [if_neg h]
      have h2 : sndD (bx s (K + 1)) ≠ (sndAt s K).1 := fun e => hne (by rw [e])
      refine ⟨?_, rfl⟩
      by_cases h48 : sndD (bx s (K + 1)) = 48
      · have e5 : digT (sndD (bx s (K + 1))) = textL [] := by unfold digT; rw [if_pos h48]; rfl
        rw [e5, textL_app]
        simp [h48]
      · have e5 : digT (sndD (bx s (K + 1))) = textL [sndD (bx s (K + 1))] := by unfold digT; rw [if_neg h48]
        rw [e5, textL_app]
        simp [h48, h2]
    · rw [e2] at heq
      rw [e3, e4, e1]
      unfold sndStep
      rw [if_neg h]
      have h2 : sndD (bx s (K + 1)) = (sndAt s K).1 := by
        rcases Nat.decEq (sndD (bx s (K + 1))) (sndAt s K).1 with h2 | h2
        · exact absurd heq (digT_ne hq hd h2)
        · exact h2
      exact ⟨by simp [h2], rfl⟩
theorem keyI_size (s : ByteArray) (k : Nat) : (keyI s k).size ≤ k := by
  cases k with
  | zero => exact Nat.le_refl _
  | succ K =>
    show (textL (sndAt s K).2).size ≤ _
    rw [textL_size]
    have := (sndAt_len s K).2
    omega
theorem keyI_end (s : ByteArray) (h : 1 ≤ s.size) : keyI s s.size ++ ⟨#[48, 48, 48]⟩ = textL ((sndAt s (s.size - 1)).2 ++ [48, 48, 48]) := by
  unfold keyI
  rw [if_neg (by omega), ← textL_app]
  rfl
set_option maxRecDepth 20000 in
set_option maxHeartbeats 4000000 in
theorem implSoundKey_law (s : ByteArray) (w : World) (h0 : s.size ≤ 1048576) :
    Calls Try.prog 35 #[.string s] w fun e w' => e = .returned (.tuple #[.string (vSoundKey0 s), .bool (vSoundKey1 s)]) ∧ Below w.heap.size w w' := by
  have HT := Lib.hid (fun W => isLetterText_any s W)
  have HV0 := Lib.hid (show vSoundKey0 s = if vSoundKey1 s then textL (soundL s) else ⟨#[]⟩ from rfl)
  have HV1 := Lib.hid (show vSoundKey1 s = (lettersB s && decide (1 ≤ s.size)) from rfl)
  generalize vSoundKey0 s = v0 at *
  generalize vSoundKey1 s = v1 at *
  cases ht : lettersB s
  · rw [ht] at HT HV1
    clear ht
    go_enter Try.func35, Try.ntmps35
    go_wp2_with fail
    refine (HT.out _).mono ?_
    rintro e u1 ⟨rfl, hb⟩
    have HB := Lib.hid hb
    clear hb
    go_wp2_with fail
    go_ret2
    exact ⟨ret_sb' (by rw [HV0.out, HV1.out]; rfl) (by rw [HV1.out]; rfl), HB.out⟩
  · have hlet : letsB s s.size = true ∧ s.size ≤ 48 := by
      unfold lettersB at ht
      rw [Bool.and_eq_true] at ht
      exact ⟨ht.2, textB_le' ht.1⟩
    rw [ht] at HT HV1
    clear ht
    by_cases h1 : 1 ≤ s.size
    · rw [decide_eq_true h1] at HV1
      have hsz := hlet.2
      have HLet := Lib.hid (show ∀ k, k < s.size → 97 ≤ bx s k ∧ bx s k ≤ 122 from fun k hk => by have := letsB_iff.1 hlet.1 k hk; unfold letB at this; simpa using this)
      have hne : s ≠ ⟨#[]⟩ := fun e => by rw [e] at h1; revert h1; decide
      have hne2 : s.toList.isEmpty = false := by
        rw [ByteArray.toList_eq]
        cases hl : s.data.toList with
        | nil => exact absurd (ByteArray.ext (Array.ext' hl)) hne
        | cons _ _ => rfl
      clear hne
      clear hlet
      go_enter Try.func35, Try.ntmps35
      go_wp2_with fail
      refine (HT.out _).mono ?_
      rintro e u1 ⟨rfl, hb⟩
      have HB := Lib.hid hb
      clear hb
      go_wp2_with fail
      go_loopw [4, 5] (fun kk ll wr => ∃ (k : Nat), k ≤ s.size ∧ kk = .string (keyI s k) ∧ ll = .string (lastI s k) ∧ u1.iter s k = wr) (fun _ _ wr => s.size - wr.iterPos u1.heap.size)
      case atStart => exact ⟨0, by omega, rfl, rfl, rfl⟩
      case round =>
        obtain ⟨k, hk, rfl, rfl, rfl⟩ := hrel
        by_cases hlt : k < s.size
        · have hbx : (s[k]'hlt).toNat = bx s k := bx_eq hlt
          obtain ⟨hc1, hc2⟩ := HLet.out k hlt
          have HSo := Lib.hid (fun W => soundOf_any (bx s k) W hc1 hc2)
          have hnx := fun ty => run_next_ascii (P := Try.prog) u1 s k ty hlt (by omega)
          rw [hbx] at hnx
          have hg := snd_go s k
          have hks := keyI_size s k
          clear hbx
          rcases Nat.eq_zero_or_pos k with hk0 | hk0
          · obtain ⟨g1, g2⟩ := hg.zero hk0
            have hcv := fun W => convert_ascii (bx s k) (by omega) W
            have hadd := fun W => run_string_add_sum (P := Try.prog) W (keyI s k) (textL [bx s k]) (by rw [textL_size]; simp; omega)
            rw [g1] at hadd
            have HR := Lib.hid (show keyI s (k + 1) = keyI s (k + 1) ∧ lastI s (k + 1) = digT (sndD (bx s k)) from ⟨rfl, g2⟩)
            have i1 : decide ((0 : Int) < (k : Int)) = false := decide_eq_false (by omega)
            have i2 : decide (0 < k) = false := decide_eq_false (by omega)
            have i3 : ((k : Int) == 0) = true := by simp; omega
            clear g1 g2 hg hc1 hc2 hk0
            generalize sndD (bx s k) = q at *
            generalize bx s k = c at *
            go_wp2_with (first
              |
                (go_at_call 62
                 refine (HSo.out _).mono ?_
                 rintro e w' ⟨rfl, rfl⟩)
              )
            go_roundw
            case rel => exact ⟨k + 1, by omega, rfl, by rw [HR.out.2], rfl⟩
            case measure => simp; omega
          · have i1 : decide ((0 : Int) < (k : Int)) = true := decide_eq_true (by omega)
            have i2 : decide (0 < k) = true := decide_eq_true hk0
            have i3 : ((k : Int) == 0) = false := by simp; omega
            by_cases e1 : bx s k = 104
            · obtain ⟨g1, g2⟩ := hg.skip hk0 (.inl e1)
              have HR := Lib.hid (And.intro g1 g2)
              have b1 : ((bx s k : Int) == 104) = true := by simp; omega
              clear g1 g2 hg hc1 hc2 e1 hk0
              generalize sndD (bx s k) = q at *
              generalize bx s k = c at *
              go_wp2
              go_roundw
              case rel => exact ⟨k + 1, by omega, by rw [HR.out.1], by rw [HR.out.2], rfl⟩
              case measure => simp; omega
            · have b1 : ((bx s k : Int) == 104) = false := by simp; omega
              by_cases e2 : bx s k = 119
              · obtain ⟨g1, g2⟩ := hg.skip hk0 (.inr e2)
                have HR := Lib.hid (And.intro g1 g2)
                have b2 : ((bx s k : Int) == 119) = true := by simp; omega
                clear g1 g2 hg hc1 hc2 e1 e2 hk0
                generalize sndD (bx s k) = q at *
                generalize bx s k = c at *
                go_wp2
                go_roundw
                case rel => exact ⟨k + 1, by omega, by rw [HR.out.1], by rw [HR.out.2], rfl⟩
                case measure => simp; omega
              · have b2 : ((bx s k : Int) == 119) = false := by simp; omega
                by_cases e3 : digT (sndD (bx s k)) = lastI s k
                · obtain ⟨g1, g2⟩ := hg.eq hk0 (by omega) e3
                  have HR := Lib.hid (And.intro g1 g2)
                  have b3 : ((digT (sndD (bx s k))).toList == (lastI s k).toList) = true := by rw [e3]; exact beq_self_eq_true _
                  clear g1 g2 hg hc1 hc2 e1 e2 e3 hk0
                  generalize digT (sndD (bx s k)) = q at *
                  generalize bx s k = c at *
                  go_wp2_with (first
                    |
                      (go_at_call 62
                       refine (HSo.out _).mono ?_
                       rintro e w' ⟨rfl, rfl⟩)
                    )
                  go_roundw
                  case rel => exact ⟨k + 1, by omega, by rw [HR.out.1], by rw [HR.out.2], rfl⟩
                  case measure => simp; omega
                · obtain ⟨g1, g2⟩ := hg.ne hk0 (by omega) e3
                  have HR := Lib.hid (And.intro g1 g2)
                  have b3 : ((digT (sndD (bx s k))).toList == (lastI s k).toList) = false := toL_ne e3
                  have hqs : (digT (sndD (bx s k))).size ≤ 1 := by
                    unfold digT
                    split
                    · exact Nat.zero_le _
                    · rw [textL_size]; exact Nat.le_refl _
                  have hadd := fun W => run_string_add_sum (P := Try.prog) W (keyI s k) (digT (sndD (bx s k))) (by omega)
                  rw [g1] at hadd
                  clear g1 g2 hg hc1 hc2 e1 e2 e3 hk0 hqs
                  generalize digT (sndD (bx s k)) = q at *
                  generalize bx s k = c at *
                  go_wp2_with (first
                    |
                      (go_at_call 62
                       refine (HSo.out _).mono ?_
                       rintro e w' ⟨rfl, rfl⟩)
                    )
                  go_roundw
                  case rel => exact ⟨k + 1, by omega, rfl, by rw [HR.out.2], rfl⟩
                  case measure => simp; omega
        · obtain rfl : k = s.size := by omega
          have hnx := fun ty => run_next_end (P := Try.prog) u1 s s.size ty hlt
          have hadd := fun W => run_string_add_sum (P := Try.prog) W (keyI s s.size) ⟨#[48, 48, 48]⟩ (by have := keyI_size s s.size; show _ + 3 ≤ _; omega)
          have hke := keyI_end s h1
          have hl4 : 4 ≤ ((sndAt s (s.size - 1)).2 ++ [48, 48, 48]).length := by have := (sndAt_len s (s.size - 1)).1; rw [List.length_append]; show 4 ≤ _ + 3; omega
          have hx4 : (textL ((sndAt s (s.size - 1)).2 ++ [48, 48, 48])).extract 0 4 = textL (soundL s) := textL_take4 _ hl4
          have hsz4 : 4 ≤ (textL ((sndAt s (s.size - 1)).2 ++ [48, 48, 48])).size := by rw [textL_size]; exact hl4
          rw [hke] at hadd
          clear hke hl4
          generalize textL ((sndAt s (s.size - 1)).2 ++ [48, 48, 48]) = t4 at *
          have d4 : (4 : Int) ≤ (t4.size : Int) := by omega
          go_wp2_with fail
          go_ret2
          exact ⟨ret_sb' (by rw [HV0.out, HV1.out]; first | rfl | (rw [hx4]; rfl)) (by rw [HV1.out]; rfl), HB.out.trans (((Below.refl _ _).alloc (Nat.le_refl _) _ : Below u1.heap.size u1 (u1.iter s s.size)).mono HB.out.size)⟩
    · have hne2 : s.toList.isEmpty = true := by
        have hs0 : s = ⟨#[]⟩ := by
          apply ByteArray.ext
          exact Array.eq_empty_of_size_eq_zero (show s.size = 0 by omega)
        rw [ByteArray.toList_eq, hs0]
        rfl
      rw [decide_eq_false h1] at HV1
      go_enter Try.func35, Try.ntmps35
      go_wp2_with fail
      refine (HT.out _).mono ?_
      rintro e u1 ⟨rfl, hb⟩
      have HB := Lib.hid hb
      clear hb
      go_wp2_with fail
      go_ret2
      exact ⟨ret_sb' (by rw [HV0.out, HV1.out]; rfl) (by rw [HV1.out]; rfl), HB.out⟩
end Go.Proofs.Ytcnamfjojdjjgaa
