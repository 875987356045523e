/- SoundKey: the reference's law. -/
import Derived.Test.YtcnamfjojdjjgaaSndM
set_option linter.unusedVariables false
namespace Go.Proofs.Ytcnamfjojdjjgaa
open Go.RowKit
def strN (v : Value) : Nat := match v with | .string b => b.size | _ => 0
@[simp] theorem strN_s (b : ByteArray) : strN (.string b) = b.size := rfl
theorem ret_sb' {a b : ByteArray} {x y : Bool} (h : a = b) (k : x = y) : Ending.returned (.tuple #[.string a, .bool x]) = .returned (.tuple #[.string b, .bool y]) := by rw [h, k]
theorem convert_ascii (c : Nat) (h : c < 128) (W : World) : (convert 21 9 (.int .i32 c)).run Try.prog W = .ok (.string (textL [c])) W := by
  rw [run_convert_int_string W 21 9 .i32 c (by rw [Try.underlying21]; rfl) Try.underlying9]
  have e : Utf8.encode (c : Int) = ⟨#[UInt8.ofNat c]⟩ := by
    unfold Utf8.encode
    have h1 : ¬ ((c : Int) < 0) := by omega
    have h2 : (c : Int) < 128 := by omega
    have h3 : ((c : Int)).toNat = c := by omega
    have hv : Utf8.valid (c : Int) = true := by unfold Utf8.valid; simp; omega
    simp only [hv, if_true, h3, h]
  rw [e]
  rfl
set_option maxRecDepth 20000 in
set_option maxHeartbeats 4000000 in
theorem specSoundKey_law (s : ByteArray) (w : World) (h0 : s.size ≤ 1048576) :
    Calls Try.prog 34 #[.string s] w fun e w' => e = .returned (.tuple #[.string (vSoundKey0 s), .bool (vSoundKey1 s)]) ∧ Below w.heap.size w w' := by
  have HT := Lib.hid (fun W => l04Letters_any s W h0)
  have HV0 := Lib.hid (show vSoundKey0 s = if vSoundKey1 s then textL (soundL s) else ⟨#[]⟩ from rfl)
  have HV1 := Lib.hid (show vSoundKey1 s = (lettersB s && decide (1 ≤ s.size)) from rfl)
  generalize vSoundKey0 s = v0 at *
  generalize vSoundKey1 s = v1 at *
  cases ht : lettersB s
  · rw [ht] at HT HV1
    clear ht
    go_enter Try.func34, Try.ntmps34
    go_wp2_with fail
    refine (HT.out _).mono ?_
    rintro e u1 ⟨rfl, rfl⟩
    go_wp2_with fail
    go_ret2
    exact ⟨ret_sb' (by rw [HV0.out, HV1.out]; rfl) (by rw [HV1.out]; rfl), (by repeat (first | exact Below.refl _ _ | exact Hid.out (by assumption) | refine below_alloc ?_ _ | refine Below.setCell ?_ (by simp <;> omega) _ | refine Below.alloc ?_ (by simp <;> omega) _ | refine Below.drew ?_ | refine below_drewN ?_ _))⟩
  · have hlet : letsB s s.size = true := by unfold lettersB at ht; revert ht; cases textB s <;> simp
    rw [ht] at HT HV1
    clear ht
    by_cases h1 : 1 ≤ s.size
    · rw [decide_eq_true h1] at HV1
      have d0 : ¬ (s.size : Int) < 1 := by omega
      have HLet := Lib.hid (show ∀ k, k < s.size → 97 ≤ bx s k ∧ bx s k ≤ 122 from fun k hk => by have := letsB_iff.1 hlet k hk; unfold letB at this; simpa using this)
      have hl0 := HLet.out 0 (by omega)
      have hb0 : (s[0]'(by omega)).toNat = bx s 0 := bx_eq (by omega)
      have HS0 := Lib.hid (fun W => l04Sound_any (s[0]'(by omega)).toNat W (by omega) (by omega))
      have hex : s.extract 0 1 = textL [bx s 0] := extract_bx (by omega)
      have hxs : (s.extract 0 1).size = 1 := by rw [hex, textL_size]; rfl
      have HK0 := Lib.hid (show s.extract 0 1 = textL (sndAt s 0).2 ∧ sndD (s[0]'(by omega)).toNat = (sndAt s 0).1 from ⟨hex, by rw [hb0]; rfl⟩)
      clear hb0 hex hlet hl0
      go_enter Try.func34, Try.ntmps34
      go_wp2_with fail
      refine (HT.out _).mono ?_
      rintro e u1 ⟨rfl, rfl⟩
      go_wp2_with fail
      refine (HS0.out _).mono ?_
      rintro e u2 ⟨rfl, rfl⟩
      go_wp2_with fail
      go_loopw [4, 5, 6] (fun oo ll ii wr => ∃ (i K : Nat) (tx : ByteArray) (d : Nat), i ≤ s.size ∧ oo = .string tx ∧ ll = .int .u8 d ∧ ii = .int .i64 i ∧ tx.size ≤ 4 ∧ Hid (i = K + 1 ∧ tx = textL (sndAt s K).2 ∧ d = (sndAt s K).1) ∧ w = wr) (fun _ _ ii _ => s.size - (intOf ii).toNat)
      case atStart => exact ⟨1, 0, _, _, h1, rfl, rfl, rfl, by omega, Lib.hid ⟨rfl, HK0.out⟩, rfl⟩
      case round =>
        obtain ⟨i, K, tx, d, hi, rfl, rfl, rfl, ht4, HK, rfl⟩ := hrel
        by_cases hlt : i < s.size
        · have d1 : (i : Int) < s.size := by omega
          by_cases hl4 : tx.size < 4
          · have d2 : (tx.size : Int) < 4 := by omega
            have w1' : IntKind.i64.wrap ((i : Int) + 1) = ((i + 1 : Nat) : Int) := by rw [IntKind.wrap_i64]; omega
            have hbx : (s[i]'hlt).toNat = bx s i := bx_eq hlt
            obtain ⟨hc1, hc2⟩ := HLet.out i hlt
            have HSo := Lib.hid (fun W => l04Sound_any (s[i]'hlt).toNat W (by omega) (by omega))
            have hst : sndAt s i = sndStep (d, (sndAt s K).2) (bx s i) := by rw [HK.out.2.2, HK.out.1]; rfl
            rw [← hbx] at hst hc1 hc2
            clear hbx
            generalize hcc : (s[i]'hlt).toNat = c at *
            have hdd := sndD_bd hc1 hc2
            unfold sndStep at hst
            by_cases e1 : c = 104
            · rw [if_pos (.inl e1)] at hst
              have HK2 := Lib.hid (show tx = textL (sndAt s i).2 ∧ d = (sndAt s i).1 from ⟨by rw [hst]; exact HK.out.2.1, by rw [hst]⟩)
              have b1 : ((c : Int) == 104) = true := by simp; omega
              clear hst hdd
              go_wp2_with fail
              go_roundw
              case rel => exact ⟨i + 1, i, tx, d, by omega, rfl, by first | rfl | (rw [e3]; rfl) | rw [e4], rfl, ht4, Lib.hid ⟨rfl, HK2.out⟩, by first | rfl | trivial⟩
              case measure => simp [intOf]; omega
            · have b1 : ((c : Int) == 104) = false := by simp; omega
              by_cases e2 : c = 119
              · rw [if_pos (.inr e2)] at hst
                have HK2 := Lib.hid (show tx = textL (sndAt s i).2 ∧ d = (sndAt s i).1 from ⟨by rw [hst]; exact HK.out.2.1, by rw [hst]⟩)
                have b2 : ((c : Int) == 119) = true := by simp; omega
                clear hst hdd
                go_wp2_with fail
                go_roundw
                case rel => exact ⟨i + 1, i, tx, d, by omega, rfl, by first | rfl | (rw [e3]; rfl) | rw [e4], rfl, ht4, Lib.hid ⟨rfl, HK2.out⟩, by first | rfl | trivial⟩
                case measure => simp [intOf]; omega
              · have b2 : ((c : Int) == 119) = false := by simp; omega
                rw [if_neg (by omega)] at hst
                generalize sndD c = q at *
                by_cases e3 : q = 48
                · rw [if_neg (by omega)] at hst
                  have HK2 := Lib.hid (show tx = textL (sndAt s i).2 ∧ q = (sndAt s i).1 from ⟨by rw [hst]; exact HK.out.2.1, by rw [hst]⟩)
                  have b3 : ((q : Int) != 48) = false := by simp; omega
                  clear hst hdd
                  go_wp2_with fail
                  refine (HSo.out _).mono ?_
                  rintro e w' ⟨rfl, rfl⟩
                  go_wp2_with fail
                  go_roundw
                  case rel => exact ⟨i + 1, i, tx, q, by omega, rfl, by first | rfl | (rw [e3]; rfl) | rw [e4], rfl, ht4, Lib.hid ⟨rfl, HK2.out⟩, by first | rfl | trivial⟩
                  case measure => simp [intOf]; omega
                · have b3 : ((q : Int) != 48) = true := by simp; omega
                  by_cases e4 : q = d
                  · rw [if_neg (by simp [e4])] at hst
                    have HK2 := Lib.hid (show tx = textL (sndAt s i).2 ∧ q = (sndAt s i).1 from ⟨by rw [hst]; exact HK.out.2.1, by rw [hst]⟩)
                    have b4 : ((q : Int) != (d : Int)) = false := by simp; omega
                    clear hst hdd
                    go_wp2_with fail
                    refine (HSo.out _).mono ?_
                    rintro e w' ⟨rfl, rfl⟩
                    go_wp2_with fail
                    go_roundw
                    case rel => exact ⟨i + 1, i, tx, q, by omega, rfl, by first | rfl | (rw [e3]; rfl) | rw [e4], rfl, ht4, Lib.hid ⟨rfl, HK2.out⟩, by first | rfl | trivial⟩
                    case measure => simp [intOf]; omega
                  · rw [if_pos ⟨e3, e4⟩] at hst
                    have b4 : ((q : Int) != (d : Int)) = true := by simp; omega
                    have hcv := fun W => convert_ascii q (by omega) W
                    have hcw : IntKind.i32.wrap (q : Int) = (q : Int) := by rw [IntKind.wrap_i32]; omega
                    have hadd := fun W => run_string_add_sum (P := Try.prog) W tx (textL [q]) (by rw [textL_size]; simp; omega)
                    have htt : tx ++ textL [q] = textL (sndAt s i).2 := by rw [hst, HK.out.2.1, textL_app]
                    have hts : (tx ++ textL [q]).size = tx.size + 1 := by rw [ByteArray.size_append, textL_size]; rfl
                    have HK2 := Lib.hid (show tx ++ textL [q] = textL (sndAt s i).2 ∧ q = (sndAt s i).1 from ⟨htt, by rw [hst]⟩)
                    clear hst hdd htt
                    generalize tx ++ textL [q] = t2 at *
                    go_wp2_with fail
                    refine (HSo.out _).mono ?_
                    rintro e w' ⟨rfl, rfl⟩
                    go_wp2_with fail
                    go_roundw
                    case rel => exact ⟨i + 1, i, t2, q, by omega, rfl, by first | rfl | (rw [e3]; rfl) | rw [e4], rfl, by omega, Lib.hid ⟨rfl, HK2.out⟩, by first | rfl | trivial⟩
                    case measure => simp [intOf]; omega
          · have d2 : ¬ (tx.size : Int) < 4 := by omega
            have HEX := Lib.hid (show K = s.size - 1 ∨ (sndAt s K).2.length = 4 from .inr (by have := textL_size (sndAt s K).2; rw [← HK.out.2.1] at this; omega))
            have hKs : K ≤ s.size - 1 := by have := HK.out.1; omega
            have hSE := sound_end s K (by omega) (by have := HK.out.2.1; have := textL_size (sndAt s K).2; rw [← HK.out.2.1] at this; omega) HEX.out
            have hln := textL_size (sndAt s K).2
            rw [← HK.out.2.1] at hln
            obtain ⟨hS1, hS2⟩ := hSE
            have HT1 := Lib.hid (show tx = textL ((soundL s).take tx.size) by rw [hln, hS1]; exact HK.out.2.1)
            have HT2 := Lib.hid (show ∀ m, tx.size ≤ m → (hm : m < 4) → textL ((soundL s).take m) ++ ⟨#[48]⟩ = textL ((soundL s).take (m + 1)) from fun m h1 hm => by
              have hl := soundL_len s
              rw [List.take_succ_eq_append_getElem (by omega), hS2 m hm (by omega), ← textL_app]
              rfl)
            clear hS1 hS2 hln HEX
            go_wp2_with fail
            go_loopw [4] (fun v wr => ∃ m : Nat, tx.size ≤ m ∧ m ≤ 4 ∧ v = .string (textL ((soundL s).take m)) ∧ w = wr) (fun v _ => 4 - strN v)
            case atStart => exact ⟨tx.size, Nat.le_refl _, by omega, by rw [← HT1.out], rfl⟩
            case round =>
              obtain ⟨m, hm1, hm2, rfl, rfl⟩ := hrel
              have hsz : (textL ((soundL s).take m)).size = m := by rw [textL_size, List.length_take, soundL_len]; omega
              by_cases hm : m < 4
              · first
                | (exfalso; omega)
                | (
                  have hadd := fun W => run_string_add_sum (P := Try.prog) W (textL ((soundL s).take m)) ⟨#[48]⟩ (by rw [hsz]; show m + 1 ≤ _; omega)
                  rw [HT2.out m hm1 hm] at hadd
                  have hsz2 : (textL ((soundL s).take (m + 1))).size = m + 1 := by rw [textL_size, List.length_take, soundL_len]; omega
                  have HR := Lib.hid (show ∃ q, tx.size ≤ q ∧ q ≤ 4 ∧ Value.string (textL ((soundL s).take (m + 1))) = .string (textL ((soundL s).take q)) from ⟨m + 1, by omega, by omega, rfl⟩)
                  generalize textL ((soundL s).take m) = t1 at *
                  generalize textL ((soundL s).take (m + 1)) = t2 at *
                  have d1 : (t1.size : Int) < 4 := by omega
                  have d2 : t1.size < 4 := by omega
                  go_wp2_with fail
                  go_roundw
                  case rel =>
                    obtain ⟨q, q1, q2, q3⟩ := HR.out
                    exact ⟨q, q1, q2, q3, by first | rfl | trivial⟩
                  case measure => simp; omega
                  )
              · obtain rfl : m = 4 := by omega
                have HF := Lib.hid (show textL ((soundL s).take 4) = textL (soundL s) by rw [List.take_of_length_le (by rw [soundL_len]; exact Nat.le_refl _)])
                generalize textL ((soundL s).take 4) = t1 at *
                have d1 : ¬ (t1.size : Int) < 4 := by omega
                have d2 : ¬ t1.size < 4 := by omega
                go_wp2_with fail
                go_ret2
                exact ⟨ret_sb' (by rw [HV0.out, HV1.out, HF.out]; rfl) (by rw [HV1.out]; rfl), (by repeat (first | exact Below.refl _ _ | exact Hid.out (by assumption) | refine below_alloc ?_ _ | refine Below.setCell ?_ (by simp <;> omega) _ | refine Below.alloc ?_ (by simp <;> omega) _ | refine Below.drew ?_ | refine below_drewN ?_ _))⟩
        · have d1 : ¬ (i : Int) < s.size := by omega
          have HEX := Lib.hid (show K = s.size - 1 ∨ (sndAt s K).2.length = 4 from .inl (by have := HK.out.1; omega))
          have hKs : K ≤ s.size - 1 := by have := HK.out.1; omega
          have hSE := sound_end s K (by omega) (by have := HK.out.2.1; have := textL_size (sndAt s K).2; rw [← HK.out.2.1] at this; omega) HEX.out
          have hln := textL_size (sndAt s K).2
          rw [← HK.out.2.1] at hln
          obtain ⟨hS1, hS2⟩ := hSE
          have HT1 := Lib.hid (show tx = textL ((soundL s).take tx.size) by rw [hln, hS1]; exact HK.out.2.1)
          have HT2 := Lib.hid (show ∀ m, tx.size ≤ m → (hm : m < 4) → textL ((soundL s).take m) ++ ⟨#[48]⟩ = textL ((soundL s).take (m + 1)) from fun m h1 hm => by
            have hl := soundL_len s
            rw [List.take_succ_eq_append_getElem (by omega), hS2 m hm (by omega), ← textL_app]
            rfl)
          clear hS1 hS2 hln HEX
          go_wp2_with fail
          go_loopw [4] (fun v wr => ∃ m : Nat, tx.size ≤ m ∧ m ≤ 4 ∧ v = .string (textL ((soundL s).take m)) ∧ w = wr) (fun v _ => 4 - strN v)
          case atStart => exact ⟨tx.size, Nat.le_refl _, by omega, by rw [← HT1.out], rfl⟩
          case round =>
            obtain ⟨m, hm1, hm2, rfl, rfl⟩ := hrel
            have hsz : (textL ((soundL s).take m)).size = m := by rw [textL_size, List.length_take, soundL_len]; omega
            by_cases hm : m < 4
            · first
              | (exfalso; omega)
              | (
                have hadd := fun W => run_string_add_sum (P := Try.prog) W (textL ((soundL s).take m)) ⟨#[48]⟩ (by rw [hsz]; show m + 1 ≤ _; omega)
                rw [HT2.out m hm1 hm] at hadd
                have hsz2 : (textL ((soundL s).take (m + 1))).size = m + 1 := by rw [textL_size, List.length_take, soundL_len]; omega
                have HR := Lib.hid (show ∃ q, tx.size ≤ q ∧ q ≤ 4 ∧ Value.string (textL ((soundL s).take (m + 1))) = .string (textL ((soundL s).take q)) from ⟨m + 1, by omega, by omega, rfl⟩)
                generalize textL ((soundL s).take m) = t1 at *
                generalize textL ((soundL s).take (m + 1)) = t2 at *
                have d1 : (t1.size : Int) < 4 := by omega
                have d2 : t1.size < 4 := by omega
                go_wp2_with fail
                go_roundw
                case rel =>
                  obtain ⟨q, q1, q2, q3⟩ := HR.out
                  exact ⟨q, q1, q2, q3, by first | rfl | trivial⟩
                case measure => simp; omega
                )
            · obtain rfl : m = 4 := by omega
              have HF := Lib.hid (show textL ((soundL s).take 4) = textL (soundL s) by rw [List.take_of_length_le (by rw [soundL_len]; exact Nat.le_refl _)])
              generalize textL ((soundL s).take 4) = t1 at *
              have d1 : ¬ (t1.size : Int) < 4 := by omega
              have d2 : ¬ t1.size < 4 := by omega
              go_wp2_with fail
              go_ret2
              exact ⟨ret_sb' (by rw [HV0.out, HV1.out, HF.out]; rfl) (by rw [HV1.out]; rfl), (by repeat (first | exact Below.refl _ _ | exact Hid.out (by assumption) | refine below_alloc ?_ _ | refine Below.setCell ?_ (by simp <;> omega) _ | refine Below.alloc ?_ (by simp <;> omega) _ | refine Below.drew ?_ | refine below_drewN ?_ _))⟩
    · rw [decide_eq_false h1] at HV1
      have d0 : (s.size : Int) < 1 := by omega
      go_enter Try.func34, Try.ntmps34
      go_wp2_with fail
      refine (HT.out _).mono ?_
      rintro e u1 ⟨rfl, rfl⟩
      go_wp2_with fail
      go_ret2
      exact ⟨ret_sb' (by rw [HV0.out, HV1.out]; rfl) (by rw [HV1.out]; rfl), (by repeat (first | exact Below.refl _ _ | exact Hid.out (by assumption) | refine below_alloc ?_ _ | refine Below.setCell ?_ (by simp <;> omega) _ | refine Below.alloc ?_ (by simp <;> omega) _ | refine Below.drew ?_ | refine below_drewN ?_ _))⟩
end Go.Proofs.Ytcnamfjojdjjgaa
