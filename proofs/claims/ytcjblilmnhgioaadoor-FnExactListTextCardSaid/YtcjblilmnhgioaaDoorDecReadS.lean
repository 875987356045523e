/- Reading decimal texts: the reference's walk. -/
import Derived.Test.YtcjblilmnhgioaaDoorDecRead
import Derived.Lib.Hide
import Derived.LoopTactic
import Derived.WideShapes
set_option linter.unusedVariables false
namespace Go.Proofs.YtcjblilmnhgioaaDoor
open Go.RowKit

theorem take_snocD (s : ByteArray) (k : Nat) (h : k < s.size) : s.data.toList.take (k + 1) = s.data.toList.take k ++ [s[k]] := by
  rw [List.take_add_one]
  have : s.data.toList[k]? = some s[k] := by
    rw [List.getElem?_eq_getElem (by simpa using h)]
    rfl
  rw [this]
  rfl
theorem dig_cases (c : UInt8) : (c.toNat < 48 ∧ isDig c = false) ∨ (48 ≤ c.toNat ∧ 57 < c.toNat ∧ isDig c = false) ∨ (48 ≤ c.toNat ∧ c.toNat ≤ 57 ∧ isDig c = true) := by
  unfold isDig
  by_cases h1 : 48 ≤ c.toNat
  · by_cases h2 : c.toNat ≤ 57
    · right; right; exact ⟨h1, h2, by simp [h1, h2]⟩
    · right; left; exact ⟨h1, by omega, by simp [h2]⟩
  · left; exact ⟨by omega, by simp [h1]⟩
theorem numS_take (s : ByteArray) (k : Nat) (h : k < s.size) : numS (s.data.toList.take (k + 1)) = stepS (numS (s.data.toList.take k)) s[k] := by
  rw [take_snocD s k h, numS_snoc]
theorem head_is (s : ByteArray) (h : 0 < s.size) : s.data.toList.head? = some s[0] := by
  rw [List.head?_eq_getElem?, List.getElem?_eq_getElem (by simpa using h)]
  rfl

theorem str_ne {a b : ByteArray} (h : ¬ a = b) : (a.toList == b.toList) = false := by
  rw [beq_eq_false_iff_ne]
  intro e
  rw [ByteArray.toList_eq, ByteArray.toList_eq] at e
  exact h (WideShapes.bytes_inj e)
theorem l00In_any (n : Int) (w : World) : Calls Tryd.prog 30 #[.int .i64 n, .int .i64 (-1000000000000000), .int .i64 1000000000000000] w fun e w' => e = .returned (.bool (inRange n)) ∧ w = w' := by
  by_cases h1 : -1000000000000000 ≤ n
  · by_cases h2 : n ≤ 1000000000000000
    · have e : inRange n = true := by unfold inRange; simp [h1, h2]
      rw [e]
      clear e
      go_enter Tryd.func30, Tryd.ntmps30
      go_wp2
      go_ret
      exact ⟨rfl, rfl⟩
    · have e : inRange n = false := by unfold inRange; simp [h2]
      rw [e]
      clear e
      go_enter Tryd.func30, Tryd.ntmps30
      go_wp2
      go_ret
      exact ⟨rfl, rfl⟩
  · have e : inRange n = false := by unfold inRange; simp [h1]
    rw [e]
    clear e
    go_enter Tryd.func30, Tryd.ntmps30
    go_wp2
    go_ret
    exact ⟨rfl, rfl⟩

theorem ret_tup {a b : Int} {x y : Bool} (h : a = b) (k : x = y) : Ending.returned (.tuple #[.int .i64 a, .bool x]) = .returned (.tuple #[.int .i64 b, .bool y]) := by rw [h, k]

theorem okV_no {l : List UInt8} (h : ¬ (1 ≤ l.length ∧ l.length ≤ 17)) : okV l = false ∧ ansV l = 0 := by
  have : okV l = false := by
    cases ho : okV l
    · rfl
    · exact absurd ⟨(okV_parts ho).1, (okV_parts ho).2.1⟩ h
  exact ⟨this, by unfold ansV; rw [this]; rfl⟩

set_option maxHeartbeats 4000000 in
theorem l01Value_any (s : ByteArray) (w : World) (hs : s.size ≤ 1048576) : Calls Tryd.prog 21 #[.string s] w fun e w' => e = .returned (.tuple #[.int .i64 (ansV s.data.toList), .bool (okV s.data.toList)]) ∧ Below w.heap.size w w' := by
  have hlen : s.data.toList.length = s.size := by simp
  by_cases h1 : 1 ≤ s.size
  · by_cases h17 : s.size ≤ 17
    · clear hlen
      go_enter Tryd.func21, Tryd.ntmps21
      go_wp2
      go_loop [4, 5] (fun v i => ∃ k : Nat, k ≤ s.size ∧ i = .int .i64 k ∧ v = .int .i64 (numS (s.data.toList.take k))) (fun _ i => s.size - (intOf i).toNat)
      case atStart => exact ⟨0, Nat.zero_le _, rfl, rfl⟩
      case round =>
        obtain ⟨k, hk, rfl, rfl⟩ := hrel
        by_cases hlt : k < s.size
        · have HN := Lib.hid (numS_take s k hlt)
          have hb : 0 ≤ numS (s.data.toList.take k) ∧ numS (s.data.toList.take k) < 10 ^ 17 := numS_bd 17 _ (by simp; omega)
          generalize numS (s.data.toList.take k) = x at *
          have hb2 : 0 ≤ x ∧ x < 100000000000000000 := hb
          clear hb
          obtain ⟨b1, b2⟩ := hb2
          rcases dig_cases s[k] with ⟨g1, g2⟩ | ⟨g1, g2, g3⟩ | ⟨g1, g2, g3⟩
          · have L := Lib.hid g2
            have d1 : ((s[k].toNat : Int)) < 48 := by omega
            clear g2 g1
            go_wp2
            go_round
            case rel => exact ⟨k + 1, by omega, by go_num, by rw [HN.out]; unfold stepS; rw [L.out]; rfl⟩
            case measure => simp [intOf]; omega
          · have L := Lib.hid g3
            have d1 : ¬ ((s[k].toNat : Int)) < 48 := by omega
            have d2 : 57 < ((s[k].toNat : Int)) := by omega
            clear g3 g1 g2
            go_wp2
            go_round
            case rel => exact ⟨k + 1, by omega, by go_num, by rw [HN.out]; unfold stepS; rw [L.out]; rfl⟩
            case measure => simp [intOf]; omega
          · have L := Lib.hid g3
            have d1 : ¬ ((s[k].toNat : Int)) < 48 := by omega
            have d2 : ¬ 57 < ((s[k].toNat : Int)) := by omega
            clear g3 g1 g2
            go_wp2
            go_round
            case rel => exact ⟨k + 1, by omega, by go_num, by rw [HN.out]; unfold stepS; rw [L.out]; rfl⟩
            case measure => simp [intOf]; omega
        · have hk2 : k = s.size := by omega
          subst hk2
          have hb : 0 ≤ numS (s.data.toList.take s.size) ∧ numS (s.data.toList.take s.size) < 10 ^ 17 := numS_bd 17 _ (by simp; omega)
          rw [List.take_of_length_le (by simp)] at hb ⊢
          have hb2 : 0 ≤ numS s.data.toList ∧ numS s.data.toList < 100000000000000000 := hb
          clear hb
          have hlt0 : 0 < s.size := by omega
          have HH := Lib.hid (head_is s hlt0)
          have HV := Lib.hid (show valS s.data.toList = if s.data.toList.head? = some 45 then -(numS s.data.toList) else numS s.data.toList from rfl)
          generalize numS s.data.toList = x at *
          obtain ⟨b1, b2⟩ := hb2
          by_cases h45 : s[0].toNat = 45
          · have hc : s[0] = 45 := UInt8.toNat_inj.1 h45
            have hv0 := Lib.hid (show valS s.data.toList = -x by rw [HV.out, HH.out, hc]; rfl)
            have d0 : ((s[0].toNat : Int)) = 45 := by omega
            have hv := hv0
            have hvb : -9223372036854775808 ≤ -x ∧ -x ≤ 9223372036854775807 := by omega
            clear hc h45 HV HH hv0
            have HO := Lib.hid (show okV s.data.toList = (inRange (-x) && decide (Lib.itoa (-x) = s.data.toList)) by unfold okV; rw [hv.out])
            have HA := Lib.hid (show ansV s.data.toList = if okV s.data.toList then (-x) else 0 by unfold ansV; rw [hv.out])
            have HL := Lib.hid (fun W => l00In_any (-x) W)
            have HD := Lib.hid (fun W => l01Dec_any (-x) W hvb.1 hvb.2)
            cases hr : inRange (-x)
            · rw [hr] at HL HO
              go_wp2_with fail
              refine (HL.out _).mono ?_
              rintro e w' ⟨rfl, rfl⟩
              go_wp2_with fail
              go_ret2
              exact ⟨ret_tup (by rw [HA.out, HO.out]; rfl) (by rw [HO.out]; rfl), Below.refl _ _⟩
            · rw [hr] at HL HO
              go_wp2_with fail
              refine (HL.out _).mono ?_
              rintro e w' ⟨rfl, rfl⟩
              go_wp2_with fail
              refine (HD.out _).mono ?_
              rintro e w' ⟨rfl, hbel⟩
              have HB := Lib.hid hbel
              clear hbel
              by_cases ht : (⟨(Lib.itoa (-x)).toArray⟩ : ByteArray) = s
              · have HT := Lib.hid (show Lib.itoa (-x) = s.data.toList by rw [← ht])
                rw [ht]
                go_wp2_with fail
                go_ret2
                exact ⟨ret_tup (by rw [HA.out, HO.out, HT.out]; simp) (by rw [HO.out, HT.out]; simp), HB.out⟩
              · have HT := Lib.hid (show ¬ Lib.itoa (-x) = s.data.toList by
                  intro e
                  apply ht
                  rw [e])
                have hne := str_ne ht
                generalize (⟨(Lib.itoa (-x)).toArray⟩ : ByteArray) = t at *
                go_wp2_with fail
                go_ret2
                exact ⟨ret_tup (by rw [HA.out, HO.out]; simp [HT.out]) (by rw [HO.out]; simp [HT.out]), HB.out⟩
          · have hc : ¬ s[0] = 45 := fun h => h45 (by rw [h]; rfl)
            have hv := Lib.hid (show valS s.data.toList = x by
              rw [HV.out, HH.out, if_neg]
              intro h
              exact hc (Option.some.inj h))
            have d0 : ¬ ((s[0].toNat : Int)) = 45 := by omega
            have hvb : -9223372036854775808 ≤ x ∧ x ≤ 9223372036854775807 := by omega
            clear hc h45 HV HH
            have HO := Lib.hid (show okV s.data.toList = (inRange (x) && decide (Lib.itoa (x) = s.data.toList)) by unfold okV; rw [hv.out])
            have HA := Lib.hid (show ansV s.data.toList = if okV s.data.toList then (x) else 0 by unfold ansV; rw [hv.out])
            have HL := Lib.hid (fun W => l00In_any (x) W)
            have HD := Lib.hid (fun W => l01Dec_any (x) W hvb.1 hvb.2)
            cases hr : inRange (x)
            · rw [hr] at HL HO
              go_wp2_with fail
              refine (HL.out _).mono ?_
              rintro e w' ⟨rfl, rfl⟩
              go_wp2_with fail
              go_ret2
              exact ⟨ret_tup (by rw [HA.out, HO.out]; rfl) (by rw [HO.out]; rfl), Below.refl _ _⟩
            · rw [hr] at HL HO
              go_wp2_with fail
              refine (HL.out _).mono ?_
              rintro e w' ⟨rfl, rfl⟩
              go_wp2_with fail
              refine (HD.out _).mono ?_
              rintro e w' ⟨rfl, hbel⟩
              have HB := Lib.hid hbel
              clear hbel
              by_cases ht : (⟨(Lib.itoa (x)).toArray⟩ : ByteArray) = s
              · have HT := Lib.hid (show Lib.itoa (x) = s.data.toList by rw [← ht])
                rw [ht]
                go_wp2_with fail
                go_ret2
                exact ⟨ret_tup (by rw [HA.out, HO.out, HT.out]; simp) (by rw [HO.out, HT.out]; simp), HB.out⟩
              · have HT := Lib.hid (show ¬ Lib.itoa (x) = s.data.toList by
                  intro e
                  apply ht
                  rw [e])
                have hne := str_ne ht
                generalize (⟨(Lib.itoa (x)).toArray⟩ : ByteArray) = t at *
                go_wp2_with fail
                go_ret2
                exact ⟨ret_tup (by rw [HA.out, HO.out]; simp [HT.out]) (by rw [HO.out]; simp [HT.out]), HB.out⟩
    · have d1 : ¬ (s.size : Int) < 1 := by omega
      have d2 : (17 : Int) < (s.size : Int) := by omega
      obtain ⟨o1, o2⟩ := okV_no (l := s.data.toList) (by omega)
      rw [o1, o2]
      clear o1 o2
      go_enter Tryd.func21, Tryd.ntmps21
      go_wp2
      go_ret2
      exact ⟨rfl, Below.refl _ _⟩
  · have d1 : (s.size : Int) < 1 := by omega
    obtain ⟨o1, o2⟩ := okV_no (l := s.data.toList) (by omega)
    rw [o1, o2]
    clear o1 o2
    go_enter Tryd.func21, Tryd.ntmps21
    go_wp2
    go_ret2
    exact ⟨rfl, Below.refl _ _⟩
end Go.Proofs.YtcjblilmnhgioaaDoor
