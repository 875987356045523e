/- Reading decimal texts: the program's walk, and the law. -/
import Derived.Test.YtcjblilmnhgioaaDoorDecReadS
import Derived.Test.YtcjblilmnhgioaaDoorDecLaw
import Derived.Test.YtcjblilmnhgioaaDoorShelfB
import Derived.Laws.RangeAny
import Derived.WalkLawsBesides
set_option linter.unusedVariables false
namespace Go.Proofs.YtcjblilmnhgioaaDoor
open Go.RowKit

def negV (l : List UInt8) : Bool := decide (l.head? = some 45)
theorem hasP (l : List UInt8) : Lib.hasPrefix l [45] = negV l := by
  unfold Lib.hasPrefix negV
  cases l with
  | nil => rfl
  | cons c l =>
    simp [List.isPrefixOf]
    by_cases h : c = 45
    · subst h; rfl
    · have h2 : ¬ (45 : UInt8) = c := fun e => h e.symm
      simp [h, h2]
theorem trimP (l : List UInt8) : Lib.trimPrefix l [45] = behind l := by
  unfold Lib.trimPrefix behind
  rw [hasP]
  unfold negV
  by_cases h : l.head? = some 45
  · rw [if_pos (by simp [h]), if_pos h]; rfl
  · rw [if_neg (by simp [h]), if_neg h]

theorem Cut_any (s : ByteArray) (w : World) : Calls Tryd.prog 22 #[.string s, .string ⟨#[45]⟩] w fun e w' => e = .returned (.tuple #[.string ⟨(behind s.data.toList).toArray⟩, .bool (negV s.data.toList)]) ∧ w = w' :=
  (Tryd.strings_CutPrefix s ⟨#[45]⟩ w).mono fun e w' h => ⟨by
    have h1 := h.1
    rw [show (⟨#[45]⟩ : ByteArray).data.toList = [45] from rfl, hasP, trimP] at h1
    exact h1, h.2.symm⟩

theorem isValue_any (n : Int) (w : World) : Calls Tryd.prog 23 #[.int .i64 n] w fun e w' => e = .returned (.bool (inRange n)) ∧ w = w' := by
  by_cases h1 : -1000000000000000 ≤ n
  · by_cases h2 : n ≤ 1000000000000000
    · have e : inRange n = true := by unfold inRange; simp [h1, h2]
      rw [e]
      clear e
      go_enter Tryd.func23, Tryd.ntmps23
      go_wp2
      go_ret
      exact ⟨rfl, rfl⟩
    · have e : inRange n = false := by unfold inRange; simp [h2]
      rw [e]
      clear e
      go_enter Tryd.func23, Tryd.ntmps23
      go_wp2
      go_ret
      exact ⟨rfl, rfl⟩
  · have e : inRange n = false := by unfold inRange; simp [h1]
    rw [e]
    clear e
    go_enter Tryd.func23, Tryd.ntmps23
    go_wp2
    go_ret
    exact ⟨rfl, rfl⟩

theorem max_len (w : World) (ht : Pow10 w) : Calls Tryd.prog 8 #[.int .i64 1000000000000000] w fun e w' => ∃ t : ByteArray, e = .returned (.string t) ∧ t.size = 16 ∧ Below w.heap.size w w' :=
  (implDecimal_any 1000000000000000 w (by decide) (by decide) ht).mono fun e w' h => ⟨_, h.1, by
    have e1 : Lib.itoa 1000000000000000 = Lib.decDigits 1000000000000000 := Lib.itoa_nonneg 1000000000000000
    show (Lib.itoa 1000000000000000).toArray.size = 16
    rw [e1, List.size_toArray, Lib.decDigits_length, Lib.nDigits_unique 15 1000000000000000 (by decide) (by decide)], h.2⟩

/-- What the program's own number says. -/
theorem impl_end {l : List UInt8} {v : Int} (hv : v = if negV l then -(numS (behind l)) else numS (behind l)) : okV l = (inRange v && decide (Lib.itoa v = l)) ∧ ansV l = (if okV l then v else 0) := by
  have key : okV l = true → valS l = v := by
    intro ho
    have h := (okV_parts ho).2.2.2.2.1
    rw [hv, h]
    unfold negV
    by_cases hh : l.head? = some 45
    · rw [if_pos hh, if_pos (by simp [hh])]; omega
    · rw [if_neg hh, if_neg (by simp [hh])]
  constructor
  · cases ho : okV l
    · cases hr : inRange v
      · rfl
      · by_cases hi : Lib.itoa v = l
        · rw [(okV_of hr hi).1] at ho; cases ho
        · simp [hi]
    · have h := okV_parts ho
      rw [← key ho, h.2.2.2.2.2.1, h.2.2.2.2.2.2]
      simp
  · unfold ansV
    cases ho : okV l
    · rfl
    · rw [if_pos rfl, if_pos rfl, key ho]
theorem okV_long {l : List UInt8} (h : 16 < (behind l).length) : okV l = false ∧ ansV l = 0 := by
  have : okV l = false := by
    cases ho : okV l
    · rfl
    · have := (okV_parts ho).2.2.1; omega
  exact ⟨this, by unfold ansV; rw [this]; rfl⟩
theorem okV_bad {l : List UInt8} {c : UInt8} (h : c ∈ behind l) (hc : isDig c = false) : okV l = false ∧ ansV l = 0 := by
  have : okV l = false := by
    cases ho : okV l
    · rfl
    · have := (okV_parts ho).2.2.2.1 c h; rw [hc] at this; cases this
  exact ⟨this, by unfold ansV; rw [this]; rfl⟩
theorem mem_at (s : ByteArray) (k : Nat) (h : k < s.size) : s[k] ∈ s.data.toList := by
  have : s[k] = s.data.toList[k]'(by simpa using h) := rfl
  rw [this]
  exact List.getElem_mem _
theorem below_iterD (w : World) (s : ByteArray) (p : Nat) : Below w.heap.size w (w.iter s p) := (Below.refl _ _).alloc (Nat.le_refl _) _

set_option maxHeartbeats 4000000 in
theorem implRead_any (s : ByteArray) (w : World) (hs : s.size ≤ 1048576) (ht : Pow10 w) : Calls Tryd.prog 10 #[.string s] w fun e w' => e = .returned (.tuple #[.int .i64 (ansV s.data.toList), .bool (okV s.data.toList)]) ∧ Below w.heap.size w w' := by
  obtain ⟨l, hl0⟩ : ∃ l, l = s.data.toList := ⟨_, rfl⟩
  have hl := Lib.hid hl0
  have HC := Lib.hid (fun W => Cut_any s W)
  rw [← hl0] at HC ⊢
  clear hl0
  have HM := Lib.hid (max_len w ht)
  have HT := Lib.hid ht
  clear ht
  obtain ⟨d, hd0⟩ : ∃ d : ByteArray, d = ⟨(behind l).toArray⟩ := ⟨_, rfl⟩
  have hd := Lib.hid (show d.data.toList = behind l by rw [hd0])
  rw [← hd0] at HC
  have hdl : d.size = (behind l).length := by rw [hd0]; simp [ByteArray.size]
  clear hd0
  obtain ⟨ng, hng0⟩ : ∃ b, b = negV l := ⟨_, rfl⟩
  have hng := Lib.hid hng0
  rw [← hng0] at HC
  clear hng0
  by_cases h16 : d.size ≤ 16
  · clear hdl
    go_enter Tryd.func10, Tryd.ntmps10
    go_wp2_with fail
    refine (HC.out _).mono ?_
    rintro e w' ⟨rfl, rfl⟩
    go_wp2_with fail
    refine HM.out.mono ?_
    rintro e w1 ⟨t, rfl, ht16, hb1⟩
    have B1 := Lib.hid hb1
    have P1 := Lib.hid (pow10_below HT.out hb1)
    clear hb1
    have d16 : ¬ (t.size : Int) < (d.size : Int) := by omega
    go_wp2_with fail
    go_loopw [6] (fun v wr => ∃ k : Nat, k ≤ d.size ∧ wr = w1.iter d k ∧ v = .int .i64 (numS (d.data.toList.take k)) ∧ Hid (∀ c ∈ d.data.toList.take k, isDig c = true)) (fun _ wr => d.size - wr.iterPos w1.heap.size)
    case atStart => exact ⟨0, Nat.zero_le _, rfl, rfl, by intro c hc; simp at hc⟩
    case round =>
      obtain ⟨k, hk, rfl, rfl, hall⟩ := hrel
      by_cases hlt : k < d.size
      · have HS := Lib.hid (numS_take d k hlt)
        have HB := Lib.hid (fun (h : isDig d[k] = false) => okV_bad (l := l) (c := d[k]) (by rw [← hd.out]; exact mem_at d k hlt) h)
        have HK := Lib.hid (take_snocD d k hlt)
        have hb : 0 ≤ numS (d.data.toList.take k) ∧ numS (d.data.toList.take k) < 10 ^ 16 := numS_bd 16 _ (by simp; omega)
        generalize numS (d.data.toList.take k) = x at *
        have hb2 : 0 ≤ x ∧ x < 10000000000000000 := hb
        clear hb
        obtain ⟨b1, b2⟩ := hb2
        rcases dig_cases d[k] with ⟨g1, g2⟩ | ⟨g1, g2, g3⟩ | ⟨g1, g2, g3⟩
        · have hbad := HB.out g2
          have L1 := Lib.hid hbad.1
          have L2 := Lib.hid hbad.2
          have hnx := fun ty => run_next_ascii (P := Tryd.prog) w1 d k ty hlt (by omega)
          have e1 : ((d[k].toNat : Int)) < 48 := by omega
          clear g1 g2 hbad HB HS HK
          generalize ((d[k].toNat : Nat)) = c at *
          go_wp2
          go_ret2
          exact ⟨ret_tup L2.out.symm L1.out.symm, B1.out.trans ((below_iterD _ _ _).mono B1.out.size)⟩
        · have hbad := HB.out g3
          have L1 := Lib.hid hbad.1
          have L2 := Lib.hid hbad.2
          by_cases ha : d[k].toNat < 128
          · have hnx := fun ty => run_next_ascii (P := Tryd.prog) w1 d k ty hlt ha
            have e1 : ¬ ((d[k].toNat : Int)) < 48 := by omega
            have e2 : 57 < ((d[k].toNat : Int)) := by omega
            clear g1 g2 g3 hbad HB HS HK ha
            generalize ((d[k].toNat : Nat)) = c at *
            go_wp2
            go_ret2
            exact ⟨ret_tup L2.out.symm L1.out.symm, B1.out.trans ((below_iterD _ _ _).mono B1.out.size)⟩
          · have hnx := fun ty => run_next_any (P := Tryd.prog) w1 d k ty hlt
            have hdh := (decode_high d k hlt (by omega)).1
            generalize (Utf8.decode d k).1 = c at *
            generalize (Utf8.decode d k).2 = q at *
            have e1 : ¬ ((c : Int)) < 48 := by omega
            have e2 : 57 < ((c : Int)) := by omega
            clear g1 g2 g3 hbad HB HS HK ha hdh
            go_wp2
            go_ret2
            exact ⟨ret_tup L2.out.symm L1.out.symm, B1.out.trans ((below_iterD _ _ _).mono B1.out.size)⟩
        · have L := Lib.hid g3
          have hnx := fun ty => run_next_ascii (P := Tryd.prog) w1 d k ty hlt (by omega)
          have e1 : ¬ ((d[k].toNat : Int)) < 48 := by omega
          have e2 : ¬ 57 < ((d[k].toNat : Int)) := by omega
          have HX := Lib.hid (show numS (d.data.toList.take (k + 1)) = x * 10 + ((d[k].toNat : Int) - 48) by rw [HS.out]; unfold stepS; rw [L.out, if_pos rfl]; omega)
          have hc1 : 48 ≤ d[k].toNat := g1
          have hc2 : d[k].toNat ≤ 57 := g2
          clear g1 g2 g3 HB HS
          generalize hcc : ((d[k].toNat : Nat)) = c at *
          clear hcc
          go_wp2
          go_roundw
          case rel => exact ⟨k + 1, by omega, rfl, by rw [HX.out], by
            intro c hc
            rw [HK.out] at hc
            rcases List.mem_append.1 hc with h | h
            · exact hall c h
            · rw [List.mem_singleton.1 h]; exact L.out⟩
          case measure => simp; omega
      · have hnx := fun ty => run_next_end (P := Tryd.prog) w1 d k ty hlt
        have hks : k = d.size := by omega
        have hb : 0 ≤ numS (d.data.toList.take k) ∧ numS (d.data.toList.take k) < 10 ^ 16 := numS_bd 16 _ (by simp; omega)
        have hx := Lib.hid (show numS (d.data.toList.take k) = numS (behind l) by rw [List.take_of_length_le (by simp; omega), hd.out])
        generalize numS (d.data.toList.take k) = x at *
        have hb2 : 0 ≤ x ∧ x < 10000000000000000 := hb
        clear hb hall
        obtain ⟨b1, b2⟩ := hb2
        have B2 := Lib.hid (B1.out.trans ((below_iterD w1 d k).mono B1.out.size))
        have P2 := Lib.hid (pow10_below P1.out (below_iterD w1 d k))
        clear hks
        cases ng
        · have hv : x = if negV l then -(numS (behind l)) else numS (behind l) := by rw [← hng.out, ← hx.out]; rfl
          have hvb : -9223372036854775808 ≤ x ∧ x ≤ 9223372036854775807 := by omega
          clear hx
          have HO := Lib.hid (impl_end (l := l) (v := (x)) hv).1
          have HA := Lib.hid (impl_end (l := l) (v := (x)) hv).2
          have HL := Lib.hid (fun W => isValue_any (x) W)
          have HD := Lib.hid (fun W h => implDecimal_any (x) W hvb.1 hvb.2 h)
          clear hv
          cases hr : inRange (x)
          · rw [hr] at HL HO
            go_wp2_with fail
            refine (HL.out _).mono ?_
            rintro e w' ⟨rfl, rfl⟩
            go_wp2_with fail
            go_ret2
            exact ⟨ret_tup (by rw [HA.out, HO.out]; rfl) (by rw [HO.out]; rfl), B2.out⟩
          · rw [hr] at HL HO
            go_wp2_with fail
            refine (HL.out _).mono ?_
            rintro e w' ⟨rfl, rfl⟩
            go_wp2_with fail
            refine (HD.out _ P2.out).mono ?_
            rintro e w3 ⟨rfl, hbel⟩
            have HB := Lib.hid (B2.out.trans (hbel.mono B2.out.size))
            clear hbel
            by_cases ht : (⟨(Lib.itoa (x)).toArray⟩ : ByteArray) = s
            · have HT := Lib.hid (show Lib.itoa (x) = l by rw [hl.out, ← ht])
              rw [ht]
              go_wp2_with fail
              go_ret2
              exact ⟨ret_tup (by rw [HA.out, HO.out, HT.out]; simp) (by rw [HO.out, HT.out]; simp), HB.out⟩
            · have HT := Lib.hid (show ¬ Lib.itoa (x) = l by
                intro e
                apply ht
                rw [e, hl.out])
              have hne := str_ne ht
              generalize (⟨(Lib.itoa (x)).toArray⟩ : ByteArray) = t at *
              go_wp2_with fail
              go_ret2
              exact ⟨ret_tup (by rw [HA.out, HO.out]; simp [HT.out]) (by rw [HO.out]; simp [HT.out]), HB.out⟩
        · have hv : -x = if negV l then -(numS (behind l)) else numS (behind l) := by rw [← hng.out, ← hx.out]; rfl
          have hvb : -9223372036854775808 ≤ -x ∧ -x ≤ 9223372036854775807 := by omega
          clear hx
          have HO := Lib.hid (impl_end (l := l) (v := (-x)) hv).1
          have HA := Lib.hid (impl_end (l := l) (v := (-x)) hv).2
          have HL := Lib.hid (fun W => isValue_any (-x) W)
          have HD := Lib.hid (fun W h => implDecimal_any (-x) W hvb.1 hvb.2 h)
          clear hv
          cases hr : inRange (-x)
          · rw [hr] at HL HO
            go_wp2_with fail
            refine (HL.out _).mono ?_
            rintro e w' ⟨rfl, rfl⟩
            go_wp2_with fail
            go_ret2
            exact ⟨ret_tup (by rw [HA.out, HO.out]; rfl) (by rw [HO.out]; rfl), B2.out⟩
          · rw [hr] at HL HO
            go_wp2_with fail
            refine (HL.out _).mono ?_
            rintro e w' ⟨rfl, rfl⟩
            go_wp2_with fail
            refine (HD.out _ P2.out).mono ?_
            rintro e w3 ⟨rfl, hbel⟩
            have HB := Lib.hid (B2.out.trans (hbel.mono B2.out.size))
            clear hbel
            by_cases ht : (⟨(Lib.itoa (-x)).toArray⟩ : ByteArray) = s
            · have HT := Lib.hid (show Lib.itoa (-x) = l by rw [hl.out, ← ht])
              rw [ht]
              go_wp2_with fail
              go_ret2
              exact ⟨ret_tup (by rw [HA.out, HO.out, HT.out]; simp) (by rw [HO.out, HT.out]; simp), HB.out⟩
            · have HT := Lib.hid (show ¬ Lib.itoa (-x) = l by
                intro e
                apply ht
                rw [e, hl.out])
              have hne := str_ne ht
              generalize (⟨(Lib.itoa (-x)).toArray⟩ : ByteArray) = t at *
              go_wp2_with fail
              go_ret2
              exact ⟨ret_tup (by rw [HA.out, HO.out]; simp [HT.out]) (by rw [HO.out]; simp [HT.out]), HB.out⟩
  · have d16 : (16 : Int) < (d.size : Int) := by omega
    obtain ⟨o1, o2⟩ := okV_long (l := l) (by omega)
    rw [o1, o2]
    clear o1 o2 hdl h16
    go_enter Tryd.func10, Tryd.ntmps10
    go_wp2_with fail
    refine (HC.out _).mono ?_
    rintro e w' ⟨rfl, rfl⟩
    go_wp2_with fail
    refine HM.out.mono ?_
    rintro e w1 ⟨t, rfl, ht16, hb1⟩
    have B1 := Lib.hid hb1
    clear hb1
    have d17 : (t.size : Int) < (d.size : Int) := by omega
    go_wp2_with fail
    go_ret2
    exact ⟨rfl, B1.out⟩

theorem specRead_any (s : ByteArray) (w : World) (hs : s.size ≤ 1048576) : Calls Tryd.prog 9 #[.string s] w fun e w' => e = .returned (.tuple #[.int .i64 (ansV s.data.toList), .bool (okV s.data.toList)]) ∧ Below w.heap.size w w' := by
  have H := Lib.hid (l01Value_any s w hs)
  generalize ansV s.data.toList = a at *
  generalize okV s.data.toList = b at *
  go_enter Tryd.func9, Tryd.ntmps9
  go_wp2_with fail
  refine H.out.mono ?_
  rintro e w' ⟨rfl, hb⟩
  have HB := Lib.hid hb
  clear hb
  go_wp2_with fail
  go_ret2
  exact ⟨rfl, HB.out⟩

theorem fnExactReadDecimal.walk (s : ByteArray) (w : World) (ws : s.size ≤ maxLen) (ht : Pow10 w) : Calls Tryd.prog 4 #[.string s] w fun e w' => e = .returned (.bool true) ∧ Below w.heap.size w w' := by
  unfold maxLen at ws
  by_cases hl : 1048576 < s.size
  · have hl' : (1048576 : Int) < (s.size : Int) := by omega
    go_enter Tryd.func4, Tryd.ntmps4
    go_wp2_with fail
    go_ret
    exact ⟨rfl, Below.refl _ _⟩
  · have hl' : ¬ (1048576 : Int) < (s.size : Int) := by omega
    have H1 := Lib.hid (specRead_any s w (by omega))
    have H2 := Lib.hid (fun W h => implRead_any s W (by omega) h)
    have HT := Lib.hid ht
    clear ht
    generalize ansV s.data.toList = a at *
    generalize okV s.data.toList = b at *
    go_enter Tryd.func4, Tryd.ntmps4
    go_wp2_with fail
    refine H1.out.mono ?_
    rintro e w1 ⟨rfl, hb1⟩
    have B1 := Lib.hid hb1
    clear hb1
    go_wp2_with fail
    refine (H2.out _ (pow10_below HT.out B1.out)).mono ?_
    rintro e w2 ⟨rfl, hb2⟩
    have B2 := Lib.hid (B1.out.trans (hb2.mono B1.out.size))
    clear hb2
    go_wp2_with fail
    go_ret
    exact ⟨rfl, B2.out⟩
end Go.Proofs.YtcjblilmnhgioaaDoor
