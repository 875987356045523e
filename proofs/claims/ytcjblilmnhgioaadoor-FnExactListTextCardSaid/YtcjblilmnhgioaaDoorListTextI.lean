/- The text of a list of integers: the program's walk, and the law. -/
import Derived.Test.YtcjblilmnhgioaaDoorListText
import Derived.Test.YtcjblilmnhgioaaDoorShelfC
import Derived.Test.YtcjblilmnhgioaaDoorRowk
set_option linter.unusedVariables false
namespace Go.Proofs.YtcjblilmnhgioaaDoor
open Go.RowKit

def listV (f : Nat → Int) (n : Nat) : List UInt8 := if okL f n then writeV f n else []
theorem listV_no {f : Nat → Int} {n : Nat} (h : okL f n = false) : listV f n = [] := by unfold listV; rw [h]; rfl
theorem listV_yes {f : Nat → Int} {n : Nat} (h : okL f n = true) : listV f n = writeV f n := by unfold listV; rw [if_pos h]
theorem ret_strb {a b : List UInt8} {x y : Bool} (h : a = b) (k : x = y) : Ending.returned (.tuple #[.string ⟨a.toArray⟩, .bool x]) = .returned (.tuple #[.string ⟨b.toArray⟩, .bool y]) := by rw [h, k]
theorem info_str : (Tryd.prog.info? 9).map (fun i => (i.zero, i.size, i.bytes)) = some (some (.string ByteArray.empty), 1, 16) := by kernel_rfl

theorem ownsRow_below {w w' : World} {base e size : Nat} {g n cap : Nat} {xs : List Value} (h : w.ownsRow base e size (.slice (some ⟨g, 0, none⟩) n cap) n xs) (b : Below w.heap.size w w') : w'.ownsRow base e size (.slice (some ⟨g, 0, none⟩) n cap) n xs := by
  refine ⟨h.1, ?_⟩
  rcases h.2 with ⟨h1, _⟩ | ⟨g', c, cur, h1, hb, h3, h4, h5, h6, h7⟩
  · cases h1
  · refine .inr ⟨g', c, cur, h1, hb, ?_, h4, h5, h6, h7⟩
    rw [b.block g' (Array.getElem?_eq_some_iff.1 h3).1]
    exact h3

/-- The texts as far as they are made. -/
def Texts (f : Nat → Int) (xs : List Value) (k : Nat) : Prop := ∀ i, i < k → xs[i]? = some (.string ⟨(Lib.itoa (f i)).toArray⟩)
theorem Texts.step {f : Nat → Int} {xs : List Value} {k : Nat} (h : Texts f xs k) (hk : k < xs.length) : Texts f (xs.set k (.string ⟨(Lib.itoa (f k)).toArray⟩)) (k + 1) := by
  intro i hi
  by_cases e : i = k
  · subst e; simp [hk]
  · rw [List.getElem?_set_ne (by omega)]; exact h i (by omega)

theorem joinTexts_any (bk n : Nat) (f : Nat → Int) (w : World) (hn : n ≤ 64) (ha : allIn f n = true) (hbk : bk < w.heap.size) (hc : ∀ j, j < n → w.cell? ⟨bk, j, none⟩ = some (.string ⟨(Lib.itoa (f j)).toArray⟩)) :
    Calls Tryd.prog 32 #[.slice (some ⟨bk, 0, none⟩) n n, .string ⟨#[44]⟩] w fun e w' => e = .returned (.string ⟨(textV f n).toArray⟩) ∧ Below w.heap.size w w' := by
  have hlen : ((List.range n).map fun i => (⟨(Lib.itoa (f i)).toArray⟩ : ByteArray)).length = n := by simp
  have hrows : (((List.range n).map fun i => (⟨(Lib.itoa (f i)).toArray⟩ : ByteArray)).map (·.data.toList)) = rowsT f n := by unfold rowsT; simp
  have h := Tryd.strings_Join bk 0 n ((List.range n).map fun i => (⟨(Lib.itoa (f i)).toArray⟩ : ByteArray)) ⟨#[44]⟩ w (fun j x hx => by
    have hj : j < n := by have := (List.getElem?_eq_some_iff.1 hx).1; simpa using this
    rw [Nat.zero_add, hc j hj]
    simp [hj] at hx
    rw [← hx]) hbk (by rw [hlen]; omega) (by rw [hlen]; exact Nat.le_refl _) (by
    rw [hrows]
    have := textV_len n ha
    show (textV f n).length ≤ _
    omega)
  rw [hlen, hrows] at h
  exact h

theorem items_no (g n : Nat) (fv : Value) (w : World) (hn : 64 < n) :
    Calls Tryd.prog 26 #[.slice (some ⟨g, 0, none⟩) n n, .int .i64 64, fv] w fun e w' => e = .returned (.tuple #[.string ⟨#[]⟩, .bool false]) ∧ w = w' := by
  have d1 : (64 : Int) < n := by omega
  go_enter Tryd.func26, Tryd.ntmps26
  go_wp2
  go_ret2
  exact ⟨rfl, rfl⟩

theorem items_yes (g n : Nat) (f : Nat → Int) (w : World) (hn : n ≤ 64) (ha : allIn f n = true) (hg : At64 w g n f) (hp : Pow10 w) :
    Calls Tryd.prog 26 #[.slice (some ⟨g, 0, none⟩) n n, .int .i64 64, .func (.func 8) #[] #[]] w fun e w' => e = .returned (.tuple #[.string ⟨(writeV f n).toArray⟩, .bool true]) ∧ Below w.heap.size w w' := by
  have d1 : ¬ (64 : Int) < n := by omega
  by_cases h0 : n = 0
  · subst h0
    clear ha hg hp
    go_enter Tryd.func26, Tryd.ntmps26
    go_wp2
    go_ret2
    exact ⟨rfl, Below.refl _ _⟩
  · have d0 : ¬ (n : Int) = 0 := by omega
    have HW := Lib.hid (show writeV f n = textV f n by unfold writeV; rw [if_neg h0])
    have HP := Lib.hid hp
    clear hp
    obtain ⟨i, hi, hz, hs, hb⟩ := info_parts info_str
    go_enter Tryd.func26, Tryd.ntmps26
    go_wp2_with (first
      | (at_make; refine wpList_make_full _ rfl _ _ 43 rfl w.heap.size 9 i (.string ByteArray.empty) 1 Tryd.underlying43 hi hz hs .i64 .i64 _ _ n rfl rfl rfl rfl (by rw [hb]; omega) (by unfold maxLen; omega) (Nat.le_refl _) ?_; intro w0 hown0 hgrow0)
      | go_in)
    have HB0 := Lib.hid ((Below.refl w.heap.size w).grown hgrow0 (Nat.le_refl _) (fun _ h => by cases h))
    go_loopw [23] (fun r wr => ∃ k : Nat, ∃ xs : List Value, k ≤ n ∧ r = .int .i64 k ∧ wr.ownsRow w.heap.size 9 1 (.slice (some ⟨w.heap.size, 0, none⟩) n n) n xs ∧ Hid (Below w.heap.size w wr) ∧ Hid (Texts f xs k)) (fun r _ => n - (intOf r).toNat)
    case atStart => exact ⟨0, _, Nat.zero_le _, rfl, hown0, HB0, fun i hi => by omega⟩
    case round =>
      obtain ⟨k, xs, hk, rfl, hown, HB, HT⟩ := hrel
      have hxl : xs.length = n := by have := hown.1; omega
      by_cases hlt : k < n
      · have d2 : (k : Int) < n := by omega
        have hcw : wr.cell? ⟨g, k, none⟩ = some (.int .i64 (f k)) := by rw [HB.out.cell hg.1]; exact hg.2 k hlt
        have hbk := inRange_bd (allIn_at ha hlt)
        have HD := Lib.hid (implDecimal_any (f k) wr hbk.1 hbk.2 (pow10_below HP.out (HB.out)))
        have HO := Lib.hid (fun w2 (b : Below wr.heap.size wr w2) => ownsRow_below hown b)
        have HT2 := Lib.hid (HT.out.step (show k < xs.length by omega))
        have hold := Lib.hid (show k < xs.length by omega)
        have HR := Lib.hid (show wr.ownsRow w.heap.size 9 1 (.slice (some ⟨w.heap.size, 0, none⟩) n n) n xs from hown)
        clear hown
        generalize hfk : f k = x at *
        clear hfk
        generalize (⟨(Lib.itoa x).toArray⟩ : ByteArray) = t at *
        go_wp2_with fail
        refine HD.out.mono ?_
        rintro e w2 ⟨rfl, hb2⟩
        have hown2 := HO.out w2 hb2
        have HB2 := Lib.hid (HB.out.trans (hb2.mono HB.out.size))
        obtain ⟨old, hcg⟩ : ∃ old, w2.cell? ⟨w.heap.size, k, none⟩ = some old := ⟨xs[k]'hold.out, by
          rw [hown2.cellAt k (by omega)]
          exact List.getElem?_eq_getElem hold.out⟩
        have hfg : w2.frozen? ⟨w.heap.size, k, none⟩ = false := hown2.frozenAt k
        have hst := Lib.hid (hown2.stored k (.string t))
        clear hb2 hown2
        go_wp2_with fail
        exact ⟨⟨k + 1, _, by omega, by simp, hst.out.1, Lib.hid (HB2.out.grown hst.out.2 HB2.out.size (fun _ h => by cases h; exact Nat.le_refl _)), HT2⟩, by simp [intOf]; omega⟩
      · have d2 : ¬ (k : Int) < n := by omega
        have e : k = n := by omega
        subst e
        have hlt2 : w.heap.size < wr.heap.size := by
          rcases hown.2 with ⟨h', _⟩ | ⟨g', cap', cur, h', _, hg', _⟩
          · cases h'
          · simp only [Value.slice.injEq, Option.some.injEq, Addr.mk.injEq, and_true] at h'
            rw [h'.1]
            exact (Array.getElem?_eq_some_iff.1 hg').1
        have HJ := Lib.hid (joinTexts_any w.heap.size k f wr hn ha hlt2 (fun j hj => by
          rw [hown.cellAt j (by omega)]
          exact HT.out j hj))
        clear hown HT
        go_wp2_with fail
        refine HJ.out.mono ?_
        rintro e w3 ⟨rfl, hb3⟩
        have HB3 := Lib.hid (HB.out.trans (hb3.mono HB.out.size))
        clear hb3
        go_wp2_with fail
        go_ret2
        exact ⟨ret_strb HW.out.symm rfl, HB3.out⟩

theorem implList_any (g n : Nat) (f : Nat → Int) (w : World) (hn : n ≤ 1048576) (hg : At64 w g n f) (hp : Pow10 w) :
    Calls Tryd.prog 13 #[.slice (some ⟨g, 0, none⟩) n n] w fun e w' => e = .returned (.tuple #[.string ⟨(listV f n).toArray⟩, .bool (okL f n)]) ∧ Below w.heap.size w w' := by
  go_enter Tryd.func13, Tryd.ntmps13
  go_wp2
  go_loop [8] (fun i => ∃ k : Nat, k ≤ n ∧ i = .int .i64 k ∧ Hid (allIn f k = true)) (fun i => n - (intOf i).toNat)
  case atStart => exact ⟨0, Nat.zero_le _, rfl, rfl⟩
  case round =>
    obtain ⟨k, hk, rfl, HA⟩ := hrel
    by_cases hlt : k < n
    · have d1 : (k : Int) < n := by omega
      have hcg : w.cell? ⟨g, k, none⟩ = some (.int .i64 (f k)) := hg.2 k hlt
      have HL := Lib.hid (fun W => isValue_any (f k) W)
      cases hr : inRange (f k)
      · have HO := Lib.hid (show okL f n = false by unfold okL; rw [allIn_no hlt hr]; rfl)
        rw [hr] at HL
        clear hr
        generalize f k = x at *
        go_wp2_with fail
        refine (HL.out _).mono ?_
        rintro e w' ⟨rfl, rfl⟩
        go_wp2_with fail
        go_ret2
        exact ⟨ret_strb (listV_no HO.out).symm HO.out.symm, Below.refl _ _⟩
      · have HB := Lib.hid (show allIn f (k + 1) = true by rw [allIn_succ, HA.out, hr]; rfl)
        rw [hr] at HL
        clear hr
        generalize f k = x at *
        go_wp2_with fail
        refine (HL.out _).mono ?_
        rintro e w' ⟨rfl, rfl⟩
        go_wp2_with fail
        go_round
        case rel => exact ⟨k + 1, by omega, by go_num, HB⟩
        case measure => simp [intOf]; omega
    · have d1 : ¬ (k : Int) < n := by omega
      have hkn : k = n := by omega
      subst hkn
      by_cases h64 : k ≤ 64
      · have HO := Lib.hid (show okL f k = true by unfold okL; rw [HA.out]; simp [h64])
        have HI := Lib.hid (items_yes g k f w h64 HA.out hg hp)
        have HV := Lib.hid (listV_yes HO.out)
        clear hg hp
        go_wp2_with fail
        refine HI.out.mono ?_
        rintro e w' ⟨rfl, hb⟩
        have HB := Lib.hid hb
        clear hb
        go_wp2_with fail
        go_ret2
        exact ⟨ret_strb HV.out.symm HO.out.symm, HB.out⟩
      · have HO := Lib.hid (show okL f k = false by unfold okL; simp [h64])
        have HI := Lib.hid (fun fv W => items_no g k fv W (by omega))
        have HV := Lib.hid (listV_no HO.out)
        clear hg hp
        go_wp2_with fail
        refine (HI.out _ _).mono ?_
        rintro e w' ⟨rfl, rfl⟩
        go_wp2_with fail
        go_ret2
        exact ⟨ret_strb HV.out.symm HO.out.symm, Below.refl _ _⟩

theorem specList_any (g n : Nat) (f : Nat → Int) (w : World) (hn : n ≤ 1048576) (hg : At64 w g n f) :
    Calls Tryd.prog 11 #[.slice (some ⟨g, 0, none⟩) n n] w fun e w' => e = .returned (.tuple #[.string ⟨(listV f n).toArray⟩, .bool (okL f n)]) ∧ Below w.heap.size w w' := by
  have HL := Lib.hid (l01List_any g n f w hn hg)
  cases ho : okL f n
  · have HV := Lib.hid (listV_no ho)
    rw [ho] at HL
    clear ho hg
    go_enter Tryd.func11, Tryd.ntmps11
    go_wp2_with fail
    refine HL.out.mono ?_
    rintro e w' ⟨rfl, rfl⟩
    go_wp2_with fail
    go_ret2
    exact ⟨ret_strb HV.out.symm rfl, Below.refl _ _⟩
  · have HV := Lib.hid (listV_yes ho)
    have ho' := ho
    unfold okL at ho'
    simp at ho'
    have HT := Lib.hid (l01Text_any g n f w ho'.2 ho'.1 hg)
    rw [ho] at HL
    clear ho ho' hg
    go_enter Tryd.func11, Tryd.ntmps11
    go_wp2_with fail
    refine HL.out.mono ?_
    rintro e w' ⟨rfl, rfl⟩
    go_wp2_with fail
    refine HT.out.mono ?_
    rintro e w' ⟨rfl, hb⟩
    have HB := Lib.hid hb
    clear hb
    go_wp2_with fail
    go_ret2
    exact ⟨ret_strb HV.out.symm rfl, HB.out⟩

theorem V64_of {w : World} {a : Option Addr} {len cap : Nat} {zs : List Int} (h : IsRow .i64 w a len cap zs) : V64 w a len cap (fun i => zs.getD i 0) := by
  rcases h with ⟨h1, h2, h3, _⟩ | ⟨x, h1, h2, h3, h4, h5, _⟩
  · exact .inl ⟨h1, h2, h3⟩
  · exact .inr ⟨x, h1, fun i hi => h5 i (by omega)⟩

theorem fnExactListText.walk (a : Option Addr) (len cap : Nat) (zs : List Int) (w : World) (h : IsRow .i64 w a len cap zs) (hp : Pow10 w) :
    Calls Tryd.prog 5 #[.slice a len cap] w fun e w' => e = .returned (.bool true) ∧ Below w.heap.size w w' := by
  have hv0 := Lib.hid (V64_of h)
  clear h
  generalize (fun i => zs.getD i 0) = f at *
  by_cases hbig : len ≤ 1048576
  · have d1 : ¬ (1048576 : Int) < len := by omega
    have HT := Lib.hid (fun W hv => toI_any a len cap f W hbig hv)
    have HE := Lib.hid (fun g h W hg hh => eqI_any g h len f W hbig hg hh)
    have HS := Lib.hid (fun g W hg => specList_any g len f W hbig hg)
    have HI := Lib.hid (fun g W hg hq => implList_any g len f W hbig hg hq)
    have HP := Lib.hid hp
    clear hbig hp
    generalize listV f len = tx at *
    generalize okL f len = ok at *
    go_enter Tryd.func5, Tryd.ntmps5
    go_wp2_with fail
    refine (HT.out _ hv0.out).mono ?_
    rintro e w1 ⟨g1, rfl, hge1, hat1, hb1⟩
    have A1 := Lib.hid hat1
    have B1 := Lib.hid hb1
    have hv1 := Lib.hid (hv0.out.below hb1)
    clear hat1 hb1 hge1
    go_wp2_with fail
    refine (HS.out _ _ A1.out).mono ?_
    rintro e w2 ⟨rfl, hb2⟩
    have B2 := Lib.hid (B1.out.trans (hb2.mono B1.out.size))
    have hv2 := Lib.hid (hv1.out.below hb2)
    clear hb2
    go_wp2_with fail
    refine (HT.out _ hv2.out).mono ?_
    rintro e w3 ⟨g3, rfl, hge3, hat3, hb3⟩
    have A3 := Lib.hid hat3
    have B3 := Lib.hid (B2.out.trans (hb3.mono B2.out.size))
    have hv3 := Lib.hid (hv2.out.below hb3)
    clear hat3 hb3 hge3
    go_wp2_with fail
    refine (HI.out _ _ A3.out (pow10_below HP.out B3.out)).mono ?_
    rintro e w4 ⟨rfl, hb4⟩
    have A4 := Lib.hid (At64.below A3.out A3.out.1 hb4)
    have B4 := Lib.hid (B3.out.trans (hb4.mono B3.out.size))
    have hv4 := Lib.hid (hv3.out.below hb4)
    clear hb4
    go_wp2_with fail
    refine (HT.out _ hv4.out).mono ?_
    rintro e w5 ⟨g5, rfl, hge5, hat5, hb5⟩
    have A5 := Lib.hid hat5
    have A6 := Lib.hid (At64.below A4.out A4.out.1 hb5)
    have B5 := Lib.hid (B4.out.trans (hb5.mono B4.out.size))
    clear hat5 hb5 hge5
    go_wp2_with fail
    refine (HE.out _ _ _ A6.out A5.out).mono ?_
    rintro e w6 ⟨rfl, hb6⟩
    have B6 := Lib.hid (B5.out.trans (hb6.mono B5.out.size))
    clear hb6
    go_wp2_with fail
    go_ret
    exact ⟨rfl, B6.out⟩
  · have d1 : (1048576 : Int) < len := by omega
    go_enter Tryd.func5, Tryd.ntmps5
    go_wp2
    go_ret
    exact ⟨rfl, Below.refl _ _⟩
end Go.Proofs.YtcjblilmnhgioaaDoor
