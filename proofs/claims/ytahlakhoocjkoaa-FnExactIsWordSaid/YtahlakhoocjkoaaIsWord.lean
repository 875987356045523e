/- Words: both sides' tests. -/
import Derived.Test.YtahlakhoocjkoaaMem
import Derived.Test.YtahlakhoocjkoaaIn
set_option linter.unusedVariables false
namespace Go.Proofs.Ytahlakhoocjkoaa
open Go.RowKit

/-- The first n numbers of f are from 0 to b. -/
def allIn (f : Nat → Int) (n : Nat) (b : Int) : Bool := (List.range n).all fun i => inB (f i) 0 b
theorem allIn_iff {f : Nat → Int} {n : Nat} {b : Int} : allIn f n b = true ↔ ∀ i, i < n → 0 ≤ f i ∧ f i ≤ b := by
  unfold allIn
  rw [List.all_eq_true]
  exact ⟨fun h i hi => inB_iff.1 (h i (List.mem_range.2 hi)), fun h i hi => inB_iff.2 (h i (List.mem_range.1 hi))⟩
theorem allIn_no {f : Nat → Int} {n k : Nat} {b : Int} (hk : k < n) (h : inB (f k) 0 b = false) : allIn f n b = false := by
  cases e : allIn f n b
  · rfl
  · have := allIn_iff.1 e k hk
    exact absurd this (inB_no h)
/-- A word. -/
def wordB (f : Nat → Int) (n : Nat) (b : Int) : Bool := allIn f n b && decide (n ≤ 12)
theorem wordB_iff {f : Nat → Int} {n : Nat} {b : Int} : wordB f n b = true ↔ (∀ i, i < n → 0 ≤ f i ∧ f i ≤ b) ∧ n ≤ 12 := by
  unfold wordB; simp [allIn_iff]

theorem l02Word_any (A : Option Addr) (n c : Nat) (f : Nat → Int) (l : Int) (w : World) (hn : n ≤ 4611686018427387904) (h : Ints w A n f) (h1 : 1 ≤ l) (h2 : l ≤ 4) :
    Calls Try.prog 60 #[.slice A n c, .int .i64 l] w fun e w' => e = .returned (.bool (wordB f n (l - 1))) ∧ w = w' := by
  have Hw := Lib.hid (show ∀ b, wordB f n b = (allIn f n b && decide (n ≤ 12)) from fun _ => rfl)
  go_enter Try.func60, Try.ntmps60
  go_wp2
  go_loop [5] (fun i => ∃ k : Nat, k ≤ n ∧ i = .int .i64 k ∧ Hid (∀ j, j < k → inB (f j) 0 (l - 1) = true)) (fun i => n - (intOf i).toNat)
  case atStart => exact ⟨0, Nat.zero_le _, rfl, fun j hj => by omega⟩
  case round =>
    obtain ⟨k, hk, rfl, HA⟩ := hrel
    by_cases hlt : k < n
    · have d1 : (k : Int) < n := by omega
      obtain ⟨x, rfl, hx⟩ := h k hlt
      have HK := Lib.hid (show ∀ b, inB (f k) 0 b = false → wordB f n b = false from fun b e => by rw [Hw.out, allIn_no hlt e]; rfl)
      have HS := Lib.hid (show inB (f k) 0 (l - 1) = true → ∀ j, j < k + 1 → inB (f j) 0 (l - 1) = true from fun e j hj => by
        rcases Nat.lt_or_ge j k with h | h
        · exact HA.out j h
        · have : j = k := by omega
          subst this
          exact e)
      clear h HA
      generalize f k = v at *
      cases e : inB v 0 (l - 1)
      · have HR := Lib.hid (HK.out _ e)
        have HE := Lib.hid e
        clear e HK HS
        go_wp2_with (first | (go_at_call 59; refine (l00In_any _ _ _ _).mono ?_; rw [HE.out]; rintro e w' ⟨rfl, rfl⟩))
        go_ret
        exact ⟨ret_bool HR.out.symm, rfl⟩
      · have HN := Lib.hid (HS.out e)
        have HE := Lib.hid e
        clear e HK HS
        go_wp2_with (first | (go_at_call 59; refine (l00In_any _ _ _ _).mono ?_; rw [HE.out]; rintro e w' ⟨rfl, rfl⟩))
        go_round
        case rel => exact ⟨k + 1, by omega, by go_num, HN⟩
        case measure => simp [intOf]; omega
    · have d1 : ¬ (k : Int) < n := by omega
      have e : k = n := by omega
      subst e
      have HR := Lib.hid (show allIn f k (l - 1) = true from allIn_iff.2 fun i hi => inB_iff.1 (HA.out i hi))
      clear HA h
      by_cases h12 : k ≤ 12
      · have d2 : (k : Int) ≤ 12 := by omega
        go_wp2
        go_ret
        exact ⟨ret_bool (by rw [Hw.out, HR.out]; simp [h12]), rfl⟩
      · have d2 : ¬ (k : Int) ≤ 12 := by omega
        go_wp2
        go_ret
        exact ⟨ret_bool (by rw [Hw.out, HR.out]; simp [h12]), rfl⟩

theorem implIsWord_any (A : Option Addr) (n c : Nat) (f : Nat → Int) (l : Int) (w : World) (hn : n ≤ 4611686018427387904) (h : Ints w A n f) :
    Calls Try.prog 24 #[.slice A n c, .int .i64 l] w fun e w' => e = .returned (.bool (inB l 1 4 && wordB f n (l - 1))) ∧ w = w' := by
  have Hw := Lib.hid (show ∀ b, wordB f n b = (allIn f n b && decide (n ≤ 12)) from fun _ => rfl)
  cases hl : inB l 1 4
  · have HE := Lib.hid hl
    clear hl
    go_enter Try.func24, Try.ntmps24
    go_wp2_with (first | (go_at_call 52; refine (between_any _ _ _ _).mono ?_; rw [HE.out]; rintro e w' ⟨rfl, rfl⟩))
    go_ret
    exact ⟨rfl, rfl⟩
  · obtain ⟨h1, h2⟩ := inB_iff.1 hl
    have HE := Lib.hid hl
    clear hl
    by_cases h12 : n ≤ 12
    · have d2 : ¬ (12 : Int) < n := by omega
      go_enter Try.func24, Try.ntmps24
      go_wp2_with (first | (go_at_call 52; refine (between_any _ _ _ _).mono ?_; rw [HE.out]; rintro e w' ⟨rfl, rfl⟩))
      go_loop [6, 17] (fun _ i => ∃ k : Nat, k ≤ n ∧ i = .int .i64 k ∧ Hid (∀ j, j < k → inB (f j) 0 (l - 1) = true)) (fun _ i => n - (intOf i).toNat)
      case atStart => exact ⟨0, Nat.zero_le _, rfl, fun j hj => by omega⟩
      case round =>
        obtain ⟨k, hk, rfl, HA⟩ := hrel
        by_cases hlt : k < n
        · have d1 : (k : Int) < n := by omega
          obtain ⟨x, rfl, hx⟩ := h k hlt
          have HK := Lib.hid (show ∀ b, inB (f k) 0 b = false → wordB f n b = false from fun b e => by rw [Hw.out, allIn_no hlt e]; rfl)
          have HS := Lib.hid (show inB (f k) 0 (l - 1) = true → ∀ j, j < k + 1 → inB (f j) 0 (l - 1) = true from fun e j hj => by
            rcases Nat.lt_or_ge j k with h | h
            · exact HA.out j h
            · have : j = k := by omega
              subst this
              exact e)
          clear h HA
          generalize f k = v at *
          cases e : inB v 0 (l - 1)
          · have HR := Lib.hid (HK.out _ e)
            have HE2 := Lib.hid e
            clear e HK HS
            go_wp2_with (first | (go_at_call 52; refine (between_any _ _ _ _).mono ?_; rw [HE2.out]; rintro e w' ⟨rfl, rfl⟩))
            go_ret
            exact ⟨ret_bool (by rw [HR.out]; rfl), rfl⟩
          · have HN := Lib.hid (HS.out e)
            have HE2 := Lib.hid e
            clear e HK HS
            go_wp2_with (first | (go_at_call 52; refine (between_any _ _ _ _).mono ?_; rw [HE2.out]; rintro e w' ⟨rfl, rfl⟩))
            go_round
            case rel => exact ⟨k + 1, by omega, by go_num, HN⟩
            case measure => simp [intOf]; omega
        · have d1 : ¬ (k : Int) < n := by omega
          have e : k = n := by omega
          subst e
          have HR := Lib.hid (show allIn f k (l - 1) = true from allIn_iff.2 fun i hi => inB_iff.1 (HA.out i hi))
          clear HA h
          go_wp2
          go_ret
          exact ⟨ret_bool (by rw [Hw.out, HR.out]; simp [h12]), rfl⟩
    · have d2 : (12 : Int) < n := by omega
      go_enter Try.func24, Try.ntmps24
      go_wp2_with (first | (go_at_call 52; refine (between_any _ _ _ _).mono ?_; rw [HE.out]; rintro e w' ⟨rfl, rfl⟩))
      go_ret
      exact ⟨ret_bool (by rw [Hw.out]; simp [h12]), rfl⟩

theorem specIsWord_any (A : Option Addr) (n c : Nat) (f : Nat → Int) (l : Int) (w : World) (hn : n ≤ 4611686018427387904) (h : Ints w A n f) :
    Calls Try.prog 22 #[.slice A n c, .int .i64 l] w fun e w' => e = .returned (.bool (inB l 1 4 && wordB f n (l - 1))) ∧ w = w' := by
  cases hl : inB l 1 4
  · have HE := Lib.hid hl
    clear hl
    go_enter Try.func22, Try.ntmps22
    go_wp2_with (first | (go_at_call 59; refine (l00In_any _ _ _ _).mono ?_; rw [HE.out]; rintro e w' ⟨rfl, rfl⟩))
    go_ret
    exact ⟨rfl, rfl⟩
  · obtain ⟨h1, h2⟩ := inB_iff.1 hl
    have HE := Lib.hid hl
    have HW := Lib.hid (fun W hv => l02Word_any A n c f l W hn hv h1 h2)
    clear hl
    have H := Lib.hid h
    clear h
    go_enter Try.func22, Try.ntmps22
    go_wp2_with (first | (go_at_call 59; refine (l00In_any _ _ _ _).mono ?_; rw [HE.out]; rintro e w' ⟨rfl, rfl⟩) | (go_at_call 60; refine (HW.out _ H.out).mono ?_; rintro e w' ⟨rfl, rfl⟩))
    go_ret
    exact ⟨rfl, rfl⟩

theorem fnExactIsWord.walk (a : Option Addr) (len cap : Nat) (zs : List Int) (l : Int) (w : World) (h : IsRow .i64 w a len cap zs) (hl : (Lit.int .i64 l).wf = true) :
    Calls Try.prog 5 #[.slice a len cap, .int .i64 l] w fun e w' => e = .returned (.bool true) ∧ Below w.heap.size w w' := by
  have hv0 := Lib.hid (V64.ofRow h)
  clear h
  generalize (fun i => zs.getD i 0) = f at *
  by_cases hbig : len ≤ 1048576
  · have d1 : ¬ (1048576 : Int) < len := by omega
    have HT := Lib.hid (fun W hv => toI_any a len cap f W hbig hv)
    have HE := Lib.hid (fun A B c d W hg hh => eqInts A B len c d f W (by omega) hg hh)
    have HS := Lib.hid (fun A c W hv => specIsWord_any A len c f l W (by omega) hv)
    have HI := Lib.hid (fun A c W hv => implIsWord_any A len c f l W (by omega) hv)
    clear hbig hl
    generalize (inB l 1 4 && wordB f len (l - 1)) = r at *
    go_enter Try.func5, Try.ntmps5
    go_wp2_with fail
    refine (HT.out _ hv0.out).mono ?_
    rintro e w1 ⟨g1, rfl, hge1, hat1, hb1⟩
    have A1 := Lib.hid (Ints.ofAt hat1)
    have B1 := Lib.hid hb1
    have hv1 := Lib.hid (hv0.out.below hb1)
    clear hat1 hb1 hge1
    go_wp2_with fail
    refine (HS.out _ _ _ A1.out).mono ?_
    rintro e w2 ⟨rfl, rfl⟩
    go_wp2_with fail
    refine (HT.out _ hv1.out).mono ?_
    rintro e w3 ⟨g3, rfl, hge3, hat3, hb3⟩
    have A3 := Lib.hid (Ints.ofAt hat3)
    have B3 := Lib.hid (B1.out.trans (hb3.mono B1.out.size))
    have hv3 := Lib.hid (hv1.out.below hb3)
    clear hat3 hb3 hge3
    go_wp2_with fail
    refine (HI.out _ _ _ A3.out).mono ?_
    rintro e w4 ⟨rfl, rfl⟩
    go_wp2_with fail
    refine (HT.out _ hv3.out).mono ?_
    rintro e w5 ⟨g5, rfl, hge5, hat5, hb5⟩
    have A5 := Lib.hid (Ints.ofAt hat5)
    have A6 := Lib.hid (A3.out.below hb5)
    have B5 := Lib.hid (B3.out.trans (hb5.mono B3.out.size))
    clear hat5 hb5 hge5
    go_wp2_with fail
    refine (HE.out _ _ _ _ _ A6.out A5.out).mono ?_
    rintro e w6 ⟨rfl, m, rfl⟩
    have B6 := Lib.hid (B5.out.trans (drewN_below _ m _))
    go_wp2_with fail
    go_ret
    exact ⟨rfl, B6.out⟩
  · have d1 : (1048576 : Int) < len := by omega
    go_enter Try.func5, Try.ntmps5
    go_wp2
    go_ret
    exact ⟨rfl, Below.refl _ _⟩
end Go.Proofs.Ytahlakhoocjkoaa
