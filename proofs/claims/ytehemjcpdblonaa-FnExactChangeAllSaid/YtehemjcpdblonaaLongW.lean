/- Long words and lists of letters: both sides' tests. -/
import Derived.Test.YtehemjcpdblonaaContI
import Derived.Test.YtehemjcpdblonaaBoxN
set_option linter.unusedVariables false
namespace Go.Proofs.Ytehemjcpdblonaa
open Go.RowKit

/-- A list of at most t letters. -/
def lettersB (f : Nat → Int) (n : Nat) (l : Int) (t : Nat) : Bool := inB l 1 4 && (decide (n ≤ t) && allP (letP l) f n)

theorem l05Letters_any (l : Int) (w : World) : Calls Try.prog 84 #[.int .i64 l] w fun e w' => e = .returned (.bool (inB l 1 4)) ∧ w = w' := by
  have H := Lib.hid (fun W => l00In_any l 1 4 W)
  generalize inB l 1 4 = r at *
  go_enter Try.func84, Try.ntmps84
  go_wp2_with fail
  refine (H.out _).mono ?_
  rintro e w' ⟨rfl, rfl⟩
  go_wp2_with fail
  go_ret
  exact ⟨rfl, rfl⟩
theorem l05Long_any (A : Option Addr) (n c : Nat) (f : Nat → Int) (l : Int) (w : World) (hn : n ≤ 1048576) (h : Cells w A n (fun i => .int .i64 (f i))) :
    Calls Try.prog 54 #[.slice A n c, .int .i64 l] w fun e w' => e = .returned (.bool (lettersB f n l 24)) ∧ w = w' := by
  have HU := Lib.hid (show lettersB f n l 24 = (inB l 1 4 && (decide (n ≤ 24) && allP (letP l) f n)) from rfl)
  have HL := Lib.hid (fun W => l05Letters_any l W)
  have HN := Lib.hid (fun k (hk : k < n) e => allP_no (p := letP l) (f := f) hk e)
  have HV := Lib.hid (fun e => (allP_iff (p := letP l) (f := f) (n := n)).2 e)
  have H := Lib.hid h
  clear h
  generalize lettersB f n l 24 = r at *
  cases h1 : inB l 1 4
  · rw [h1] at HL HU
    clear h1
    go_enter Try.func54, Try.ntmps54
    go_wp2_with fail
    refine (HL.out _).mono ?_
    rintro e w' ⟨rfl, rfl⟩
    go_wp2_with fail
    go_ret
    exact ⟨ret_bool (by rw [HU.out]; rfl), rfl⟩
  · obtain ⟨l1, l2⟩ := inB_iff.1 h1
    have hwl : IntKind.i64.wrap (l - 1) = l - 1 := by rw [IntKind.wrap_i64]; omega
    rw [h1] at HL HU
    clear h1
    by_cases h2 : n ≤ 24
    · have d2 : ¬ (24 : Int) < n := by omega
      have HU2 := Lib.hid (show r = allP (letP l) f n by rw [HU.out]; simp [h2])
      go_enter Try.func54, Try.ntmps54
      go_wp2_with fail
      refine (HL.out _).mono ?_
      rintro e w' ⟨rfl, rfl⟩
      go_wp2_with fail
      go_loop [5, 16] (fun _ i => ∃ k : Nat, k ≤ n ∧ i = .int .i64 k ∧ Hid (∀ j, j < k → letP l (f j) = true)) (fun _ i => n - (intOf i).toNat)
      case atStart => exact ⟨0, Nat.zero_le _, rfl, fun j hj => by omega⟩
      case round =>
        obtain ⟨k, hk, rfl, HA⟩ := hrel
        by_cases hlt : k < n
        · have d1 : (k : Int) < n := by omega
          obtain ⟨x, rfl, hx0⟩ := H.out k hlt
          have hx : w.cell? (x.add k) = some (.int .i64 (f k)) := hx0
          have HK := Lib.hid (HN.out k hlt)
          have HS := Lib.hid (show letP l (f k) = true → ∀ j, j < k + 1 → letP l (f j) = true from fun e j hj => by
            rcases Nat.lt_or_ge j k with h | h
            · exact HA.out j h
            · have : j = k := by omega
              subst this
              exact e)
          clear hx0 HA HN HV
          generalize f k = v at *
          cases e : inB v 0 (l - 1)
          · have HR := Lib.hid (HK.out e)
            have H3 := Lib.hid (l00In_is e)
            clear e HK HS
            go_wp2_with ((go_at_call 66; refine (H3.out _).mono ?_; rintro e w' ⟨rfl, hw⟩; obtain rfl := hw.symm; clear hw))
            go_ret
            exact ⟨ret_bool (by rw [HU2.out, HR.out]), rfl⟩
          · have HR := Lib.hid (HS.out e)
            have H3 := Lib.hid (l00In_is e)
            clear e HK HS
            go_wp2_with ((go_at_call 66; refine (H3.out _).mono ?_; rintro e w' ⟨rfl, hw⟩; obtain rfl := hw.symm; clear hw))
            go_round
            case rel => exact ⟨k + 1, by omega, by go_num, HR⟩
            case measure => simp [intOf]; omega
        · have d1 : ¬ (k : Int) < n := by omega
          have e : k = n := by omega
          subst e
          have HR := Lib.hid (HV.out HA.out)
          clear HA HN HV
          go_wp2_with fail
          go_ret
          exact ⟨ret_bool (by rw [HU2.out, HR.out]), rfl⟩
    · have d2 : (24 : Int) < n := by omega
      go_enter Try.func54, Try.ntmps54
      go_wp2_with fail
      refine (HL.out _).mono ?_
      rintro e w' ⟨rfl, rfl⟩
      go_wp2_with fail
      go_ret
      exact ⟨ret_bool (by rw [HU.out]; simp [h2]), rfl⟩

theorem areLetters1_any (q1 : Nat) (l z : Int) (w : World) (hl : 1 ≤ l ∧ l ≤ 4) (b : w.cell? ⟨q1, 0, none⟩ = some (.int .i64 l)) :
    Calls Try.prog 85 #[.int .i64 z, .pointer (some ⟨q1, 0, none⟩)] w fun e w' => e = .returned (.bool (!letP l z)) ∧ w = w' := by
  obtain ⟨l1, l2⟩ := hl
  have HI := Lib.hid (fun W => between_any z 0 (l - 1) W)
  have hws : IntKind.i64.wrap (l - 1) = l - 1 := by rw [IntKind.wrap_i64]; omega
  have HE := Lib.hid (show letP l z = inB z 0 (l - 1) from rfl)
  generalize inB z 0 (l - 1) = r at *
  go_enter Try.func85, Try.ntmps85
  go_wp2_with fail
  refine (HI.out _).mono ?_
  rintro e w' ⟨rfl, rfl⟩
  go_wp2_with fail
  go_ret
  exact ⟨ret_bool (by rw [HE.out]), rfl⟩
theorem areLetters_any (A : Option Addr) (n c : Nat) (f : Nat → Int) (l : Int) (t : Nat) (w : World) (hn : n ≤ 1048576) (h : Cells w A n (fun i => .int .i64 (f i))) :
    Calls Try.prog 55 #[.slice A n c, .int .i64 l, .int .i64 t] w fun e w' => e = .returned (.bool (lettersB f n l t)) ∧ Below w.heap.size w w' := by
  have HU := Lib.hid (show lettersB f n l t = (inB l 1 4 && (decide (n ≤ t) && allP (letP l) f n)) from rfl)
  have HB := Lib.hid (fun W => between_any l 1 4 W)
  have H := Lib.hid h
  have hmf : ∀ (fn : Fn) (first cap : Array Value) (w : World), (Instr.makeFunc fn first cap).run Try.prog w = .ok (.func fn first cap) w := fun _ _ _ _ => rfl
  clear h
  generalize lettersB f n l t = r at *
  cases h1 : inB l 1 4
  · rw [h1] at HB HU
    clear h1
    go_enter Try.func55, Try.ntmps55
    go_wp2_with fail
    refine (HB.out _).mono ?_
    rintro e w' ⟨rfl, rfl⟩
    go_wp2_with fail
    go_ret
    exact ⟨ret_bool (by rw [HU.out]; rfl), (by repeat (first | exact Below.refl _ _ | exact Hid.out (by assumption) | refine below_alloc ?_ _ | refine Below.setCell ?_ (by simp <;> omega) _ | refine Below.alloc ?_ (by simp <;> omega) _ | refine Below.drew ?_ | refine below_drewN ?_ _))⟩
  · have hl := inB_iff.1 h1
    have HC := Lib.hid (fun q W b k => containsLetters q (letP l) A n c f W hn k (fun z => areLetters1_any q l z W hl b))
    rw [h1] at HB HU
    clear h1 hl
    by_cases h2 : n ≤ t
    · have d2 : ¬ (t : Int) < n := by omega
      have HU2 := Lib.hid (show r = allP (letP l) f n by rw [HU.out]; simp [h2])
      generalize allP (letP l) f n = r2 at *
      go_enter Try.func55, Try.ntmps55
      go_wp2_with fail
      refine (HB.out _).mono ?_
      rintro e w' ⟨rfl, rfl⟩
      go_wp2_with fail
      refine (HC.out w.heap.size _ (by simp [go_sem]) (H.out.below (by repeat (first | exact Below.refl _ _ | exact Hid.out (by assumption) | refine below_alloc ?_ _ | refine Below.setCell ?_ (by simp <;> omega) _ | refine Below.alloc ?_ (by simp <;> omega) _ | refine Below.drew ?_ | refine below_drewN ?_ _)))).mono ?_
      rintro e w' ⟨rfl, rfl⟩
      go_wp2_with fail
      go_ret
      exact ⟨ret_bool (by rw [HU2.out] <;> cases r2 <;> rfl), (by repeat (first | exact Below.refl _ _ | exact Hid.out (by assumption) | refine below_alloc ?_ _ | refine Below.setCell ?_ (by simp <;> omega) _ | refine Below.alloc ?_ (by simp <;> omega) _ | refine Below.drew ?_ | refine below_drewN ?_ _))⟩
    · have d2 : (t : Int) < n := by omega
      go_enter Try.func55, Try.ntmps55
      go_wp2_with fail
      refine (HB.out _).mono ?_
      rintro e w' ⟨rfl, rfl⟩
      go_wp2_with fail
      go_ret
      exact ⟨ret_bool (by rw [HU.out]; simp [h2]), (by repeat (first | exact Below.refl _ _ | exact Hid.out (by assumption) | refine below_alloc ?_ _ | refine Below.setCell ?_ (by simp <;> omega) _ | refine Below.alloc ?_ (by simp <;> omega) _ | refine Below.drew ?_ | refine below_drewN ?_ _))⟩

theorem specIsLongWord_any (A : Option Addr) (n c : Nat) (f : Nat → Int) (l : Int) (w : World) (hn : n ≤ 1048576) (h : Cells w A n (fun i => .int .i64 (f i))) :
    Calls Try.prog 15 #[.slice A n c, .int .i64 l] w fun e w' => e = .returned (.bool (lettersB f n l 24)) ∧ Below w.heap.size w w' := by
  have H := Lib.hid (l05Long_any A n c f l w hn h)
  clear h
  generalize lettersB f n l 24 = r at *
  go_enter Try.func15, Try.ntmps15
  go_wp2_with fail
  refine H.out.mono ?_
  rintro e w' ⟨rfl, rfl⟩
  go_wp2_with fail
  go_ret
  exact ⟨rfl, (by repeat (first | exact Below.refl _ _ | exact Hid.out (by assumption) | refine below_alloc ?_ _ | refine Below.setCell ?_ (by simp <;> omega) _ | refine Below.alloc ?_ (by simp <;> omega) _ | refine Below.drew ?_ | refine below_drewN ?_ _))⟩
theorem implIsLongWord_any (A : Option Addr) (n c : Nat) (f : Nat → Int) (l : Int) (w : World) (hn : n ≤ 1048576) (h : Cells w A n (fun i => .int .i64 (f i))) :
    Calls Try.prog 17 #[.slice A n c, .int .i64 l] w fun e w' => e = .returned (.bool (lettersB f n l 24)) ∧ Below w.heap.size w w' := by
  have H := Lib.hid (areLetters_any A n c f l 24 w hn h)
  clear h
  generalize lettersB f n l 24 = r at *
  go_enter Try.func17, Try.ntmps17
  go_wp2_with fail
  refine H.out.mono ?_
  rintro e w' ⟨rfl, hb⟩
  have N1 := Lib.hid hb
  clear hb
  go_wp2_with fail
  go_ret
  exact ⟨rfl, N1.out⟩
end Go.Proofs.Ytehemjcpdblonaa
