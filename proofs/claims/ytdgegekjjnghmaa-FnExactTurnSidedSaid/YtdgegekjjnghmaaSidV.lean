/- Machines with two sides: whether they are valid, on both sides. -/
import Derived.Test.YtdgegekjjnghmaaSidedM
import Derived.Test.YtdgegekjjnghmaaLongW
set_option linter.unusedVariables false
namespace Go.Proofs.Ytdgegekjjnghmaa
open Go.RowKit

/-- An arc's four numbers. -/
def pairB (s l a b c d : Int) : Bool := inB a 0 (s - 1) && (inB b 0 (s - 1) && (inB c (-1) (l - 1) && inB d (-1) (l - 1)))
/-- A valid machine with two sides. -/
def validS (s l : Int) (n m : Nat) (f : Nat → Int) : Bool := inB s 1 8 && (inB l 1 4 && (decide (n ≤ 48) && (decide ((m : Int) = s) && allQ (pairB s l) f n)))

theorem isArcOfSided_any (s l : Int) (A B : Option Addr) (n c m d : Nat) (u0 u1 u2 u3 : Int) (w : World) (hs : 1 ≤ s) (hs2 : s ≤ 8) (hl : 1 ≤ l) (hl2 : l ≤ 4) :
    Calls Try.prog 66 #[.agg #[.int .i64 s, .int .i64 l, .slice A n c, .slice B m d], .agg #[.int .i64 u0, .int .i64 u1, .int .i64 u2, .int .i64 u3]] w fun e w' => e = .returned (.bool (pairB s l u0 u1 u2 u3)) ∧ Below w.heap.size w w' := by
  have HU := Lib.hid (show pairB s l u0 u1 u2 u3 = (inB u0 0 (s - 1) && (inB u1 0 (s - 1) && (inB u2 (-1) (l - 1) && inB u3 (-1) (l - 1)))) from rfl)
  have hws : IntKind.i64.wrap (s - 1) = s - 1 := by rw [IntKind.wrap_i64]; omega
  have hwl : IntKind.i64.wrap (l - 1) = l - 1 := by rw [IntKind.wrap_i64]; omega
  generalize pairB s l u0 u1 u2 u3 = r at *
  have H0 := Lib.hid (fun W => between_is (n := u0) (a := 0) (b := s - 1) rfl W)
  have H1 := Lib.hid (fun W => between_is (n := u1) (a := 0) (b := s - 1) rfl W)
  have H2 := Lib.hid (fun W => between_is (n := u2) (a := -1) (b := l - 1) rfl W)
  have H3 := Lib.hid (fun W => between_is (n := u3) (a := -1) (b := l - 1) rfl W)
  generalize inB u0 0 (s - 1) = r0 at *
  generalize inB u1 0 (s - 1) = r1 at *
  generalize inB u2 (-1) (l - 1) = r2 at *
  generalize inB u3 (-1) (l - 1) = r3 at *
  have N0 := Lib.hid (show Below w.heap.size w w from Below.refl _ _)
  cases r0
  · go_enter Try.func66, Try.ntmps66
    go_wp2_with fail
    refine (H0.out _).mono ?_
    rintro e w' ⟨rfl, rfl⟩
    go_wp2_with fail
    go_ret
    exact ⟨ret_bool (by rw [HU.out]; rfl), (by repeat (first | exact Below.refl _ _ | exact Hid.out (by assumption) | refine below_alloc ?_ _ | refine Below.setCell ?_ (by simp <;> omega) _ | refine Below.alloc ?_ (by simp <;> omega) _ | refine Below.drew ?_ | refine below_drewN ?_ _))⟩
  · cases r1
    · go_enter Try.func66, Try.ntmps66
      go_wp2_with fail
      refine (H0.out _).mono ?_
      rintro e w' ⟨rfl, rfl⟩
      go_wp2_with fail
      refine (H1.out _).mono ?_
      rintro e w' ⟨rfl, rfl⟩
      go_wp2_with fail
      go_ret
      exact ⟨ret_bool (by rw [HU.out]; rfl), (by repeat (first | exact Below.refl _ _ | exact Hid.out (by assumption) | refine below_alloc ?_ _ | refine Below.setCell ?_ (by simp <;> omega) _ | refine Below.alloc ?_ (by simp <;> omega) _ | refine Below.drew ?_ | refine below_drewN ?_ _))⟩
    · cases r2
      · go_enter Try.func66, Try.ntmps66
        go_wp2_with fail
        refine (H0.out _).mono ?_
        rintro e w' ⟨rfl, rfl⟩
        go_wp2_with fail
        refine (H1.out _).mono ?_
        rintro e w' ⟨rfl, rfl⟩
        go_wp2_with fail
        refine (H2.out _).mono ?_
        rintro e w' ⟨rfl, rfl⟩
        go_wp2_with fail
        go_ret
        exact ⟨ret_bool (by rw [HU.out]; rfl), (by repeat (first | exact Below.refl _ _ | exact Hid.out (by assumption) | refine below_alloc ?_ _ | refine Below.setCell ?_ (by simp <;> omega) _ | refine Below.alloc ?_ (by simp <;> omega) _ | refine Below.drew ?_ | refine below_drewN ?_ _))⟩
      · go_enter Try.func66, Try.ntmps66
        go_wp2_with fail
        refine (H0.out _).mono ?_
        rintro e w' ⟨rfl, rfl⟩
        go_wp2_with fail
        refine (H1.out _).mono ?_
        rintro e w' ⟨rfl, rfl⟩
        go_wp2_with fail
        refine (H2.out _).mono ?_
        rintro e w' ⟨rfl, rfl⟩
        go_wp2_with fail
        refine (H3.out _).mono ?_
        rintro e w' ⟨rfl, rfl⟩
        go_wp2_with fail
        go_ret
        exact ⟨ret_bool (by rw [HU.out]; rfl), (by repeat (first | exact Below.refl _ _ | exact Hid.out (by assumption) | refine below_alloc ?_ _ | refine Below.setCell ?_ (by simp <;> omega) _ | refine Below.alloc ?_ (by simp <;> omega) _ | refine Below.drew ?_ | refine below_drewN ?_ _))⟩
theorem validSided1_any (P : Nat) (s l : Int) (A B : Option Addr) (n c m d : Nat) (u0 u1 u2 u3 : Int) (w : World) (hs : 1 ≤ s ∧ s ≤ 8) (hl : 1 ≤ l ∧ l ≤ 4) (b : Box4 w P (.int .i64 s) (.int .i64 l) (.slice A n c) (.slice B m d)) :
    Calls Try.prog 65 #[.agg #[.int .i64 u0, .int .i64 u1, .int .i64 u2, .int .i64 u3], .pointer (some ⟨P, 0, none⟩)] w fun e w' => e = .returned (.bool (!pairB s l u0 u1 u2 u3)) ∧ Below w.heap.size w w' := by
  have HI := Lib.hid (fun W => isArcOfSided_any s l A B n c m d u0 u1 u2 u3 W hs.1 hs.2 hl.1 hl.2)
  have X := Lib.hid b
  obtain ⟨x0, x1, x2, x3⟩ := b
  have z0 := X.out.a0
  have z1 := X.out.a1
  have z2 := X.out.a2
  have z3 := X.out.a3
  clear hs hl
  generalize pairB s l u0 u1 u2 u3 = r at *
  go_enter Try.func65, Try.ntmps65
  go_wp2_with fail
  refine (HI.out _).mono ?_
  rintro e w1 ⟨rfl, hb⟩
  have N1 := Lib.hid (show Below w.heap.size w w1 from Below.trans (by repeat (first | exact Below.refl _ _ | exact Hid.out (by assumption) | refine below_alloc ?_ _ | refine Below.setCell ?_ (by simp <;> omega) _ | refine Below.alloc ?_ (by simp <;> omega) _ | refine Below.drew ?_ | refine below_drewN ?_ _)) (hb.mono (by simp <;> omega)))
  clear hb
  go_wp2_with fail
  go_ret
  exact ⟨by cases r <;> rfl, N1.out⟩
set_option maxRecDepth 20000 in
theorem indexPairs_any (P : Nat) (s l : Int) (A B : Option Addr) (n c m d : Nat) (E : Option Addr) (r i : Nat) (u : Nat → Int) (w : World) (hs : 1 ≤ s ∧ s ≤ 8) (hl : 1 ≤ l ∧ l ≤ 4) (hr : r ≤ 1048576) (hE : Cells w E (r * 4) (fun i => .int .i64 (u i))) (b : Box4 w P (.int .i64 s) (.int .i64 l) (.slice A n c) (.slice B m d)) :
    Calls Try.prog 126 #[.slice E r i, .func (.func 65) #[] #[.pointer (some ⟨P, 0, none⟩)]] w fun e w' => IdxRes (!allQ (pairB s l) u r) r e ∧ Below w.heap.size w w' := by
  have HE := Lib.hid hE
  have X := Lib.hid b
  have HC := Lib.hid (fun z0 z1 z2 z3 W b => validSided1_any P s l A B n c m d z0 z1 z2 z3 W hs hl b)
  have HNO := Lib.hid (fun k (hk : k < r) h => allQ_no (p := pairB s l) (f := u) hk h)
  have HYES := Lib.hid (fun h => (allQ_iff (p := pairB s l) (f := u) (n := r)).2 h)
  clear hE b hs hl
  generalize allQ (pairB s l) u r = R at *
  go_enter Try.func126, Try.ntmps126
  go_wp2_with fail
  go_loopw [5, 8] (fun _ j wr => ∃ k : Nat, k ≤ r ∧ j = .int .i64 k ∧ Hid (Below w.heap.size w wr) ∧ Hid (∀ j, j < k → pairB s l (u (j * 4)) (u (j * 4 + 1)) (u (j * 4 + 2)) (u (j * 4 + 3)) = true)) (fun _ j _ => r - (intOf j).toNat)
  case atStart => exact ⟨0, Nat.zero_le _, rfl, Below.refl _ _, fun j hj => by omega⟩
  case round =>
    obtain ⟨k, hk, rfl, HB0, HP⟩ := hrel
    have XR := Lib.hid (X.out.below HB0.out)
    by_cases hlt : k < r
    · have d1 : (k : Int) < r := by omega
      obtain ⟨x, rfl, -⟩ := HE.out (k * 4) (by omega)
      obtain ⟨p0, p1, p2, p3⟩ := four (wr := wr) HE.out hlt fun p hp => HB0.out.cell hp
      have HNk := Lib.hid (HNO.out k hlt)
      have HPk := Lib.hid (show pairB s l (u (k * 4)) (u (k * 4 + 1)) (u (k * 4 + 2)) (u (k * 4 + 3)) = true → ∀ j, j < k + 1 → pairB s l (u (j * 4)) (u (j * 4 + 1)) (u (j * 4 + 2)) (u (j * 4 + 3)) = true from fun e j hj => by
        rcases Nat.lt_or_ge j k with h | h
        · exact HP.out j h
        · have : j = k := by omega
          subst this
          exact e)
      clear HP HNO HYES
      generalize u (k * 4) = u0 at *
      generalize u (k * 4 + 1) = u1 at *
      generalize u (k * 4 + 2) = u2 at *
      generalize u (k * 4 + 3) = u3 at *
      have HCk := Lib.hid (fun W b => HC.out u0 u1 u2 u3 W b)
      clear HC
      cases hz : pairB s l u0 u1 u2 u3
      · rw [hz] at HCk
        have HR := Lib.hid (HNk.out hz)
        clear hz HNk HPk
        go_wp2_with fail
        refine (HCk.out _ (XR.out.below (by repeat (first | exact Below.refl _ _ | exact Hid.out (by assumption) | refine below_alloc ?_ _ | refine Below.setCell ?_ (by simp <;> omega) _ | refine Below.alloc ?_ (by simp <;> omega) _ | refine Below.drew ?_ | refine below_drewN ?_ _)))).mono ?_
        rintro e w1 ⟨rfl, hb⟩
        have N1 := Lib.hid (show Below w.heap.size w w1 from Below.trans (by repeat (first | exact Below.refl _ _ | exact Hid.out (by assumption) | refine below_alloc ?_ _ | refine Below.setCell ?_ (by simp <;> omega) _ | refine Below.alloc ?_ (by simp <;> omega) _ | refine Below.drew ?_ | refine below_drewN ?_ _)) (hb.mono (by have := HB0.out.size; first | exact this | (simp; omega))))
        clear hb
        go_wp2_with fail
        go_ret
        exact ⟨⟨k, rfl, by rw [HR.out]; simp, by omega, by omega⟩, N1.out⟩
      · rw [hz] at HCk
        have HR := Lib.hid (HPk.out hz)
        clear hz HNk HPk
        go_wp2_with fail
        refine (HCk.out _ (XR.out.below (by repeat (first | exact Below.refl _ _ | exact Hid.out (by assumption) | refine below_alloc ?_ _ | refine Below.setCell ?_ (by simp <;> omega) _ | refine Below.alloc ?_ (by simp <;> omega) _ | refine Below.drew ?_ | refine below_drewN ?_ _)))).mono ?_
        rintro e w1 ⟨rfl, hb⟩
        have N1 := Lib.hid (show Below w.heap.size w w1 from Below.trans (by repeat (first | exact Below.refl _ _ | exact Hid.out (by assumption) | refine below_alloc ?_ _ | refine Below.setCell ?_ (by simp <;> omega) _ | refine Below.alloc ?_ (by simp <;> omega) _ | refine Below.drew ?_ | refine below_drewN ?_ _)) (hb.mono (by have := HB0.out.size; first | exact this | (simp; omega))))
        clear hb
        go_wp2_with fail
        exact ⟨⟨k + 1, by omega, by simp, N1.out, HR.out⟩, by simp [intOf]; omega⟩
    · have d1 : ¬ (k : Int) < r := by omega
      obtain rfl : r = k := by omega
      have HR := Lib.hid (HYES.out HP.out)
      go_wp2_with fail
      go_ret
      exact ⟨⟨-1, rfl, by rw [HR.out]; rfl, by omega, by omega⟩, HB0.out⟩
theorem containsPairs_any (P : Nat) (s l : Int) (A B : Option Addr) (n c m d : Nat) (E : Option Addr) (r i : Nat) (u : Nat → Int) (w : World) (hs : 1 ≤ s ∧ s ≤ 8) (hl : 1 ≤ l ∧ l ≤ 4) (hr : r ≤ 1048576) (hE : Cells w E (r * 4) (fun i => .int .i64 (u i))) (b : Box4 w P (.int .i64 s) (.int .i64 l) (.slice A n c) (.slice B m d)) :
    Calls Try.prog 67 #[.slice E r i, .func (.func 65) #[] #[.pointer (some ⟨P, 0, none⟩)]] w fun e w' => e = .returned (.bool (!allQ (pairB s l) u r)) ∧ Below w.heap.size w w' := by
  have HI := Lib.hid (indexPairs_any P s l A B n c m d E r i u w hs hl hr hE b)
  clear hE b hs hl
  generalize allQ (pairB s l) u r = R at *
  go_enter Try.func67, Try.ntmps67
  go_wp2_with fail
  refine HI.out.mono ?_
  rintro e w1 ⟨⟨j, rfl, hj, j1, j2⟩, hb⟩
  have N1 := Lib.hid hb
  have HJ := Lib.hid hj
  clear hj hb
  by_cases h : 0 ≤ j
  · have HD := Lib.hid (decide_eq_true h)
    go_wp2_with fail
    go_ret
    exact ⟨ret_bool (by rw [← HJ.out, HD.out]), N1.out⟩
  · have HD := Lib.hid (decide_eq_false h)
    go_wp2_with fail
    go_ret
    exact ⟨ret_bool (by rw [← HJ.out, HD.out]), N1.out⟩
set_option maxHeartbeats 1000000 in
theorem implValidSided_any (s l : Int) (A B : Option Addr) (n c m d : Nat) (f : Nat → Int) (g : Nat → Bool) (w : World) (hn : n ≤ 1048576) (hm : m ≤ 1048576) (hA : Cells w A (n * 4) (fun i => .int .i64 (f i))) (hB : Cells w B m (fun i => .bool (g i))) :
    Calls Try.prog 18 #[.agg #[.int .i64 s, .int .i64 l, .slice A n c, .slice B m d]] w fun e w' => e = .returned (.bool (validS s l n m f)) ∧ Below w.heap.size w w' := by
  have HU := Lib.hid (show validS s l n m f = (inB s 1 8 && (inB l 1 4 && (decide (n ≤ 48) && (decide ((m : Int) = s) && allQ (pairB s l) f n)))) from rfl)
  have HA := Lib.hid hA
  have hmf : ∀ (fn : Fn) (first cap : Array Value) (w : World), (Instr.makeFunc fn first cap).run Try.prog w = .ok (.func fn first cap) w := fun _ _ _ _ => rfl
  clear hA hB
  generalize validS s l n m f = r at *
  cases h0 : inB s 1 8
  · have H0 := Lib.hid (between_is h0)
    rw [h0] at HU
    clear h0
    go_enter Try.func18, Try.ntmps18
    go_wp2_with fail
    refine (H0.out _).mono ?_
    rintro e w' ⟨rfl, rfl⟩
    go_wp2_with fail
    go_ret
    exact ⟨ret_bool (by rw [HU.out]; rfl), (by repeat (first | exact Below.refl _ _ | exact Hid.out (by assumption) | refine below_alloc ?_ _ | refine Below.setCell ?_ (by simp <;> omega) _ | refine Below.alloc ?_ (by simp <;> omega) _ | refine Below.drew ?_ | refine below_drewN ?_ _))⟩
  · have hs := inB_iff.1 h0
    have H0 := Lib.hid (between_is h0)
    rw [h0] at HU
    clear h0
    cases h1 : inB l 1 4
    · have H1 := Lib.hid (between_is h1)
      rw [h1] at HU
      clear h1
      go_enter Try.func18, Try.ntmps18
      go_wp2_with fail
      refine (H0.out _).mono ?_
      rintro e w' ⟨rfl, rfl⟩
      go_wp2_with fail
      refine (H1.out _).mono ?_
      rintro e w' ⟨rfl, rfl⟩
      go_wp2_with fail
      go_ret
      exact ⟨ret_bool (by rw [HU.out]; rfl), (by repeat (first | exact Below.refl _ _ | exact Hid.out (by assumption) | refine below_alloc ?_ _ | refine Below.setCell ?_ (by simp <;> omega) _ | refine Below.alloc ?_ (by simp <;> omega) _ | refine Below.drew ?_ | refine below_drewN ?_ _))⟩
    · have hl := inB_iff.1 h1
      have H1 := Lib.hid (between_is h1)
      rw [h1] at HU
      clear h1
      have HC := Lib.hid (fun q W k b => containsPairs_any q s l A B n c m d A n c f W hs hl hn k b)
      clear hs hl
      generalize allQ (pairB s l) f n = r2 at *
      by_cases h2 : n ≤ 48
      · have d2 : ¬ (48 : Int) < n := by omega
        by_cases h3 : (m : Int) = s
        · have HU2 := Lib.hid (show r = r2 by rw [HU.out]; simp [h2, h3])
          have b3 : ((m : Int) == s) = true := by simpa using h3
          clear h3
          go_enter Try.func18, Try.ntmps18
          go_wp2_with fail
          refine (H0.out _).mono ?_
          rintro e w' ⟨rfl, rfl⟩
          go_wp2_with fail
          refine (H1.out _).mono ?_
          rintro e w' ⟨rfl, rfl⟩
          go_wp2_with fail
          refine (HC.out w.heap.size _ (HA.out.below (by repeat (first | exact Below.refl _ _ | exact Hid.out (by assumption) | refine below_alloc ?_ _ | refine Below.setCell ?_ (by simp <;> omega) _ | refine Below.alloc ?_ (by simp <;> omega) _ | refine Below.drew ?_ | refine below_drewN ?_ _))) (Box4.new w _ _ _ _ _)).mono ?_
          rintro e w1 ⟨rfl, hb⟩
          have N1 := Lib.hid (show Below w.heap.size w w1 from Below.trans (by repeat (first | exact Below.refl _ _ | exact Hid.out (by assumption) | refine below_alloc ?_ _ | refine Below.setCell ?_ (by simp <;> omega) _ | refine Below.alloc ?_ (by simp <;> omega) _ | refine Below.drew ?_ | refine below_drewN ?_ _)) (hb.mono (by simp <;> omega)))
          clear hb
          go_wp2_with fail
          go_ret
          exact ⟨ret_bool (by rw [HU2.out] <;> cases r2 <;> rfl), N1.out⟩
        · have b3 : ((m : Int) == s) = false := by simpa using h3
          go_enter Try.func18, Try.ntmps18
          go_wp2_with fail
          refine (H0.out _).mono ?_
          rintro e w' ⟨rfl, rfl⟩
          go_wp2_with fail
          refine (H1.out _).mono ?_
          rintro e w' ⟨rfl, rfl⟩
          go_wp2_with fail
          go_ret
          exact ⟨ret_bool (by rw [HU.out]; simp [h3]), (by repeat (first | exact Below.refl _ _ | exact Hid.out (by assumption) | refine below_alloc ?_ _ | refine Below.setCell ?_ (by simp <;> omega) _ | refine Below.alloc ?_ (by simp <;> omega) _ | refine Below.drew ?_ | refine below_drewN ?_ _))⟩
      · have d2 : (48 : Int) < n := by omega
        go_enter Try.func18, Try.ntmps18
        go_wp2_with fail
        refine (H0.out _).mono ?_
        rintro e w' ⟨rfl, rfl⟩
        go_wp2_with fail
        refine (H1.out _).mono ?_
        rintro e w' ⟨rfl, rfl⟩
        go_wp2_with fail
        go_ret
        exact ⟨ret_bool (by rw [HU.out]; simp [h2]), (by repeat (first | exact Below.refl _ _ | exact Hid.out (by assumption) | refine below_alloc ?_ _ | refine Below.setCell ?_ (by simp <;> omega) _ | refine Below.alloc ?_ (by simp <;> omega) _ | refine Below.drew ?_ | refine below_drewN ?_ _))⟩

set_option maxRecDepth 20000 in
set_option maxHeartbeats 4000000 in
theorem l05Sided_any (P : Nat) (s l : Int) (A B : Option Addr) (n c m d : Nat) (f : Nat → Int) (w : World) (hn : n ≤ 1048576) (hm : m ≤ 1048576) (hA : Cells w A (n * 4) (fun i => .int .i64 (f i)))
    (b : Box4 w P (.int .i64 s) (.int .i64 l) (.slice A n c) (.slice B m d)) :
    Calls Try.prog 61 #[.pointer (some ⟨P, 0, none⟩)] w fun e w' => e = .returned (.bool (validS s l n m f)) ∧ ∃ q, w' = w.drewN q := by
  have HU := Lib.hid (show validS s l n m f = (inB s 1 8 && (inB l 1 4 && (decide (n ≤ 48) && (decide ((m : Int) = s) && allQ (pairB s l) f n)))) from rfl)
  have HA := Lib.hid hA
  have HN := Lib.hid (fun k (hk : k < n) e => allQ_no (p := pairB s l) (f := f) hk e)
  have HV := Lib.hid (fun e => (allQ_iff (p := pairB s l) (f := f) (n := n)).2 e)
  have HLt := Lib.hid (fun W => (l05Letters_any l W).mono fun e w' q => (⟨q.1, q.2.symm⟩ : e = .returned (.bool (inB l 1 4)) ∧ w' = W))
  have X0 := Lib.hid b
  obtain ⟨a0, a1, a2, a3⟩ := b
  clear hA
  generalize validS s l n m f = r at *
  cases h0 : inB s 1 8
  · have H0 := Lib.hid (l00In_is h0)
    rw [h0] at HU
    clear h0
    go_enter Try.func61, Try.ntmps61
    go_wp2_with fail
    go_quiet ((first | (go_at_call 76; exact Calls.quiet_of_same (H0.out _)) | (go_at_call 124; exact Calls.quiet_of_same (HLt.out _))))
    go_wp2_with fail
    go_ret
    exact ⟨ret_bool (by rw [HU.out]; rfl), _, rfl⟩
  · obtain ⟨s1, s2⟩ := inB_iff.1 h0
    have H0 := Lib.hid (l00In_is h0)
    rw [h0] at HU
    clear h0
    have hwr : IntKind.i64.wrap (s - 1) = s - 1 := by rw [IntKind.wrap_i64]; omega
    cases h1 : inB l 1 4
    · rw [h1] at HU HLt
      clear h1
      go_enter Try.func61, Try.ntmps61
      go_wp2_with fail
      go_quiet ((first | (go_at_call 76; exact Calls.quiet_of_same (H0.out _)) | (go_at_call 124; exact Calls.quiet_of_same (HLt.out _))))
      go_wp2_with fail
      go_ret
      exact ⟨ret_bool (by rw [HU.out]; rfl), _, rfl⟩
    · obtain ⟨l1, l2⟩ := inB_iff.1 h1
      rw [h1] at HU HLt
      clear h1
      have hwl : IntKind.i64.wrap (l - 1) = l - 1 := by rw [IntKind.wrap_i64]; omega
      by_cases h2 : n ≤ 48
      rotate_left
      · have d2 : (48 : Int) < n := by omega
        go_enter Try.func61, Try.ntmps61
        go_wp2_with fail
        go_quiet ((first | (go_at_call 76; exact Calls.quiet_of_same (H0.out _)) | (go_at_call 124; exact Calls.quiet_of_same (HLt.out _))))
        go_wp2_with fail
        go_ret
        exact ⟨ret_bool (by rw [HU.out]; simp [h2]), _, rfl⟩
      have d2 : ¬ (48 : Int) < n := by omega
      by_cases h3 : (m : Int) = s
      rotate_left
      · have b3 : ((m : Int) != s) = true := by simpa using h3
        have HU3 := Lib.hid (show r = false by rw [HU.out]; simp [h3])
        clear h3
        go_enter Try.func61, Try.ntmps61
        go_wp2_with fail
        go_quiet ((first | (go_at_call 76; exact Calls.quiet_of_same (H0.out _)) | (go_at_call 124; exact Calls.quiet_of_same (HLt.out _))))
        go_wp2_with fail
        go_ret
        exact ⟨ret_bool (by rw [HU3.out]), _, rfl⟩
      have HU2 := Lib.hid (show r = allQ (pairB s l) f n by rw [HU.out]; simp [h2, h3])
      have b3 : ((m : Int) != s) = false := by simpa using h3
      clear h3
      generalize allQ (pairB s l) f n = ra at *
      go_enter Try.func61, Try.ntmps61
      go_wp2_with fail
      go_quiet ((first | (go_at_call 76; exact Calls.quiet_of_same (H0.out _)) | (go_at_call 124; exact Calls.quiet_of_same (HLt.out _))))
      go_wp2_with fail
      go_loopw [3, 4, 44] (fun _ _ i wr => ∃ k q : Nat, k ≤ n ∧ i = .int .i64 k ∧ Hid (wr = w.drewN q) ∧ Hid (∀ j, j < k → pairB s l (f (j * 4)) (f (j * 4 + 1)) (f (j * 4 + 2)) (f (j * 4 + 3)) = true)) (fun _ _ i _ => n - (intOf i).toNat)
      case atStart => exact ⟨0, _, Nat.zero_le _, rfl, rfl, fun j hj => by omega⟩
      case round =>
        obtain ⟨k, q, hk, rfl, hw, HX⟩ := hrel
        have X1 := Lib.hid (show Box4 wr P _ _ _ _ by rw [hw.out]; exact X0.out.drewN q)
        clear a0 a1 a2 a3
        obtain ⟨a0, a1, a2, a3⟩ := X1.out
        by_cases hlt : k < n
        · have d1 : (k : Int) < n := by omega
          obtain ⟨x, rfl, -⟩ := HA.out (k * 4) (by omega)
          obtain ⟨p0, p1, p2, p3⟩ := four (wr := wr) HA.out hlt fun p hp => by rw [hw.out]; rfl
          have HK := Lib.hid (HN.out k hlt)
          have HS := Lib.hid (show pairB s l (f (k * 4)) (f (k * 4 + 1)) (f (k * 4 + 2)) (f (k * 4 + 3)) = true → ∀ j, j < k + 1 → pairB s l (f (j * 4)) (f (j * 4 + 1)) (f (j * 4 + 2)) (f (j * 4 + 3)) = true from fun e j hj => by
            rcases Nat.lt_or_ge j k with h | h
            · exact HX.out j h
            · have : j = k := by omega
              subst this
              exact e)
          clear HX HN HV
          generalize f (k * 4) = u0 at *
          generalize f (k * 4 + 1) = u1 at *
          generalize f (k * 4 + 2) = u2 at *
          generalize f (k * 4 + 3) = u3 at *
          have HE := Lib.hid (show pairB s l u0 u1 u2 u3 = (inB u0 0 (s - 1) && (inB u1 0 (s - 1) && (inB u2 (-1) (l - 1) && inB u3 (-1) (l - 1)))) from rfl)
          have HR1 := Lib.hid (show pairB s l u0 u1 u2 u3 = false → r = false from fun e => by rw [HU2.out]; exact HK.out e)
          clear HK
          generalize pairB s l u0 u1 u2 u3 = rp at *
          cases e0 : inB u0 0 (s - 1)
          · have J0 := Lib.hid (l00In_is e0)
            have HR := Lib.hid (HR1.out (by rw [HE.out, e0]; rfl))
            clear e0 HE HS HR1
            go_wp2_with fail
            go_quiet ((first | (go_at_call_of 76 (Value.int IntKind.i64 u0); exact Calls.quiet_of_same (J0.out _))))
            go_wp2_with fail
            go_ret
            exact ⟨ret_bool HR.out.symm, _, by rw [hw.out]; exact World.drewN_drewN ..⟩
          have J0 := Lib.hid (l00In_is e0)
          rw [e0] at HE
          clear e0
          cases e1 : inB u1 0 (s - 1)
          · have J1 := Lib.hid (l00In_is e1)
            have HR := Lib.hid (HR1.out (by rw [HE.out, e1]; rfl))
            clear e1 HE HS HR1
            go_wp2_with fail
            go_quiet ((first | (go_at_call_of 76 (Value.int IntKind.i64 u0); exact Calls.quiet_of_same (J0.out _)) | (go_at_call_of 76 (Value.int IntKind.i64 u1); exact Calls.quiet_of_same (J1.out _))))
            go_wp2_with fail
            go_ret
            exact ⟨ret_bool HR.out.symm, _, by rw [hw.out]; exact World.drewN_drewN ..⟩
          have J1 := Lib.hid (l00In_is e1)
          rw [e1] at HE
          clear e1
          cases e2 : inB u2 (-1) (l - 1)
          · have J2 := Lib.hid (l00In_is e2)
            have HR := Lib.hid (HR1.out (by rw [HE.out, e2]; rfl))
            clear e2 HE HS HR1
            go_wp2_with fail
            go_quiet ((first | (go_at_call_of 76 (Value.int IntKind.i64 u0); exact Calls.quiet_of_same (J0.out _)) | (go_at_call_of 76 (Value.int IntKind.i64 u1); exact Calls.quiet_of_same (J1.out _)) | (go_at_call_of 76 (Value.int IntKind.i64 u2); exact Calls.quiet_of_same (J2.out _))))
            go_wp2_with fail
            go_ret
            exact ⟨ret_bool HR.out.symm, _, by rw [hw.out]; exact World.drewN_drewN ..⟩
          have J2 := Lib.hid (l00In_is e2)
          rw [e2] at HE
          clear e2
          cases e3 : inB u3 (-1) (l - 1)
          · have J3 := Lib.hid (l00In_is e3)
            have HR := Lib.hid (HR1.out (by rw [HE.out, e3]; rfl))
            clear e3 HE HS HR1
            go_wp2_with fail
            go_quiet ((first | (go_at_call_of 76 (Value.int IntKind.i64 u0); exact Calls.quiet_of_same (J0.out _)) | (go_at_call_of 76 (Value.int IntKind.i64 u1); exact Calls.quiet_of_same (J1.out _)) | (go_at_call_of 76 (Value.int IntKind.i64 u2); exact Calls.quiet_of_same (J2.out _)) | (go_at_call_of 76 (Value.int IntKind.i64 u3); exact Calls.quiet_of_same (J3.out _))))
            go_wp2_with fail
            go_ret
            exact ⟨ret_bool HR.out.symm, _, by rw [hw.out]; exact World.drewN_drewN ..⟩
          have J3 := Lib.hid (l00In_is e3)
          have HR := Lib.hid (HS.out (by rw [HE.out, e3]; rfl))
          clear e3 HE HS HR1
          go_wp2_with fail
          go_quiet ((first | (go_at_call_of 76 (Value.int IntKind.i64 u0); exact Calls.quiet_of_same (J0.out _)) | (go_at_call_of 76 (Value.int IntKind.i64 u1); exact Calls.quiet_of_same (J1.out _)) | (go_at_call_of 76 (Value.int IntKind.i64 u2); exact Calls.quiet_of_same (J2.out _)) | (go_at_call_of 76 (Value.int IntKind.i64 u3); exact Calls.quiet_of_same (J3.out _))))
          go_wp2_with fail
          exact ⟨⟨k + 1, q + nq, by omega, by simp, by rw [hw.out]; exact World.drewN_drewN .., HR⟩, by simp [intOf]; omega⟩
        · have d1 : ¬ (k : Int) < n := by omega
          have e : k = n := by omega
          subst e
          have HR := Lib.hid (HV.out HX.out)
          clear HX HV HN
          go_wp2_with fail
          go_ret
          exact ⟨ret_bool (by rw [HU2.out, HR.out]), _, hw.out⟩
theorem specValidSided_any (s l : Int) (A B : Option Addr) (n c m d : Nat) (f : Nat → Int) (g : Nat → Bool) (w : World) (hn : n ≤ 1048576) (hm : m ≤ 1048576) (hA : Cells w A (n * 4) (fun i => .int .i64 (f i))) (hB : Cells w B m (fun i => .bool (g i))) :
    Calls Try.prog 16 #[.agg #[.int .i64 s, .int .i64 l, .slice A n c, .slice B m d]] w fun e w' => e = .returned (.bool (validS s l n m f)) ∧ Below w.heap.size w w' := by
  have HL := Lib.hid (fun P W h1 b => l05Sided_any P s l A B n c m d f W hn hm h1 b)
  have HA := Lib.hid hA
  clear hA hB
  generalize validS s l n m f = r at *
  go_enter Try.func16, Try.ntmps16
  go_wp2_with fail
  refine (HL.out w.heap.size _ (HA.out.below (by repeat (first | exact Below.refl _ _ | exact Hid.out (by assumption) | refine below_alloc ?_ _ | refine Below.setCell ?_ (by simp <;> omega) _ | refine Below.alloc ?_ (by simp <;> omega) _ | refine Below.drew ?_ | refine below_drewN ?_ _))) (Box4.new w _ _ _ _ _)).mono ?_
  rintro e w' ⟨rfl, j, rfl⟩
  go_wp2_with fail
  go_ret
  exact ⟨rfl, (by repeat (first | exact Below.refl _ _ | exact Hid.out (by assumption) | refine below_alloc ?_ _ | refine Below.setCell ?_ (by simp <;> omega) _ | refine Below.alloc ?_ (by simp <;> omega) _ | refine Below.drew ?_ | refine below_drewN ?_ _))⟩
end Go.Proofs.Ytdgegekjjnghmaa
