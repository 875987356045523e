/- Grammars: whether they are valid, on both sides. -/
import Derived.Test.YteagfbedbbnomaaGrammarM
import Derived.Test.YteagfbedbbnomaaContI
set_option linter.unusedVariables false
namespace Go.Proofs.Yteagfbedbbnomaa
open Go.RowKit

/-- A rule's four numbers. -/
def ruleB (s l : Int) (a b c d : Int) : Bool := inB a 0 (s - 1) && (inB d 0 1000 && (if c = -1 then inB b 0 (l - 1) else inB b 0 (s - 1) && inB c 0 (s - 1)))
/-- A valid grammar. -/
def validG (s l : Int) (n : Nat) (f : Nat → Int) : Bool := inB s 1 8 && (inB l 1 4 && (decide (n ≤ 32) && allQ (ruleB s l) f n))

theorem isRuleOf_any (s l : Int) (A : Option Addr) (n c : Nat) (u0 u1 u2 u3 : Int) (w : World) (hs : 1 ≤ s) (hs2 : s ≤ 8) (hl : 1 ≤ l) (hl2 : l ≤ 4) :
    Calls Try.prog 64 #[.agg #[.int .i64 s, .int .i64 l, .slice A n c], .agg #[.int .i64 u0, .int .i64 u1, .int .i64 u2, .int .i64 u3]] w fun e w' => e = .returned (.bool (ruleB s l u0 u1 u2 u3)) ∧ Below w.heap.size w w' := by
  have HU := Lib.hid (show ruleB s l u0 u1 u2 u3 = (inB u0 0 (s - 1) && (inB u3 0 1000 && (if u2 = -1 then inB u1 0 (l - 1) else inB u1 0 (s - 1) && inB u2 0 (s - 1)))) from rfl)
  have hws : IntKind.i64.wrap (s - 1) = s - 1 := by rw [IntKind.wrap_i64]; omega
  have hwl : IntKind.i64.wrap (l - 1) = l - 1 := by rw [IntKind.wrap_i64]; omega
  generalize ruleB s l u0 u1 u2 u3 = r at *
  have H0 := Lib.hid (fun W => between_is (n := u0) (a := 0) (b := s - 1) rfl W)
  have H1 := Lib.hid (fun W => between_is (n := u3) (a := 0) (b := 1000) rfl W)
  have H2 := Lib.hid (fun W => between_is (n := u1) (a := 0) (b := l - 1) rfl W)
  have H3 := Lib.hid (fun W => between_is (n := u1) (a := 0) (b := s - 1) rfl W)
  have H4 := Lib.hid (fun W => between_is (n := u2) (a := 0) (b := s - 1) rfl W)
  generalize inB u0 0 (s - 1) = r0 at *
  generalize inB u3 0 1000 = r1 at *
  generalize inB u1 0 (l - 1) = r2 at *
  generalize inB u1 0 (s - 1) = r3 at *
  generalize inB u2 0 (s - 1) = r4 at *
  cases r0
  · go_enter Try.func64, Try.ntmps64
    go_wp2_with fail
    refine (H0.out _).mono ?_
    rintro e w' ⟨rfl, rfl⟩
    go_wp2_with fail
    go_ret
    exact ⟨ret_bool (by rw [HU.out]; rfl), (by repeat (first | with_reducible exact Below.refl _ _ | exact Hid.out (by with_reducible assumption) | refine Below.setCell ?_ (by simp <;> omega) _ | refine below_alloc ?_ _ | refine Below.alloc ?_ (by simp <;> omega) _ | refine Below.drew ?_ | refine below_drewN ?_ _ | exact Below.refl _ _))⟩
  cases r1
  · go_enter Try.func64, Try.ntmps64
    go_wp2_with fail
    refine (H0.out _).mono ?_
    rintro e w' ⟨rfl, rfl⟩
    go_wp2_with fail
    refine (H1.out _).mono ?_
    rintro e w' ⟨rfl, rfl⟩
    go_wp2_with fail
    go_ret
    exact ⟨ret_bool (by rw [HU.out]; rfl), (by repeat (first | with_reducible exact Below.refl _ _ | exact Hid.out (by with_reducible assumption) | refine Below.setCell ?_ (by simp <;> omega) _ | refine below_alloc ?_ _ | refine Below.alloc ?_ (by simp <;> omega) _ | refine Below.drew ?_ | refine below_drewN ?_ _ | exact Below.refl _ _))⟩
  by_cases hc : u2 = -1
  · have HU2 := Lib.hid (show r = r2 by rw [HU.out]; simp [hc])
    have b2 : (u2 == -1) = true := by simpa using hc
    clear HU hc
    go_enter Try.func64, Try.ntmps64
    go_wp2_with fail
    refine (H0.out _).mono ?_
    rintro e w' ⟨rfl, rfl⟩
    go_wp2_with fail
    refine (H1.out _).mono ?_
    rintro e w' ⟨rfl, rfl⟩
    go_wp2_with fail
    refine (H2.out _).mono ?_
    rintro e w' ⟨rfl, rfl⟩
    go_wp2_with fail
    go_ret
    exact ⟨ret_bool (by rw [HU2.out]), (by repeat (first | with_reducible exact Below.refl _ _ | exact Hid.out (by with_reducible assumption) | refine Below.setCell ?_ (by simp <;> omega) _ | refine below_alloc ?_ _ | refine Below.alloc ?_ (by simp <;> omega) _ | refine Below.drew ?_ | refine below_drewN ?_ _ | exact Below.refl _ _))⟩
  have HU2 := Lib.hid (show r = (r3 && r4) by rw [HU.out]; simp [hc])
  have b2 : (u2 == -1) = false := by simpa using hc
  clear HU hc
  cases r3
  · go_enter Try.func64, Try.ntmps64
    go_wp2_with fail
    refine (H0.out _).mono ?_
    rintro e w' ⟨rfl, rfl⟩
    go_wp2_with fail
    refine (H1.out _).mono ?_
    rintro e w' ⟨rfl, rfl⟩
    go_wp2_with fail
    refine (H3.out _).mono ?_
    rintro e w' ⟨rfl, rfl⟩
    go_wp2_with fail
    go_ret
    exact ⟨ret_bool (by rw [HU2.out]; rfl), (by repeat (first | with_reducible exact Below.refl _ _ | exact Hid.out (by with_reducible assumption) | refine Below.setCell ?_ (by simp <;> omega) _ | refine below_alloc ?_ _ | refine Below.alloc ?_ (by simp <;> omega) _ | refine Below.drew ?_ | refine below_drewN ?_ _ | exact Below.refl _ _))⟩
  · go_enter Try.func64, Try.ntmps64
    go_wp2_with fail
    refine (H0.out _).mono ?_
    rintro e w' ⟨rfl, rfl⟩
    go_wp2_with fail
    refine (H1.out _).mono ?_
    rintro e w' ⟨rfl, rfl⟩
    go_wp2_with fail
    refine (H3.out _).mono ?_
    rintro e w' ⟨rfl, rfl⟩
    go_wp2_with fail
    refine (H4.out _).mono ?_
    rintro e w' ⟨rfl, rfl⟩
    go_wp2_with fail
    go_ret
    exact ⟨ret_bool (by rw [HU2.out]; rfl), (by repeat (first | with_reducible exact Below.refl _ _ | exact Hid.out (by with_reducible assumption) | refine Below.setCell ?_ (by simp <;> omega) _ | refine below_alloc ?_ _ | refine Below.alloc ?_ (by simp <;> omega) _ | refine Below.drew ?_ | refine below_drewN ?_ _ | exact Below.refl _ _))⟩
theorem validGrammar1_any (P : Nat) (s l : Int) (A : Option Addr) (n c : Nat) (u0 u1 u2 u3 : Int) (w : World) (hs : 1 ≤ s ∧ s ≤ 8) (hl : 1 ≤ l ∧ l ≤ 4) (b : Box3 w P (.int .i64 s) (.int .i64 l) (.slice A n c)) :
    Calls Try.prog 63 #[.agg #[.int .i64 u0, .int .i64 u1, .int .i64 u2, .int .i64 u3], .pointer (some ⟨P, 0, none⟩)] w fun e w' => e = .returned (.bool (!ruleB s l u0 u1 u2 u3)) ∧ Below w.heap.size w w' := by
  have HI := Lib.hid (fun W => isRuleOf_any s l A n c u0 u1 u2 u3 W hs.1 hs.2 hl.1 hl.2)
  have X := Lib.hid b
  obtain ⟨x0, x1, x2⟩ := b
  have z0 := X.out.a0
  have z1 := X.out.a1
  have z2 := X.out.a2
  clear hs hl
  generalize ruleB s l u0 u1 u2 u3 = r at *
  go_enter Try.func63, Try.ntmps63
  go_wp2_with fail
  refine (HI.out _).mono ?_
  rintro e w1 ⟨rfl, hb⟩
  have N1 := Lib.hid (show Below w.heap.size w w1 from Below.trans (by repeat (first | with_reducible exact Below.refl _ _ | exact Hid.out (by with_reducible assumption) | refine Below.setCell ?_ (by simp <;> omega) _ | refine below_alloc ?_ _ | refine Below.alloc ?_ (by simp <;> omega) _ | refine Below.drew ?_ | refine below_drewN ?_ _ | exact Below.refl _ _)) (hb.mono (by simp <;> omega)))
  clear hb
  go_wp2_with fail
  go_ret
  exact ⟨by cases r <;> rfl, N1.out⟩
set_option maxRecDepth 20000 in
theorem indexRules_any (P : Nat) (s l : Int) (A : Option Addr) (n c : Nat) (E : Option Addr) (r i : Nat) (u : Nat → Int) (w : World) (hs : 1 ≤ s ∧ s ≤ 8) (hl : 1 ≤ l ∧ l ≤ 4) (hr : r ≤ 1048576) (hE : Cells w E (r * 4) (fun i => .int .i64 (u i))) (b : Box3 w P (.int .i64 s) (.int .i64 l) (.slice A n c)) :
    Calls Try.prog 82 #[.slice E r i, .func (.func 63) #[] #[.pointer (some ⟨P, 0, none⟩)]] w fun e w' => IdxRes (!allQ (ruleB s l) u r) r e ∧ Below w.heap.size w w' := by
  have HE := Lib.hid hE
  have X := Lib.hid b
  have HC := Lib.hid (fun z0 z1 z2 z3 W b => validGrammar1_any P s l A n c z0 z1 z2 z3 W hs hl b)
  have HNO := Lib.hid (fun k (hk : k < r) h => allQ_no (p := ruleB s l) (f := u) hk h)
  have HYES := Lib.hid (fun h => (allQ_iff (p := ruleB s l) (f := u) (n := r)).2 h)
  clear hE b hs hl
  generalize allQ (ruleB s l) u r = R at *
  go_enter Try.func82, Try.ntmps82
  go_wp2_with fail
  go_loopw [5, 8] (fun _ j wr => ∃ k : Nat, k ≤ r ∧ j = .int .i64 k ∧ Hid (Below w.heap.size w wr) ∧ Hid (∀ j, j < k → ruleB s l (u (j * 4)) (u (j * 4 + 1)) (u (j * 4 + 2)) (u (j * 4 + 3)) = true)) (fun _ j _ => r - (intOf j).toNat)
  case atStart => exact ⟨0, Nat.zero_le _, rfl, Below.refl _ _, fun j hj => by omega⟩
  case round =>
    obtain ⟨k, hk, rfl, HB0, HP⟩ := hrel
    have XR := Lib.hid (X.out.below HB0.out)
    by_cases hlt : k < r
    · have d1 : (k : Int) < r := by omega
      obtain ⟨x, rfl, -⟩ := HE.out (k * 4) (by omega)
      obtain ⟨p0, p1, p2, p3⟩ := four (wr := wr) HE.out hlt fun p hp => HB0.out.cell hp
      have HNk := Lib.hid (HNO.out k hlt)
      have HPk := Lib.hid (show ruleB s l (u (k * 4)) (u (k * 4 + 1)) (u (k * 4 + 2)) (u (k * 4 + 3)) = true → ∀ j, j < k + 1 → ruleB s l (u (j * 4)) (u (j * 4 + 1)) (u (j * 4 + 2)) (u (j * 4 + 3)) = true from fun e j hj => by
        rcases Nat.lt_or_ge j k with h | h
        · exact HP.out j h
        · have : j = k := by omega
          subst this
          exact e)
      clear HP HNO HYES
      generalize u (k * 4) = u0 at *
      generalize u (k * 4 + 1) = u1 at *
      generalize u (k * 4 + 2) = u2 at *
      generalize u (k * 4 + 3) = u3 at *
      have HCk := Lib.hid (fun W b => HC.out u0 u1 u2 u3 W b)
      clear HC
      cases hz : ruleB s l u0 u1 u2 u3
      · rw [hz] at HCk
        have HR := Lib.hid (HNk.out hz)
        clear hz HNk HPk
        go_wp2_with fail
        refine (HCk.out _ (XR.out.below (by repeat (first | with_reducible exact Below.refl _ _ | exact Hid.out (by with_reducible assumption) | refine Below.setCell ?_ (by simp <;> omega) _ | refine below_alloc ?_ _ | refine Below.alloc ?_ (by simp <;> omega) _ | refine Below.drew ?_ | refine below_drewN ?_ _ | exact Below.refl _ _)))).mono ?_
        rintro e w1 ⟨rfl, hb⟩
        have N1 := Lib.hid (show Below w.heap.size w w1 from Below.trans (by repeat (first | with_reducible exact Below.refl _ _ | exact Hid.out (by with_reducible assumption) | refine Below.setCell ?_ (by simp <;> omega) _ | refine below_alloc ?_ _ | refine Below.alloc ?_ (by simp <;> omega) _ | refine Below.drew ?_ | refine below_drewN ?_ _ | exact Below.refl _ _)) (hb.mono (by have := HB0.out.size; first | exact this | (simp; omega))))
        clear hb
        go_wp2_with fail
        go_ret
        exact ⟨⟨k, rfl, by rw [HR.out]; simp, by omega, by omega⟩, N1.out⟩
      · rw [hz] at HCk
        have HR := Lib.hid (HPk.out hz)
        clear hz HNk HPk
        go_wp2_with fail
        refine (HCk.out _ (XR.out.below (by repeat (first | with_reducible exact Below.refl _ _ | exact Hid.out (by with_reducible assumption) | refine Below.setCell ?_ (by simp <;> omega) _ | refine below_alloc ?_ _ | refine Below.alloc ?_ (by simp <;> omega) _ | refine Below.drew ?_ | refine below_drewN ?_ _ | exact Below.refl _ _)))).mono ?_
        rintro e w1 ⟨rfl, hb⟩
        have N1 := Lib.hid (show Below w.heap.size w w1 from Below.trans (by repeat (first | with_reducible exact Below.refl _ _ | exact Hid.out (by with_reducible assumption) | refine Below.setCell ?_ (by simp <;> omega) _ | refine below_alloc ?_ _ | refine Below.alloc ?_ (by simp <;> omega) _ | refine Below.drew ?_ | refine below_drewN ?_ _ | exact Below.refl _ _)) (hb.mono (by have := HB0.out.size; first | exact this | (simp; omega))))
        clear hb
        go_wp2_with fail
        exact ⟨⟨k + 1, by omega, by simp, N1.out, HR.out⟩, by simp [intOf]; omega⟩
    · have d1 : ¬ (k : Int) < r := by omega
      obtain rfl : r = k := by omega
      have HR := Lib.hid (HYES.out HP.out)
      go_wp2_with fail
      go_ret
      exact ⟨⟨-1, rfl, by rw [HR.out]; rfl, by omega, by omega⟩, HB0.out⟩
theorem containsRules_any (P : Nat) (s l : Int) (A : Option Addr) (n c : Nat) (E : Option Addr) (r i : Nat) (u : Nat → Int) (w : World) (hs : 1 ≤ s ∧ s ≤ 8) (hl : 1 ≤ l ∧ l ≤ 4) (hr : r ≤ 1048576) (hE : Cells w E (r * 4) (fun i => .int .i64 (u i))) (b : Box3 w P (.int .i64 s) (.int .i64 l) (.slice A n c)) :
    Calls Try.prog 65 #[.slice E r i, .func (.func 63) #[] #[.pointer (some ⟨P, 0, none⟩)]] w fun e w' => e = .returned (.bool (!allQ (ruleB s l) u r)) ∧ Below w.heap.size w w' := by
  have HI := Lib.hid (indexRules_any P s l A n c E r i u w hs hl hr hE b)
  clear hE b hs hl
  generalize allQ (ruleB s l) u r = R at *
  go_enter Try.func65, Try.ntmps65
  go_wp2_with fail
  refine HI.out.mono ?_
  rintro e w1 ⟨⟨j, rfl, hj, j1, j2⟩, hb⟩
  have N1 := Lib.hid hb
  have HJ := Lib.hid hj
  clear hj hb
  by_cases h : 0 ≤ j
  · have HD := Lib.hid (decide_eq_true h)
    go_wp2_with fail
    go_ret
    exact ⟨ret_bool (by rw [← HJ.out, HD.out]), N1.out⟩
  · have HD := Lib.hid (decide_eq_false h)
    go_wp2_with fail
    go_ret
    exact ⟨ret_bool (by rw [← HJ.out, HD.out]), N1.out⟩
set_option maxHeartbeats 1000000 in
theorem implValidGrammar_any (s l : Int) (A : Option Addr) (n c : Nat) (f : Nat → Int) (w : World) (hn : n ≤ 1048576) (hA : Cells w A (n * 4) (fun i => .int .i64 (f i))) :
    Calls Try.prog 28 #[.agg #[.int .i64 s, .int .i64 l, .slice A n c]] w fun e w' => e = .returned (.bool (validG s l n f)) ∧ Below w.heap.size w w' := by
  have HU := Lib.hid (show validG s l n f = (inB s 1 8 && (inB l 1 4 && (decide (n ≤ 32) && allQ (ruleB s l) f n))) from rfl)
  have HA := Lib.hid hA
  have hmf : ∀ (fn : Fn) (first cap : Array Value) (w : World), (Instr.makeFunc fn first cap).run Try.prog w = .ok (.func fn first cap) w := fun _ _ _ _ => rfl
  clear hA
  generalize validG s l n f = r at *
  cases h0 : inB s 1 8
  · have H0 := Lib.hid (between_is h0)
    rw [h0] at HU
    clear h0
    go_enter Try.func28, Try.ntmps28
    go_wp2_with fail
    refine (H0.out _).mono ?_
    rintro e w' ⟨rfl, rfl⟩
    go_wp2_with fail
    go_ret
    exact ⟨ret_bool (by rw [HU.out]; rfl), (by repeat (first | with_reducible exact Below.refl _ _ | exact Hid.out (by with_reducible assumption) | refine Below.setCell ?_ (by simp <;> omega) _ | refine below_alloc ?_ _ | refine Below.alloc ?_ (by simp <;> omega) _ | refine Below.drew ?_ | refine below_drewN ?_ _ | exact Below.refl _ _))⟩
  have hs := inB_iff.1 h0
  have H0 := Lib.hid (between_is h0)
  rw [h0] at HU
  clear h0
  cases h1 : inB l 1 4
  · have H1 := Lib.hid (between_is h1)
    rw [h1] at HU
    clear h1
    go_enter Try.func28, Try.ntmps28
    go_wp2_with fail
    refine (H0.out _).mono ?_
    rintro e w' ⟨rfl, rfl⟩
    go_wp2_with fail
    refine (H1.out _).mono ?_
    rintro e w' ⟨rfl, rfl⟩
    go_wp2_with fail
    go_ret
    exact ⟨ret_bool (by rw [HU.out]; rfl), (by repeat (first | with_reducible exact Below.refl _ _ | exact Hid.out (by with_reducible assumption) | refine Below.setCell ?_ (by simp <;> omega) _ | refine below_alloc ?_ _ | refine Below.alloc ?_ (by simp <;> omega) _ | refine Below.drew ?_ | refine below_drewN ?_ _ | exact Below.refl _ _))⟩
  have hl := inB_iff.1 h1
  have H1 := Lib.hid (between_is h1)
  rw [h1] at HU
  clear h1
  have HC := Lib.hid (fun q W k b => containsRules_any q s l A n c A n c f W hs hl hn k b)
  clear hs hl
  generalize allQ (ruleB s l) f n = r2 at *
  by_cases h2 : n ≤ 32
  · have d2 : ¬ (32 : Int) < n := by omega
    have HU2 := Lib.hid (show r = r2 by rw [HU.out]; simp [h2])
    go_enter Try.func28, Try.ntmps28
    go_wp2_with fail
    refine (H0.out _).mono ?_
    rintro e w' ⟨rfl, rfl⟩
    go_wp2_with fail
    refine (H1.out _).mono ?_
    rintro e w' ⟨rfl, rfl⟩
    go_wp2_with fail
    refine (HC.out w.heap.size _ (HA.out.below (by repeat (first | with_reducible exact Below.refl _ _ | exact Hid.out (by with_reducible assumption) | refine Below.setCell ?_ (by simp <;> omega) _ | refine below_alloc ?_ _ | refine Below.alloc ?_ (by simp <;> omega) _ | refine Below.drew ?_ | refine below_drewN ?_ _ | exact Below.refl _ _))) (Box3.new w _ _ _ _)).mono ?_
    rintro e w1 ⟨rfl, hb⟩
    have N1 := Lib.hid (show Below w.heap.size w w1 from Below.trans (by repeat (first | with_reducible exact Below.refl _ _ | exact Hid.out (by with_reducible assumption) | refine Below.setCell ?_ (by simp <;> omega) _ | refine below_alloc ?_ _ | refine Below.alloc ?_ (by simp <;> omega) _ | refine Below.drew ?_ | refine below_drewN ?_ _ | exact Below.refl _ _)) (hb.mono (by simp <;> omega)))
    clear hb
    go_wp2_with fail
    go_ret
    exact ⟨ret_bool (by rw [HU2.out] <;> cases r2 <;> rfl), N1.out⟩
  · have d2 : (32 : Int) < n := by omega
    go_enter Try.func28, Try.ntmps28
    go_wp2_with fail
    refine (H0.out _).mono ?_
    rintro e w' ⟨rfl, rfl⟩
    go_wp2_with fail
    refine (H1.out _).mono ?_
    rintro e w' ⟨rfl, rfl⟩
    go_wp2_with fail
    go_ret
    exact ⟨ret_bool (by rw [HU.out]; simp [h2]), (by repeat (first | with_reducible exact Below.refl _ _ | exact Hid.out (by with_reducible assumption) | refine Below.setCell ?_ (by simp <;> omega) _ | refine below_alloc ?_ _ | refine Below.alloc ?_ (by simp <;> omega) _ | refine Below.drew ?_ | refine below_drewN ?_ _ | exact Below.refl _ _))⟩
set_option maxRecDepth 20000 in
set_option maxHeartbeats 8000000 in
theorem l06Is_any (P : Nat) (s l : Int) (A : Option Addr) (n c : Nat) (f : Nat → Int) (w : World) (hn : n ≤ 1048576) (hA : Cells w A (n * 4) (fun i => .int .i64 (f i)))
    (b : Box3 w P (.int .i64 s) (.int .i64 l) (.slice A n c)) :
    Calls Try.prog 55 #[.pointer (some ⟨P, 0, none⟩)] w fun e w' => e = .returned (.bool (validG s l n f)) ∧ Below w.heap.size w w' := by
  have HU := Lib.hid (show validG s l n f = (inB s 1 8 && (inB l 1 4 && (decide (n ≤ 32) && allQ (ruleB s l) f n))) from rfl)
  have HA := Lib.hid hA
  have HN := Lib.hid (fun k (hk : k < n) e => allQ_no (p := ruleB s l) (f := f) hk e)
  have HV := Lib.hid (fun e => (allQ_iff (p := ruleB s l) (f := f) (n := n)).2 e)
  have X0 := Lib.hid b
  obtain ⟨a0, a1, a2⟩ := b
  clear hA
  generalize validG s l n f = r at *
  cases h0 : inB s 1 8
  · have H0 := Lib.hid (l00In_is h0)
    rw [h0] at HU
    clear h0
    go_enter Try.func55, Try.ntmps55
    go_wp2_with fail
    refine (H0.out _).mono ?_
    rintro e w' ⟨rfl, hw'⟩
    obtain rfl := hw'.symm
    clear hw'
    go_wp2_with fail
    go_ret
    exact ⟨ret_bool (by rw [HU.out]; rfl), (by repeat (first | with_reducible exact Below.refl _ _ | exact Hid.out (by with_reducible assumption) | refine Below.setCell ?_ (by simp <;> omega) _ | refine below_alloc ?_ _ | refine Below.alloc ?_ (by simp <;> omega) _ | refine Below.drew ?_ | refine below_drewN ?_ _ | exact Below.refl _ _))⟩
  obtain ⟨s1, s2⟩ := inB_iff.1 h0
  have H0 := Lib.hid (l00In_is h0)
  rw [h0] at HU
  clear h0
  have hwr : IntKind.i64.wrap (s - 1) = s - 1 := by rw [IntKind.wrap_i64]; omega
  cases h1 : inB l 1 4
  · have H1 := Lib.hid (l00In_is h1)
    rw [h1] at HU
    clear h1
    go_enter Try.func55, Try.ntmps55
    go_wp2_with fail
    refine (H0.out _).mono ?_
    rintro e w' ⟨rfl, hw'⟩
    obtain rfl := hw'.symm
    clear hw'
    go_wp2_with fail
    refine (H1.out _).mono ?_
    rintro e w' ⟨rfl, hw'⟩
    obtain rfl := hw'.symm
    clear hw'
    go_wp2_with fail
    go_ret
    exact ⟨ret_bool (by rw [HU.out]; rfl), (by repeat (first | with_reducible exact Below.refl _ _ | exact Hid.out (by with_reducible assumption) | refine Below.setCell ?_ (by simp <;> omega) _ | refine below_alloc ?_ _ | refine Below.alloc ?_ (by simp <;> omega) _ | refine Below.drew ?_ | refine below_drewN ?_ _ | exact Below.refl _ _))⟩
  obtain ⟨l1, l2⟩ := inB_iff.1 h1
  have H1 := Lib.hid (l00In_is h1)
  rw [h1] at HU
  clear h1
  have hwl : IntKind.i64.wrap (l - 1) = l - 1 := by rw [IntKind.wrap_i64]; omega
  by_cases h2 : n ≤ 32
  rotate_left
  · have d2 : (32 : Int) < n := by omega
    go_enter Try.func55, Try.ntmps55
    go_wp2_with fail
    refine (H0.out _).mono ?_
    rintro e w' ⟨rfl, hw'⟩
    obtain rfl := hw'.symm
    clear hw'
    go_wp2_with fail
    refine (H1.out _).mono ?_
    rintro e w' ⟨rfl, hw'⟩
    obtain rfl := hw'.symm
    clear hw'
    go_wp2_with fail
    go_ret
    exact ⟨ret_bool (by rw [HU.out]; simp [h2]), (by repeat (first | with_reducible exact Below.refl _ _ | exact Hid.out (by with_reducible assumption) | refine Below.setCell ?_ (by simp <;> omega) _ | refine below_alloc ?_ _ | refine Below.alloc ?_ (by simp <;> omega) _ | refine Below.drew ?_ | refine below_drewN ?_ _ | exact Below.refl _ _))⟩
  have d2 : ¬ (32 : Int) < n := by omega
  have HU2 := Lib.hid (show r = allQ (ruleB s l) f n by rw [HU.out]; simp [h2])
  generalize allQ (ruleB s l) f n = ra at *
  go_enter Try.func55, Try.ntmps55
  go_wp2_with fail
  refine (H0.out _).mono ?_
  rintro e w' ⟨rfl, hw'⟩
  obtain rfl := hw'.symm
  clear hw'
  go_wp2_with fail
  refine (H1.out _).mono ?_
  rintro e w' ⟨rfl, hw'⟩
  obtain rfl := hw'.symm
  clear hw'
  go_wp2_with fail
  go_loopw [3, 4] (fun i _ wr => ∃ k : Nat, k ≤ n ∧ i = .int .i64 k ∧ Hid (Below w.heap.size w wr) ∧ Hid (∀ j, j < k → ruleB s l (f (j * 4)) (f (j * 4 + 1)) (f (j * 4 + 2)) (f (j * 4 + 3)) = true)) (fun i _ _ => n - (intOf i).toNat)
  case atStart => exact ⟨0, Nat.zero_le _, rfl, (by repeat (first | with_reducible exact Below.refl _ _ | exact Hid.out (by with_reducible assumption) | refine Below.setCell ?_ (by simp <;> omega) _ | refine below_alloc ?_ _ | refine Below.alloc ?_ (by simp <;> omega) _ | refine Below.drew ?_ | refine below_drewN ?_ _ | exact Below.refl _ _)), fun j hj => by omega⟩
  case round =>
    obtain ⟨k, hk, rfl, HB0, HX⟩ := hrel
    have X1 := Lib.hid (X0.out.below HB0.out)
    clear a0 a1 a2
    obtain ⟨a0, a1, a2⟩ := X1.out
    have g0 := X1.out.a0
    have g1 := X1.out.a1
    have g2 := X1.out.a2
    by_cases hlt : k < n
    · have d1 : (k : Int) < n := by omega
      obtain ⟨x, rfl, -⟩ := HA.out (k * 4) (by omega)
      obtain ⟨p0, p1, p2, p3⟩ := four (wr := wr) HA.out hlt fun p hp => HB0.out.cell hp
      have HK := Lib.hid (HN.out k hlt)
      have HS := Lib.hid (show ruleB s l (f (k * 4)) (f (k * 4 + 1)) (f (k * 4 + 2)) (f (k * 4 + 3)) = true → ∀ j, j < k + 1 → ruleB s l (f (j * 4)) (f (j * 4 + 1)) (f (j * 4 + 2)) (f (j * 4 + 3)) = true from fun e j hj => by
        rcases Nat.lt_or_ge j k with h | h
        · exact HX.out j h
        · have : j = k := by omega
          subst this
          exact e)
      clear HX HN HV
      generalize f (k * 4) = u0 at *
      generalize f (k * 4 + 1) = u1 at *
      generalize f (k * 4 + 2) = u2 at *
      generalize f (k * 4 + 3) = u3 at *
      have HE := Lib.hid (show ruleB s l u0 u1 u2 u3 = (inB u0 0 (s - 1) && (inB u3 0 1000 && (if u2 = -1 then inB u1 0 (l - 1) else inB u1 0 (s - 1) && inB u2 0 (s - 1)))) from rfl)
      have HR1 := Lib.hid (show ruleB s l u0 u1 u2 u3 = false → r = false from fun e => by rw [HU2.out]; exact HK.out e)
      clear HK
      generalize ruleB s l u0 u1 u2 u3 = rp at *
      cases e0 : inB u0 0 (s - 1)
      · have J0 := Lib.hid (l00In_is e0)
        have HR := Lib.hid (HR1.out (by rw [HE.out, e0]; rfl))
        clear e0 HE HS HR1
        go_wp2_with fail
        go_quiet ((first | (go_at_call_of 78 (Value.int IntKind.i64 u0); exact Calls.quiet_of_same (J0.out _))))
        go_wp2_with fail
        go_ret
        exact ⟨ret_bool HR.out.symm, (by repeat (first | with_reducible exact Below.refl _ _ | exact Hid.out (by with_reducible assumption) | refine Below.setCell ?_ (by simp <;> omega) _ | refine below_alloc ?_ _ | refine Below.alloc ?_ (by simp <;> omega) _ | refine Below.drew ?_ | refine below_drewN ?_ _ | exact Below.refl _ _))⟩
      have J0 := Lib.hid (l00In_is e0)
      rw [e0] at HE
      clear e0
      cases e2 : inB u2 (-1) (s - 1)
      · have J2 := Lib.hid (l00In_is e2)
        have HR := Lib.hid (HR1.out (by rw [HE.out]; have q := inB_no e2; rw [if_neg (by omega)]; have h0 : inB u2 0 (s - 1) = false := (Bool.eq_false_iff.2 fun z => absurd (inB_iff.1 z) (by omega)); rw [h0]; simp))
        clear e2 HE HS HR1
        go_wp2_with fail
        go_quiet ((first | (go_at_call_of 78 (Value.int IntKind.i64 u0); exact Calls.quiet_of_same (J0.out _)) | (go_at_call_of 78 (Value.int IntKind.i64 u2); exact Calls.quiet_of_same (J2.out _))))
        go_wp2_with fail
        go_ret
        exact ⟨ret_bool HR.out.symm, (by repeat (first | with_reducible exact Below.refl _ _ | exact Hid.out (by with_reducible assumption) | refine Below.setCell ?_ (by simp <;> omega) _ | refine below_alloc ?_ _ | refine Below.alloc ?_ (by simp <;> omega) _ | refine Below.drew ?_ | refine below_drewN ?_ _ | exact Below.refl _ _))⟩
      have J2 := Lib.hid (l00In_is e2)
      have E2 := Lib.hid (inB_iff.1 e2)
      clear e2
      cases e3 : inB u3 0 1000
      · have J3 := Lib.hid (l00In_is e3)
        have HR := Lib.hid (HR1.out (by rw [HE.out, e3]; rfl))
        clear e3 HE HS HR1 E2
        go_wp2_with fail
        go_quiet ((first | (go_at_call_of 78 (Value.int IntKind.i64 u0); exact Calls.quiet_of_same (J0.out _)) | (go_at_call_of 78 (Value.int IntKind.i64 u2); exact Calls.quiet_of_same (J2.out _)) | (go_at_call_of 78 (Value.int IntKind.i64 u3); exact Calls.quiet_of_same (J3.out _))))
        go_wp2_with fail
        go_ret
        exact ⟨ret_bool HR.out.symm, (by repeat (first | with_reducible exact Below.refl _ _ | exact Hid.out (by with_reducible assumption) | refine Below.setCell ?_ (by simp <;> omega) _ | refine below_alloc ?_ _ | refine Below.alloc ?_ (by simp <;> omega) _ | refine Below.drew ?_ | refine below_drewN ?_ _ | exact Below.refl _ _))⟩
      have J3 := Lib.hid (l00In_is e3)
      rw [e3] at HE
      clear e3
      by_cases hc : u2 < 0
      · have HE2 := Lib.hid (show rp = inB u1 0 (l - 1) by rw [HE.out, if_pos (by have := E2.out; omega)]; rfl)
        clear HE E2
        have hc2 : ¬ 0 ≤ u2 := by omega
        have hd1 : decide (u2 < 0) = true := decide_eq_true hc
        have hd2 : decide (0 ≤ u2) = false := decide_eq_false hc2
        cases e1 : inB u1 0 (l - 1)
        · have J1 := Lib.hid (l00In_is e1)
          have HR := Lib.hid (HR1.out (by rw [HE2.out, e1]))
          clear e1 HE2 HS HR1
          go_wp2_with fail
          go_quiet ((first | (go_at_call_of 78 (Value.int IntKind.i64 u0); exact Calls.quiet_of_same (J0.out _)) | (go_at_call_of 78 (Value.int IntKind.i64 u2); exact Calls.quiet_of_same (J2.out _)) | (go_at_call_of 78 (Value.int IntKind.i64 u3); exact Calls.quiet_of_same (J3.out _))))
          go_wp2_with fail
          go_quiet ((go_at_call 78; exact (J1.out _).mono fun e w' q => ⟨q.1, _, q.2⟩))
          go_wp2_with fail
          go_ret
          exact ⟨ret_bool HR.out.symm, (by repeat (first | with_reducible exact Below.refl _ _ | exact Hid.out (by with_reducible assumption) | refine Below.setCell ?_ (by simp <;> omega) _ | refine below_alloc ?_ _ | refine Below.alloc ?_ (by simp <;> omega) _ | refine Below.drew ?_ | refine below_drewN ?_ _ | exact Below.refl _ _))⟩
        · have J1 := Lib.hid (l00In_is e1)
          have HR := Lib.hid (HS.out (by rw [HE2.out, e1]))
          clear e1 HE2 HS HR1
          go_wp2_with fail
          go_quiet ((first | (go_at_call_of 78 (Value.int IntKind.i64 u0); exact Calls.quiet_of_same (J0.out _)) | (go_at_call_of 78 (Value.int IntKind.i64 u2); exact Calls.quiet_of_same (J2.out _)) | (go_at_call_of 78 (Value.int IntKind.i64 u3); exact Calls.quiet_of_same (J3.out _))))
          go_wp2_with fail
          go_quiet ((go_at_call 78; exact (J1.out _).mono fun e w' q => ⟨q.1, _, q.2⟩))
          go_wp2_with fail
          exact ⟨⟨k + 1, by omega, by simp, (by repeat (first | with_reducible exact Below.refl _ _ | exact Hid.out (by with_reducible assumption) | refine Below.setCell ?_ (by simp <;> omega) _ | refine below_alloc ?_ _ | refine Below.alloc ?_ (by simp <;> omega) _ | refine Below.drew ?_ | refine below_drewN ?_ _ | exact Below.refl _ _)), HR.out⟩, by simp [intOf]; omega⟩
      have HE2 := Lib.hid (show rp = inB u1 0 (s - 1) by rw [HE.out, if_neg (by omega), show inB u2 0 (s - 1) = true from inB_iff.2 (by have := E2.out; omega)]; simp)
      have hc2 : 0 ≤ u2 := by omega
      have hd1 : decide (u2 < 0) = false := decide_eq_false hc
      have hd2 : decide (0 ≤ u2) = true := decide_eq_true hc2
      clear HE E2
      cases e1 : inB u1 0 (s - 1)
      · have J1 := Lib.hid (l00In_is e1)
        have HR := Lib.hid (HR1.out (by rw [HE2.out, e1]))
        clear e1 HE2 HS HR1
        go_wp2_with fail
        go_quiet ((first | (go_at_call_of 78 (Value.int IntKind.i64 u0); exact Calls.quiet_of_same (J0.out _)) | (go_at_call_of 78 (Value.int IntKind.i64 u2); exact Calls.quiet_of_same (J2.out _)) | (go_at_call_of 78 (Value.int IntKind.i64 u3); exact Calls.quiet_of_same (J3.out _))))
        go_wp2_with fail
        go_quiet ((go_at_call 78; exact (J1.out _).mono fun e w' q => ⟨q.1, _, q.2⟩))
        go_wp2_with fail
        go_ret
        exact ⟨ret_bool HR.out.symm, (by repeat (first | with_reducible exact Below.refl _ _ | exact Hid.out (by with_reducible assumption) | refine Below.setCell ?_ (by simp <;> omega) _ | refine below_alloc ?_ _ | refine Below.alloc ?_ (by simp <;> omega) _ | refine Below.drew ?_ | refine below_drewN ?_ _ | exact Below.refl _ _))⟩
      · have J1 := Lib.hid (l00In_is e1)
        have HR := Lib.hid (HS.out (by rw [HE2.out, e1]))
        clear e1 HE2 HS HR1
        go_wp2_with fail
        go_quiet ((first | (go_at_call_of 78 (Value.int IntKind.i64 u0); exact Calls.quiet_of_same (J0.out _)) | (go_at_call_of 78 (Value.int IntKind.i64 u2); exact Calls.quiet_of_same (J2.out _)) | (go_at_call_of 78 (Value.int IntKind.i64 u3); exact Calls.quiet_of_same (J3.out _))))
        go_wp2_with fail
        go_quiet ((go_at_call 78; exact (J1.out _).mono fun e w' q => ⟨q.1, _, q.2⟩))
        go_wp2_with fail
        exact ⟨⟨k + 1, by omega, by simp, (by repeat (first | with_reducible exact Below.refl _ _ | exact Hid.out (by with_reducible assumption) | refine Below.setCell ?_ (by simp <;> omega) _ | refine below_alloc ?_ _ | refine Below.alloc ?_ (by simp <;> omega) _ | refine Below.drew ?_ | refine below_drewN ?_ _ | exact Below.refl _ _)), HR.out⟩, by simp [intOf]; omega⟩
    · have d1 : ¬ (k : Int) < n := by omega
      have e : k = n := by omega
      subst e
      have HR := Lib.hid (HV.out HX.out)
      clear HX HV HN
      go_wp2_with fail
      go_ret
      exact ⟨ret_bool (by rw [HU2.out, HR.out]), HB0.out⟩
end Go.Proofs.Yteagfbedbbnomaa
