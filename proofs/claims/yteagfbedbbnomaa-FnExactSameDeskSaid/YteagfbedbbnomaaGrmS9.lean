/- Grammars inside desks compared. -/
import Derived.Test.YteagfbedbbnomaaGrmS
import Derived.Test.YteagfbedbbnomaaOffB
set_option linter.unusedVariables false
namespace Go.Proofs.Yteagfbedbbnomaa
open Go.RowKit
set_option maxRecDepth 20000 in
set_option maxHeartbeats 4000000 in
theorem l06Same_at9 (P Q : Nat)
  (s l : Int) (A : Option Addr) (n c : Nat) (f : Nat → Int) (s2 l2 : Int) (A2 : Option Addr) (n2 c2 : Nat) (f2 : Nat → Int) (w : World)
  (hn : n ≤ 1048576) (hA : Cells w A (n * 4) (fun i => .int .i64 (f i)))
  (hn2 : n2 ≤ 1048576) (hA2 : Cells w A2 (n2 * 4) (fun i => .int .i64 (f2 i)))
  (b : Off9 w P (.int .i64 s) (.int .i64 l) (.slice A n c)) (b2 : Off9 w Q (.int .i64 s2) (.int .i64 l2) (.slice A2 n2 c2))
  : Calls Try.prog 36 #[.pointer (some ⟨P, 9, none⟩), .pointer (some ⟨Q, 9, none⟩)] w fun e w' => e = .returned (.bool (sameGB s s2 l l2 f f2 n n2)) ∧ ∃ q, w' = w.drewN q := by
  have HU := Lib.hid (show sameGB s s2 l l2 f f2 n n2 = (decide (s = s2) && (decide (l = l2) && (arcEqB f f2 n n2))) from rfl)
  have HK := Lib.hid (fun j (hj : j < n) e => arcEqB_at (f := f) (g := f2) (m := n2) hj e)
  have HV := Lib.hid (show n = n2 → (∀ i, i < n → quadB f f2 i = true) → arcEqB f f2 n n2 = true from fun h1 h => arcEqB_iff.2 ⟨h1, h⟩)
  have HL := Lib.hid (fun e => arcEqB_len (f := f) (g := f2) (n := n) (m := n2) e)
  have HF := Lib.hid hA
  have HF2 := Lib.hid hA2
  have BP := Lib.hid b
  have BQ := Lib.hid b2
  clear b b2 hA hA2
  generalize sameGB s s2 l l2 f f2 n n2 = r at *
  generalize arcEqB f f2 n n2 = r1 at *
  obtain ⟨a0, a1, a2⟩ := BP.out
  obtain ⟨b0, b1, b2⟩ := BQ.out
  by_cases hs : s = s2
  rotate_left
  · have e2 : (s != s2) = true := by simpa using hs
    have HR := Lib.hid (show r = false by rw [HU.out]; simp [hs])
    clear hs
    go_enter Try.func36, Try.ntmps36
    go_wp2_with fail
    go_quiet (fail)
    go_wp2_with fail
    go_ret
    exact ⟨ret_bool (by rw [HR.out]), _, rfl⟩
  subst hs
  by_cases hl : l = l2
  rotate_left
  · have e2 : (l != l2) = true := by simpa using hl
    have HR := Lib.hid (show r = false by rw [HU.out]; simp [hl])
    clear hl
    go_enter Try.func36, Try.ntmps36
    go_wp2_with fail
    go_quiet (fail)
    go_wp2_with fail
    go_ret
    exact ⟨ret_bool (by rw [HR.out]), _, rfl⟩
  subst hl
  by_cases hnn : n = n2
  rotate_left
  · have e2 : ((n : Int) != n2) = true := by simp; omega
    have HR := Lib.hid (show r = false by rw [HU.out, HL.out hnn]; simp)
    clear hnn
    go_enter Try.func36, Try.ntmps36
    go_wp2_with fail
    go_quiet (fail)
    go_wp2_with fail
    go_ret
    exact ⟨ret_bool (by rw [HR.out]), _, rfl⟩
  subst hnn
  go_enter Try.func36, Try.ntmps36
  go_wp2_with fail
  go_quiet (fail)
  go_wp2_with fail
  go_loopw [5] (fun i wr => ∃ k q : Nat, k ≤ n ∧ i = .int .i64 k ∧ Hid (wr = w.drewN q) ∧ Hid (∀ j, j < k → quadB f f2 j = true)) (fun i _ => n - (intOf i).toNat)
  case atStart => exact ⟨0, _, Nat.zero_le _, rfl, rfl, fun j hj => by omega⟩
  case round =>
    obtain ⟨k, q, hk, rfl, hw, HA⟩ := hrel
    have BP2 := Lib.hid (show Off9 wr P _ _ _ by rw [hw.out]; exact BP.out.drewN q)
    have BQ2 := Lib.hid (show Off9 wr Q _ _ _ by rw [hw.out]; exact BQ.out.drewN q)
    clear a0 a1 a2 b0 b1 b2
    obtain ⟨y0, y1, y2⟩ := BP2.out
    obtain ⟨z0, z1, z2⟩ := BQ2.out
    by_cases hlt : k < n
    · have d1 : (k : Int) < n := by omega
      obtain ⟨x, rfl, -⟩ := HF.out (k * 4) (by omega)
      obtain ⟨y, rfl, -⟩ := HF2.out (k * 4) (by omega)
      obtain ⟨p0, p1, p2, p3⟩ := four (wr := wr) HF.out hlt fun p hp => by rw [hw.out]; rfl
      obtain ⟨q0, q1, q2, q3⟩ := four (wr := wr) HF2.out hlt fun p hp => by rw [hw.out]; rfl
      have HN := Lib.hid (HK.out k hlt)
      have HS := Lib.hid (show quadB f f2 k = true → ∀ j, j < k + 1 → quadB f f2 j = true from fun e j hj => by
        rcases Nat.lt_or_ge j k with h | h
        · exact HA.out j h
        · have : j = k := by omega
          subst this
          exact e)
      have HD := Lib.hid (show quadB f f2 k = (decide (f (k * 4) = f2 (k * 4)) && (decide (f (k * 4 + 1) = f2 (k * 4 + 1)) && (decide (f (k * 4 + 2) = f2 (k * 4 + 2)) && decide (f (k * 4 + 3) = f2 (k * 4 + 3))))) from rfl)
      clear HA HK HV
      generalize quadB f f2 k = rq at *
      generalize f (k * 4) = u0 at *
      generalize f (k * 4 + 1) = u1 at *
      generalize f (k * 4 + 2) = u2 at *
      generalize f (k * 4 + 3) = u3 at *
      generalize f2 (k * 4) = v0 at *
      generalize f2 (k * 4 + 1) = v1 at *
      generalize f2 (k * 4 + 2) = v2 at *
      generalize f2 (k * 4 + 3) = v3 at *
      by_cases e0 : u0 = v0
      · subst e0
        by_cases e1 : u1 = v1
        · subst e1
          by_cases e2 : u2 = v2
          · subst e2
            by_cases e3 : u3 = v3
            · subst e3
              have HQ := Lib.hid (HS.out (by rw [HD.out]; simp))
              clear HN HS HD
              go_wp2_with fail
              go_quiet (fail)
              go_wp2_with fail
              exact ⟨⟨k + 1, q + nq, by omega, by simp, by rw [hw.out]; exact World.drewN_drewN .., HQ⟩, by simp [intOf]; omega⟩
            · have HQ := Lib.hid (HN.out (by rw [HD.out]; simp [e3]))
              have b : (u3 == v3) = false := by simpa using e3
              clear HN HS HD e3
              go_wp2_with fail
              go_quiet (fail)
              go_wp2_with fail
              go_ret
              exact ⟨ret_bool (by rw [HU.out, HQ.out]; simp), _, by rw [hw.out]; exact World.drewN_drewN ..⟩
          · have HQ := Lib.hid (HN.out (by rw [HD.out]; simp [e2]))
            have b : (u2 == v2) = false := by simpa using e2
            clear HN HS HD e2
            go_wp2_with fail
            go_quiet (fail)
            go_wp2_with fail
            go_ret
            exact ⟨ret_bool (by rw [HU.out, HQ.out]; simp), _, by rw [hw.out]; exact World.drewN_drewN ..⟩
        · have HQ := Lib.hid (HN.out (by rw [HD.out]; simp [e1]))
          have b : (u1 == v1) = false := by simpa using e1
          clear HN HS HD e1
          go_wp2_with fail
          go_quiet (fail)
          go_wp2_with fail
          go_ret
          exact ⟨ret_bool (by rw [HU.out, HQ.out]; simp), _, by rw [hw.out]; exact World.drewN_drewN ..⟩
      · have HQ := Lib.hid (HN.out (by rw [HD.out]; simp [e0]))
        have b : (u0 == v0) = false := by simpa using e0
        clear HN HS HD e0
        go_wp2_with fail
        go_quiet (fail)
        go_wp2_with fail
        go_ret
        exact ⟨ret_bool (by rw [HU.out, HQ.out]; simp), _, by rw [hw.out]; exact World.drewN_drewN ..⟩
    · have d1 : ¬ (k : Int) < n := by omega
      have e : k = n := by omega
      subst e
      have HR := Lib.hid (HV.out (by trivial) HA.out)
      clear HA HK HV
      go_wp2_with fail
      go_ret
      exact ⟨ret_bool (by rw [HU.out, HR.out]; simp), _, hw.out⟩
end Go.Proofs.Yteagfbedbbnomaa
