/- Plain machines compared, on both sides. -/
import Derived.Test.YteagfbedbbnomaaRowEq
import Derived.Test.YteagfbedbbnomaaBoxP
import Derived.Test.YteagfbedbbnomaaPlainM
set_option linter.unusedVariables false
namespace Go.Proofs.Yteagfbedbbnomaa
open Go.RowKit

def samePB (s s2 l l2 : Int) (f f2 : Nat → Int) (n n2 : Nat) (g g2 : Nat → Bool) (m m2 : Nat) : Bool := decide (s = s2) && (decide (l = l2) && (rowEqB f f2 n n2 && rowEqB g g2 m m2))

theorem implSamePlain_any
  (A B A2 B2 : Option Addr) (n m n2 m2 c d c2 d2 : Nat) (s l s2 l2 : Int) (f f2 : Nat → Int) (g g2 : Nat → Bool) (w : World) (hn : n ≤ 1048576) (hm : m ≤ 1048576) (hn2 : n2 ≤ 1048576) (hm2 : m2 ≤ 1048576)
  (hf : Cells w A n (fun i => .int .i64 (f i))) (hg : Cells w B m (fun i => .bool (g i))) (hf2 : Cells w A2 n2 (fun i => .int .i64 (f2 i))) (hg2 : Cells w B2 m2 (fun i => .bool (g2 i)))
  : Calls Try.prog 39 #[.agg #[.int .i64 s, .int .i64 l, .slice A n c, .slice B m d], .agg #[.int .i64 s2, .int .i64 l2, .slice A2 n2 c2, .slice B2 m2 d2]] w fun e w' => e = .returned (.bool (samePB s s2 l l2 f f2 n n2 g g2 m m2)) ∧ Below w.heap.size w w' := by
  have HU := Lib.hid (show samePB s s2 l l2 f f2 n n2 g g2 m m2 = (decide (s = s2) && (decide (l = l2) && (rowEqB f f2 n n2 && rowEqB g g2 m m2))) from rfl)
  have HF := Lib.hid (fun W h1 h2 => slicesEqualI_any A A2 n n2 c c2 f f2 W (by omega) (by omega) h1 h2)
  have HG := Lib.hid (fun W h1 h2 => slicesEqualB_any B B2 m m2 d d2 g g2 W (by omega) (by omega) h1 h2)
  have hf := Lib.hid hf
  have hg := Lib.hid hg
  have hf2 := Lib.hid hf2
  have hg2 := Lib.hid hg2
  generalize samePB s s2 l l2 f f2 n n2 g g2 m m2 = r at *
  generalize rowEqB f f2 n n2 = r1 at *
  generalize rowEqB g g2 m m2 = r2 at *
  by_cases hs : s = s2
  · subst hs
    by_cases hl : l = l2
    · subst hl
      cases r1
      · go_enter Try.func39, Try.ntmps39
        go_wp2_with fail
        refine (HF.out _ (hf.out.below (by repeat (first | exact Below.refl _ _ | exact Hid.out (by assumption) | refine Below.setCell ?_ (by simp <;> omega) _ | refine Below.alloc ?_ (by simp <;> omega) _ | refine Below.drew ?_ | refine below_drewN ?_ _))) (hf2.out.below (by repeat (first | exact Below.refl _ _ | exact Hid.out (by assumption) | refine Below.setCell ?_ (by simp <;> omega) _ | refine Below.alloc ?_ (by simp <;> omega) _ | refine Below.drew ?_ | refine below_drewN ?_ _)))).mono ?_
        rintro e w1 ⟨rfl, q, rfl⟩
        go_wp2_with fail
        go_ret
        exact ⟨ret_bool (by rw [HU.out]; simp), (by repeat (first | exact Below.refl _ _ | exact Hid.out (by assumption) | refine Below.setCell ?_ (by simp <;> omega) _ | refine Below.alloc ?_ (by simp <;> omega) _ | refine Below.drew ?_ | refine below_drewN ?_ _))⟩
      · go_enter Try.func39, Try.ntmps39
        go_wp2_with fail
        refine (HF.out _ (hf.out.below (by repeat (first | exact Below.refl _ _ | exact Hid.out (by assumption) | refine Below.setCell ?_ (by simp <;> omega) _ | refine Below.alloc ?_ (by simp <;> omega) _ | refine Below.drew ?_ | refine below_drewN ?_ _))) (hf2.out.below (by repeat (first | exact Below.refl _ _ | exact Hid.out (by assumption) | refine Below.setCell ?_ (by simp <;> omega) _ | refine Below.alloc ?_ (by simp <;> omega) _ | refine Below.drew ?_ | refine below_drewN ?_ _)))).mono ?_
        rintro e w1 ⟨rfl, q, rfl⟩
        go_wp2_with fail
        refine (HG.out _ (hg.out.below (by repeat (first | exact Below.refl _ _ | exact Hid.out (by assumption) | refine Below.setCell ?_ (by simp <;> omega) _ | refine Below.alloc ?_ (by simp <;> omega) _ | refine Below.drew ?_ | refine below_drewN ?_ _))) (hg2.out.below (by repeat (first | exact Below.refl _ _ | exact Hid.out (by assumption) | refine Below.setCell ?_ (by simp <;> omega) _ | refine Below.alloc ?_ (by simp <;> omega) _ | refine Below.drew ?_ | refine below_drewN ?_ _)))).mono ?_
        rintro e w1 ⟨rfl, q2, rfl⟩
        go_wp2_with fail
        go_ret
        exact ⟨ret_bool (by rw [HU.out]; simp), (by repeat (first | exact Below.refl _ _ | exact Hid.out (by assumption) | refine Below.setCell ?_ (by simp <;> omega) _ | refine Below.alloc ?_ (by simp <;> omega) _ | refine Below.drew ?_ | refine below_drewN ?_ _))⟩
    · have h2 : (l == l2) = false := by simpa using hl
      go_enter Try.func39, Try.ntmps39
      go_wp2_with fail
      go_ret
      exact ⟨ret_bool (by rw [HU.out]; simp [hl]), (by repeat (first | exact Below.refl _ _ | exact Hid.out (by assumption) | refine Below.setCell ?_ (by simp <;> omega) _ | refine Below.alloc ?_ (by simp <;> omega) _ | refine Below.drew ?_ | refine below_drewN ?_ _))⟩
  · have h2 : (s == s2) = false := by simpa using hs
    go_enter Try.func39, Try.ntmps39
    go_wp2_with fail
    go_ret
    exact ⟨ret_bool (by rw [HU.out]; simp [hs]), (by repeat (first | exact Below.refl _ _ | exact Hid.out (by assumption) | refine Below.setCell ?_ (by simp <;> omega) _ | refine Below.alloc ?_ (by simp <;> omega) _ | refine Below.drew ?_ | refine below_drewN ?_ _))⟩

theorem l02SamePlain_any (P Q : Nat)
  (A B A2 B2 : Option Addr) (n m n2 m2 c d c2 d2 : Nat) (s l s2 l2 : Int) (f f2 : Nat → Int) (g g2 : Nat → Bool) (w : World) (hn : n ≤ 1048576) (hm : m ≤ 1048576) (hn2 : n2 ≤ 1048576) (hm2 : m2 ≤ 1048576)
  (hf : Cells w A n (fun i => .int .i64 (f i))) (hg : Cells w B m (fun i => .bool (g i))) (hf2 : Cells w A2 n2 (fun i => .int .i64 (f2 i))) (hg2 : Cells w B2 m2 (fun i => .bool (g2 i)))
  (b : Box4 w P (.int .i64 s) (.int .i64 l) (.slice A n c) (.slice B m d)) (b2 : Box4 w Q (.int .i64 s2) (.int .i64 l2) (.slice A2 n2 c2) (.slice B2 m2 d2))
  : Calls Try.prog 35 #[.pointer (some ⟨P, 0, none⟩), .pointer (some ⟨Q, 0, none⟩)] w fun e w' => e = .returned (.bool (samePB s s2 l l2 f f2 n n2 g g2 m m2)) ∧ ∃ q, w' = w.drewN q := by
  have HU := Lib.hid (show samePB s s2 l l2 f f2 n n2 g g2 m m2 = (decide (s = s2) && (decide (l = l2) && (rowEqB f f2 n n2 && rowEqB g g2 m m2))) from rfl)
  have HF := Lib.hid (fun q => l02Equal_any A A2 n n2 c c2 f f2 (w.drewN q) (by omega) (by omega) hf hf2)
  have HK := Lib.hid (fun k (hk : k < m) h => rowEqB_at (f := g) (g := g2) (m := m2) hk h)
  have HV := Lib.hid (show m = m2 → (∀ i, i < m → g i = g2 i) → rowEqB g g2 m m2 = true from fun h1 h => rowEqB_iff.2 ⟨h1, h⟩)
  have HL := Lib.hid (fun h => rowEqB_len (f := g) (g := g2) (n := m) (m := m2) h)
  have hg := Lib.hid hg
  have hg2 := Lib.hid hg2
  have BP := Lib.hid b
  have BQ := Lib.hid b2
  clear b b2 hf hf2
  generalize samePB s s2 l l2 f f2 n n2 g g2 m m2 = r at *
  generalize rowEqB f f2 n n2 = r1 at *
  generalize rowEqB g g2 m m2 = r2 at *
  obtain ⟨a0, a1, a2, a3⟩ := BP.out
  obtain ⟨b0, b1, b2, b3⟩ := BQ.out
  by_cases hs : s = s2
  · subst hs
    by_cases hl : l = l2
    · subst hl
      cases r1
      · go_enter Try.func35, Try.ntmps35
        go_wp2_with fail
        go_quiet (exact Calls.quiet_of (HF.out _))
        go_wp2_with fail
        go_ret
        exact ⟨ret_bool (by rw [HU.out]; simp), _, rfl⟩
      · by_cases hmm : m = m2
        · subst hmm
          go_enter Try.func35, Try.ntmps35
          go_wp2_with fail
          go_quiet (exact Calls.quiet_of (HF.out _))
          go_wp2_with fail
          go_loopw [5] (fun i wr => ∃ k q : Nat, k ≤ m ∧ i = .int .i64 k ∧ Hid (wr = w.drewN q) ∧ Hid (∀ j, j < k → g j = g2 j)) (fun i _ => m - (intOf i).toNat)
          case atStart => exact ⟨0, _, Nat.zero_le _, rfl, rfl, fun j hj => by omega⟩
          case round =>
            obtain ⟨k, q, hk, rfl, hw, HA⟩ := hrel
            have BP2 := Lib.hid (show Box4 wr P _ _ _ _ by rw [hw.out]; exact BP.out.drewN q)
            have BQ2 := Lib.hid (show Box4 wr Q _ _ _ _ by rw [hw.out]; exact BQ.out.drewN q)
            obtain ⟨r0, r1, r2', r3⟩ := BP2.out
            obtain ⟨t0, t1, t2, t3⟩ := BQ2.out
            by_cases hlt : k < m
            · have d1 : (k : Int) < m := by omega
              obtain ⟨x, rfl, hx0⟩ := hg.out k hlt
              obtain ⟨y, rfl, hy0⟩ := hg2.out k hlt
              have hx : wr.cell? (x.add k) = some (.bool (g k)) := by rw [hw.out]; exact hx0
              have hy : wr.cell? (y.add k) = some (.bool (g2 k)) := by rw [hw.out]; exact hy0
              have HN := Lib.hid (HK.out k hlt)
              have HS := Lib.hid (show g k = g2 k → ∀ j, j < k + 1 → g j = g2 j from fun e j hj => by
                rcases Nat.lt_or_ge j k with h | h
                · exact HA.out j h
                · have : j = k := by omega
                  subst this
                  exact e)
              clear hx0 hy0 HA HK HV
              generalize g k = u at *
              generalize g2 k = v at *
              by_cases e : u = v
              · have HQ := Lib.hid (HS.out e)
                subst e
                clear HN HS
                go_wp2_with fail
                go_quiet (fail)
                go_wp2_with fail
                exact ⟨⟨k + 1, q + nq, by omega, by simp, by rw [hw.out]; exact World.drewN_drewN .., HQ⟩, by simp [intOf]; omega⟩
              · have HQ := Lib.hid (HN.out e)
                have e2 : (u != v) = true := by simpa using e
                have e3 : (u == v) = false := by simpa using e
                clear HN HS
                go_wp2_with fail
                go_quiet (fail)
                go_wp2_with fail
                go_ret
                exact ⟨ret_bool (by rw [HU.out, HQ.out]; simp), _, by rw [hw.out]; exact World.drewN_drewN ..⟩
            · have d1 : ¬ (k : Int) < m := by omega
              have e : k = m := by omega
              subst e
              have HR := Lib.hid (HV.out (by trivial) HA.out)
              clear HA HK HV
              go_wp2_with fail
              go_ret
              exact ⟨ret_bool (by rw [HU.out, HR.out]; simp), _, hw.out⟩
        · have HR := Lib.hid (HL.out hmm)
          have h2 : ¬ (m : Int) = m2 := by omega
          go_enter Try.func35, Try.ntmps35
          go_wp2_with fail
          go_quiet (exact Calls.quiet_of (HF.out _))
          go_wp2_with fail
          go_ret
          exact ⟨ret_bool (by rw [HU.out, HR.out]; simp), _, rfl⟩
    · have h2 : (l != l2) = true := by simpa using hl
      go_enter Try.func35, Try.ntmps35
      go_wp2_with fail
      go_quiet (fail)
      go_wp2_with fail
      go_ret
      exact ⟨ret_bool (by rw [HU.out]; simp [hl]), _, rfl⟩
  · have h2 : (s != s2) = true := by simpa using hs
    go_enter Try.func35, Try.ntmps35
    go_wp2_with fail
    go_quiet (fail)
    go_wp2_with fail
    go_ret
    exact ⟨ret_bool (by rw [HU.out]; simp [hs]), _, rfl⟩

end Go.Proofs.Yteagfbedbbnomaa
