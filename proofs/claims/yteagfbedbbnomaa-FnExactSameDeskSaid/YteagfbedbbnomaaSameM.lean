/- Machines compared, on both sides. -/
import Derived.Test.YteagfbedbbnomaaRowEq
import Derived.Test.YteagfbedbbnomaaArcEq
import Derived.Test.YteagfbedbbnomaaMachM
import Derived.Laws.StructEq
set_option linter.unusedVariables false
namespace Go.Proofs.Yteagfbedbbnomaa
open Go.RowKit


set_option maxRecDepth 20000 in
set_option maxHeartbeats 1000000 in
theorem slicesEqualA_any (A B : Option Addr) (n m c d : Nat) (f g : Nat → Int) (w : World) (hn : n ≤ 1048576) (hm : m ≤ 1048576) (hf : Cells w A (n * 4) (fun i => .int .i64 (f i))) (hg : Cells w B (m * 4) (fun i => .int .i64 (g i))) :
    Calls Try.prog 69 #[.slice A n c, .slice B m d] w fun e w' => e = .returned (.bool (arcEqB f g n m)) ∧ ∃ q, w' = w.drewN q := by
  by_cases hl : n = m
  · subst hl
    have HK := Lib.hid (fun k (hk : k < n) h => arcEqB_at (f := f) (g := g) (m := n) hk h)
    have HV := Lib.hid (show (∀ i, i < n → quadB f g i = true) → arcEqB f g n n = true from fun h => arcEqB_iff.2 ⟨rfl, h⟩)
    have HF := Lib.hid hf
    have HG := Lib.hid hg
    clear hf hg
    generalize arcEqB f g n n = r at *
    go_enter Try.func69, Try.ntmps69
    go_wp2_with fail
    go_loopw [5, 13] (fun _ r wr => ∃ k q : Nat, k ≤ n ∧ r = .int .i64 k ∧ Hid (wr = w.drewN q) ∧ Hid (∀ j, j < k → quadB f g j = true)) (fun _ r _ => n - (intOf r).toNat)
    case atStart => exact ⟨0, 0, Nat.zero_le _, rfl, rfl, fun j hj => by omega⟩
    case round =>
      obtain ⟨k, q, hk, rfl, hw, HA⟩ := hrel
      by_cases hlt : k < n
      · have d1 : (k : Int) < n := by omega
        obtain ⟨x, rfl, -⟩ := HF.out (k * 4) (by omega)
        obtain ⟨y, rfl, -⟩ := HG.out (k * 4) (by omega)
        obtain ⟨p0, p1, p2, p3⟩ := four (wr := wr) HF.out hlt fun p hp => by rw [hw.out]; rfl
        obtain ⟨q0, q1, q2, q3⟩ := four (wr := wr) HG.out hlt fun p hp => by rw [hw.out]; rfl
        have HN := Lib.hid (HK.out k hlt)
        have HS := Lib.hid (show quadB f g k = true → ∀ j, j < k + 1 → quadB f g j = true from fun e j hj => by
          rcases Nat.lt_or_ge j k with h | h
          · exact HA.out j h
          · have : j = k := by omega
            subst this
            exact e)
        have HD := Lib.hid (show quadB f g k = (decide (f (k * 4) = g (k * 4)) && (decide (f (k * 4 + 1) = g (k * 4 + 1)) && (decide (f (k * 4 + 2) = g (k * 4 + 2)) && decide (f (k * 4 + 3) = g (k * 4 + 3))))) from rfl)
        clear HA HK HV
        generalize quadB f g k = rq at *
        generalize f (k * 4) = u0 at *
        generalize f (k * 4 + 1) = u1 at *
        generalize f (k * 4 + 2) = u2 at *
        generalize f (k * 4 + 3) = u3 at *
        generalize g (k * 4) = v0 at *
        generalize g (k * 4 + 1) = v1 at *
        generalize g (k * 4 + 2) = v2 at *
        generalize g (k * 4 + 3) = v3 at *
        by_cases e0 : u0 = v0
        · subst e0
          by_cases e1 : u1 = v1
          · subst e1
            by_cases e2 : u2 = v2
            · subst e2
              by_cases e3 : u3 = v3
              · subst e3
                have HQ := Lib.hid (HS.out (by rw [HD.out]; simp))
                clear HN HS HD
                go_wp2_with fail
                go_quiet (fail)
                go_wp2_with fail
                exact ⟨⟨k + 1, q + nq, by omega, by simp, by rw [hw.out]; exact World.drewN_drewN .., HQ⟩, by simp [intOf]; omega⟩
              · have HQ := Lib.hid (HN.out (by rw [HD.out]; simp [e3]))
                have b : (u3 == v3) = false := by simpa using e3
                clear HN HS HD e3
                go_wp2_with fail
                go_quiet (fail)
                go_wp2_with fail
                go_ret
                exact ⟨ret_bool HQ.out.symm, _, by rw [hw.out]; exact World.drewN_drewN ..⟩
            · have HQ := Lib.hid (HN.out (by rw [HD.out]; simp [e2]))
              have b : (u2 == v2) = false := by simpa using e2
              clear HN HS HD e2
              go_wp2_with fail
              go_quiet (fail)
              go_wp2_with fail
              go_ret
              exact ⟨ret_bool HQ.out.symm, _, by rw [hw.out]; exact World.drewN_drewN ..⟩
          · have HQ := Lib.hid (HN.out (by rw [HD.out]; simp [e1]))
            have b : (u1 == v1) = false := by simpa using e1
            clear HN HS HD e1
            go_wp2_with fail
            go_quiet (fail)
            go_wp2_with fail
            go_ret
            exact ⟨ret_bool HQ.out.symm, _, by rw [hw.out]; exact World.drewN_drewN ..⟩
        · have HQ := Lib.hid (HN.out (by rw [HD.out]; simp [e0]))
          have b : (u0 == v0) = false := by simpa using e0
          clear HN HS HD e0
          go_wp2_with fail
          go_quiet (fail)
          go_wp2_with fail
          go_ret
          exact ⟨ret_bool HQ.out.symm, _, by rw [hw.out]; exact World.drewN_drewN ..⟩
      · have d1 : ¬ (k : Int) < n := by omega
        have e : k = n := by omega
        subst e
        have HR := Lib.hid (HV.out HA.out)
        clear HA HK HV
        go_wp2_with fail
        go_ret
        exact ⟨ret_bool HR.out.symm, _, hw.out⟩
  · have HR := Lib.hid (arcEqB_len (f := f) (g := g) hl)
    have d1 : ¬ (n : Int) = m := by omega
    clear hf hg
    go_enter Try.func69, Try.ntmps69
    go_wp2_with fail
    go_ret
    exact ⟨ret_bool HR.out.symm, 0, rfl⟩

def sameMB (s s2 l l2 : Int) (f f2 : Nat → Int) (n n2 : Nat) (g g2 : Nat → Int) (m m2 : Nat) (h h2 : Nat → Int) (o o2 : Nat) : Bool :=
  decide (s = s2) && (decide (l = l2) && (arcEqB f f2 n n2 && (rowEqB g g2 m m2 && rowEqB h h2 o o2)))

theorem implSameMachine_any
  (s l : Int) (A B C : Option Addr) (n c m d o q : Nat) (f k h : Nat → Int) (s2 l2 : Int) (A2 B2 C2 : Option Addr) (n2 c2 m2 d2 o2 q2 : Nat) (g k2 h2 : Nat → Int) (w : World)
  (hn : n ≤ 1048576) (hm : m ≤ 1048576) (ho : o ≤ 1048576) (hf : Cells w A (n * 4) (fun i => .int .i64 (f i))) (hk : Cells w B m (fun i => .int .i64 (k i))) (hh : Cells w C o (fun i => .int .i64 (h i)))
  (hn2 : n2 ≤ 1048576) (hm2 : m2 ≤ 1048576) (ho2 : o2 ≤ 1048576) (hf2 : Cells w A2 (n2 * 4) (fun i => .int .i64 (g i))) (hk2 : Cells w B2 m2 (fun i => .int .i64 (k2 i))) (hh2 : Cells w C2 o2 (fun i => .int .i64 (h2 i)))
  : Calls Try.prog 38 #[.agg #[.int .i64 s, .int .i64 l, .slice A n c, .slice B m d, .slice C o q], .agg #[.int .i64 s2, .int .i64 l2, .slice A2 n2 c2, .slice B2 m2 d2, .slice C2 o2 q2]] w fun e w' => e = .returned (.bool (sameMB s s2 l l2 f g n n2 k k2 m m2 h h2 o o2)) ∧ Below w.heap.size w w' := by
  have HU := Lib.hid (show sameMB s s2 l l2 f g n n2 k k2 m m2 h h2 o o2 = (decide (s = s2) && (decide (l = l2) && (arcEqB f g n n2 && (rowEqB k k2 m m2 && rowEqB h h2 o o2)))) from rfl)
  have HF := Lib.hid (fun W h1 h2 => slicesEqualA_any A A2 n n2 c c2 f g W hn hn2 h1 h2)
  have HG := Lib.hid (fun W h1 h2 => slicesEqualI_any B B2 m m2 d d2 k k2 W (by omega) (by omega) h1 h2)
  have HH := Lib.hid (fun W j1 j2 => slicesEqualI_any C C2 o o2 q q2 h h2 W (by omega) (by omega) j1 j2)
  have hf := Lib.hid hf
  have hk := Lib.hid hk
  have hh := Lib.hid hh
  have hf2 := Lib.hid hf2
  have hk2 := Lib.hid hk2
  have hh2 := Lib.hid hh2
  generalize sameMB s s2 l l2 f g n n2 k k2 m m2 h h2 o o2 = r at *
  generalize arcEqB f g n n2 = r1 at *
  generalize rowEqB k k2 m m2 = r2 at *
  generalize rowEqB h h2 o o2 = r3 at *
  by_cases hs : s = s2
  · subst hs
    by_cases hl : l = l2
    · subst hl
      cases r1
      · go_enter Try.func38, Try.ntmps38
        go_wp2_with fail
        refine (HF.out _ (hf.out.below (by repeat (first | exact Below.refl _ _ | exact Hid.out (by assumption) | refine below_alloc ?_ _ | refine Below.setCell ?_ (by simp <;> omega) _ | refine Below.alloc ?_ (by simp <;> omega) _ | refine Below.drew ?_ | refine below_drewN ?_ _))) (hf2.out.below (by repeat (first | exact Below.refl _ _ | exact Hid.out (by assumption) | refine below_alloc ?_ _ | refine Below.setCell ?_ (by simp <;> omega) _ | refine Below.alloc ?_ (by simp <;> omega) _ | refine Below.drew ?_ | refine below_drewN ?_ _)))).mono ?_
        rintro e w1 ⟨rfl, q, rfl⟩
        go_wp2_with fail
        go_ret
        exact ⟨ret_bool (by rw [HU.out]; simp), (by repeat (first | exact Below.refl _ _ | exact Hid.out (by assumption) | refine below_alloc ?_ _ | refine Below.setCell ?_ (by simp <;> omega) _ | refine Below.alloc ?_ (by simp <;> omega) _ | refine Below.drew ?_ | refine below_drewN ?_ _))⟩
      · cases r2
        · go_enter Try.func38, Try.ntmps38
          go_wp2_with fail
          refine (HF.out _ (hf.out.below (by repeat (first | exact Below.refl _ _ | exact Hid.out (by assumption) | refine below_alloc ?_ _ | refine Below.setCell ?_ (by simp <;> omega) _ | refine Below.alloc ?_ (by simp <;> omega) _ | refine Below.drew ?_ | refine below_drewN ?_ _))) (hf2.out.below (by repeat (first | exact Below.refl _ _ | exact Hid.out (by assumption) | refine below_alloc ?_ _ | refine Below.setCell ?_ (by simp <;> omega) _ | refine Below.alloc ?_ (by simp <;> omega) _ | refine Below.drew ?_ | refine below_drewN ?_ _)))).mono ?_
          rintro e w1 ⟨rfl, q, rfl⟩
          go_wp2_with fail
          refine (HG.out _ (hk.out.below (by repeat (first | exact Below.refl _ _ | exact Hid.out (by assumption) | refine below_alloc ?_ _ | refine Below.setCell ?_ (by simp <;> omega) _ | refine Below.alloc ?_ (by simp <;> omega) _ | refine Below.drew ?_ | refine below_drewN ?_ _))) (hk2.out.below (by repeat (first | exact Below.refl _ _ | exact Hid.out (by assumption) | refine below_alloc ?_ _ | refine Below.setCell ?_ (by simp <;> omega) _ | refine Below.alloc ?_ (by simp <;> omega) _ | refine Below.drew ?_ | refine below_drewN ?_ _)))).mono ?_
          rintro e w1 ⟨rfl, q2, rfl⟩
          go_wp2_with fail
          go_ret
          exact ⟨ret_bool (by rw [HU.out]; simp), (by repeat (first | exact Below.refl _ _ | exact Hid.out (by assumption) | refine below_alloc ?_ _ | refine Below.setCell ?_ (by simp <;> omega) _ | refine Below.alloc ?_ (by simp <;> omega) _ | refine Below.drew ?_ | refine below_drewN ?_ _))⟩
        · go_enter Try.func38, Try.ntmps38
          go_wp2_with fail
          refine (HF.out _ (hf.out.below (by repeat (first | exact Below.refl _ _ | exact Hid.out (by assumption) | refine below_alloc ?_ _ | refine Below.setCell ?_ (by simp <;> omega) _ | refine Below.alloc ?_ (by simp <;> omega) _ | refine Below.drew ?_ | refine below_drewN ?_ _))) (hf2.out.below (by repeat (first | exact Below.refl _ _ | exact Hid.out (by assumption) | refine below_alloc ?_ _ | refine Below.setCell ?_ (by simp <;> omega) _ | refine Below.alloc ?_ (by simp <;> omega) _ | refine Below.drew ?_ | refine below_drewN ?_ _)))).mono ?_
          rintro e w1 ⟨rfl, q, rfl⟩
          go_wp2_with fail
          refine (HG.out _ (hk.out.below (by repeat (first | exact Below.refl _ _ | exact Hid.out (by assumption) | refine below_alloc ?_ _ | refine Below.setCell ?_ (by simp <;> omega) _ | refine Below.alloc ?_ (by simp <;> omega) _ | refine Below.drew ?_ | refine below_drewN ?_ _))) (hk2.out.below (by repeat (first | exact Below.refl _ _ | exact Hid.out (by assumption) | refine below_alloc ?_ _ | refine Below.setCell ?_ (by simp <;> omega) _ | refine Below.alloc ?_ (by simp <;> omega) _ | refine Below.drew ?_ | refine below_drewN ?_ _)))).mono ?_
          rintro e w1 ⟨rfl, q2, rfl⟩
          go_wp2_with fail
          refine (HH.out _ (hh.out.below (by repeat (first | exact Below.refl _ _ | exact Hid.out (by assumption) | refine below_alloc ?_ _ | refine Below.setCell ?_ (by simp <;> omega) _ | refine Below.alloc ?_ (by simp <;> omega) _ | refine Below.drew ?_ | refine below_drewN ?_ _))) (hh2.out.below (by repeat (first | exact Below.refl _ _ | exact Hid.out (by assumption) | refine below_alloc ?_ _ | refine Below.setCell ?_ (by simp <;> omega) _ | refine Below.alloc ?_ (by simp <;> omega) _ | refine Below.drew ?_ | refine below_drewN ?_ _)))).mono ?_
          rintro e w1 ⟨rfl, q3, rfl⟩
          go_wp2_with fail
          go_ret
          exact ⟨ret_bool (by rw [HU.out]; simp), (by repeat (first | exact Below.refl _ _ | exact Hid.out (by assumption) | refine below_alloc ?_ _ | refine Below.setCell ?_ (by simp <;> omega) _ | refine Below.alloc ?_ (by simp <;> omega) _ | refine Below.drew ?_ | refine below_drewN ?_ _))⟩
    · have b : (l == l2) = false := by simpa using hl
      go_enter Try.func38, Try.ntmps38
      go_wp2_with fail
      go_ret
      exact ⟨ret_bool (by rw [HU.out]; simp [hl]), (by repeat (first | exact Below.refl _ _ | exact Hid.out (by assumption) | refine below_alloc ?_ _ | refine Below.setCell ?_ (by simp <;> omega) _ | refine Below.alloc ?_ (by simp <;> omega) _ | refine Below.drew ?_ | refine below_drewN ?_ _))⟩
  · have b : (s == s2) = false := by simpa using hs
    go_enter Try.func38, Try.ntmps38
    go_wp2_with fail
    go_ret
    exact ⟨ret_bool (by rw [HU.out]; simp [hs]), (by repeat (first | exact Below.refl _ _ | exact Hid.out (by assumption) | refine below_alloc ?_ _ | refine Below.setCell ?_ (by simp <;> omega) _ | refine Below.alloc ?_ (by simp <;> omega) _ | refine Below.drew ?_ | refine below_drewN ?_ _))⟩

set_option maxRecDepth 20000 in
set_option maxHeartbeats 4000000 in
theorem l02Same_any (P Q : Nat)
  (s l : Int) (A B C : Option Addr) (n c m d o q : Nat) (f k h : Nat → Int) (s2 l2 : Int) (A2 B2 C2 : Option Addr) (n2 c2 m2 d2 o2 q2 : Nat) (g k2 h2 : Nat → Int) (w : World)
  (hn : n ≤ 1048576) (hm : m ≤ 1048576) (ho : o ≤ 1048576) (hf : Cells w A (n * 4) (fun i => .int .i64 (f i))) (hk : Cells w B m (fun i => .int .i64 (k i))) (hh : Cells w C o (fun i => .int .i64 (h i)))
  (hn2 : n2 ≤ 1048576) (hm2 : m2 ≤ 1048576) (ho2 : o2 ≤ 1048576) (hf2 : Cells w A2 (n2 * 4) (fun i => .int .i64 (g i))) (hk2 : Cells w B2 m2 (fun i => .int .i64 (k2 i))) (hh2 : Cells w C2 o2 (fun i => .int .i64 (h2 i)))
  (b : Box5 w P (.int .i64 s) (.int .i64 l) (.slice A n c) (.slice B m d) (.slice C o q)) (b2 : Box5 w Q (.int .i64 s2) (.int .i64 l2) (.slice A2 n2 c2) (.slice B2 m2 d2) (.slice C2 o2 q2))
  : Calls Try.prog 34 #[.pointer (some ⟨P, 0, none⟩), .pointer (some ⟨Q, 0, none⟩)] w fun e w' => e = .returned (.bool (sameMB s s2 l l2 f g n n2 k k2 m m2 h h2 o o2)) ∧ ∃ q, w' = w.drewN q := by
  have HU := Lib.hid (show sameMB s s2 l l2 f g n n2 k k2 m m2 h h2 o o2 = (decide (s = s2) && (decide (l = l2) && (arcEqB f g n n2 && (rowEqB k k2 m m2 && rowEqB h h2 o o2)))) from rfl)
  have HG := Lib.hid (fun u => l02Equal_any B B2 m m2 d d2 k k2 (w.drewN u) (by omega) (by omega) hk hk2)
  have HH := Lib.hid (fun u => l02Equal_any C C2 o o2 q q2 h h2 (w.drewN u) (by omega) (by omega) hh hh2)
  have HK := Lib.hid (fun j (hj : j < n) e => arcEqB_at (f := f) (g := g) (m := n2) hj e)
  have HV := Lib.hid (show n = n2 → (∀ i, i < n → quadB f g i = true) → arcEqB f g n n2 = true from fun h1 h => arcEqB_iff.2 ⟨h1, h⟩)
  have HL := Lib.hid (fun e => arcEqB_len (f := f) (g := g) (n := n) (m := n2) e)
  have HF := Lib.hid hf
  have HF2 := Lib.hid hf2
  have BP := Lib.hid b
  have BQ := Lib.hid b2
  clear b b2 hf hf2 hk hk2 hh hh2
  generalize sameMB s s2 l l2 f g n n2 k k2 m m2 h h2 o o2 = r at *
  generalize arcEqB f g n n2 = r1 at *
  generalize rowEqB k k2 m m2 = r2 at *
  generalize rowEqB h h2 o o2 = r3 at *
  clear k k2 h h2
  obtain ⟨a0, a1, a2, a3, a4⟩ := BP.out
  obtain ⟨b0, b1, b2, b3, b4⟩ := BQ.out
  by_cases hs : s = s2
  · subst hs
    by_cases hl : l = l2
    · subst hl
      by_cases hnn : n = n2
      · subst hnn
        cases r2
        · go_enter Try.func34, Try.ntmps34
          go_wp2_with fail
          go_quiet (exact Calls.quiet_of (HG.out _))
          go_wp2_with fail
          go_ret
          exact ⟨ret_bool (by rw [HU.out]; simp), _, rfl⟩
        · cases r3
          · go_enter Try.func34, Try.ntmps34
            go_wp2_with fail
            go_quiet ((first | (go_at_call_of 37 (Value.slice B m d); exact Calls.quiet_of (HG.out _)) | (go_at_call_of 37 (Value.slice C o q); exact Calls.quiet_of (HH.out _))))
            go_wp2_with fail
            go_ret
            exact ⟨ret_bool (by rw [HU.out]; simp), _, rfl⟩
          · go_enter Try.func34, Try.ntmps34
            go_wp2_with fail
            go_quiet ((first | (go_at_call_of 37 (Value.slice B m d); exact Calls.quiet_of (HG.out _)) | (go_at_call_of 37 (Value.slice C o q); exact Calls.quiet_of (HH.out _))))
            go_wp2_with fail
            go_loopw [5] (fun i wr => ∃ k q : Nat, k ≤ n ∧ i = .int .i64 k ∧ Hid (wr = w.drewN q) ∧ Hid (∀ j, j < k → quadB f g j = true)) (fun i _ => n - (intOf i).toNat)
            case atStart => exact ⟨0, _, Nat.zero_le _, rfl, rfl, fun j hj => by omega⟩
            case round =>
              obtain ⟨k, q, hk, rfl, hw, HA⟩ := hrel
              have BP2 := Lib.hid (show Box5 wr P _ _ _ _ _ by rw [hw.out]; exact BP.out.drewN q)
              have BQ2 := Lib.hid (show Box5 wr Q _ _ _ _ _ by rw [hw.out]; exact BQ.out.drewN q)
              obtain ⟨y0, y1, y2, y3, y4⟩ := BP2.out
              obtain ⟨z0, z1, z2, z3, z4⟩ := BQ2.out
              by_cases hlt : k < n
              · have d1 : (k : Int) < n := by omega
                obtain ⟨x, rfl, -⟩ := HF.out (k * 4) (by omega)
                obtain ⟨y, rfl, -⟩ := HF2.out (k * 4) (by omega)
                obtain ⟨p0, p1, p2, p3⟩ := four (wr := wr) HF.out hlt fun p hp => by rw [hw.out]; rfl
                obtain ⟨q0, q1, q2, q3⟩ := four (wr := wr) HF2.out hlt fun p hp => by rw [hw.out]; rfl
                have HN := Lib.hid (HK.out k hlt)
                have HS := Lib.hid (show quadB f g k = true → ∀ j, j < k + 1 → quadB f g j = true from fun e j hj => by
                  rcases Nat.lt_or_ge j k with h | h
                  · exact HA.out j h
                  · have : j = k := by omega
                    subst this
                    exact e)
                have HD := Lib.hid (show quadB f g k = (decide (f (k * 4) = g (k * 4)) && (decide (f (k * 4 + 1) = g (k * 4 + 1)) && (decide (f (k * 4 + 2) = g (k * 4 + 2)) && decide (f (k * 4 + 3) = g (k * 4 + 3))))) from rfl)
                clear HA HK HV
                generalize quadB f g k = rq at *
                generalize f (k * 4) = u0 at *
                generalize f (k * 4 + 1) = u1 at *
                generalize f (k * 4 + 2) = u2 at *
                generalize f (k * 4 + 3) = u3 at *
                generalize g (k * 4) = v0 at *
                generalize g (k * 4 + 1) = v1 at *
                generalize g (k * 4 + 2) = v2 at *
                generalize g (k * 4 + 3) = v3 at *
                by_cases e0 : u0 = v0
                · subst e0
                  by_cases e1 : u1 = v1
                  · subst e1
                    by_cases e2 : u2 = v2
                    · subst e2
                      by_cases e3 : u3 = v3
                      · subst e3
                        have HQ := Lib.hid (HS.out (by rw [HD.out]; simp))
                        clear HN HS HD
                        go_wp2_with fail
                        go_quiet (fail)
                        go_wp2_with fail
                        exact ⟨⟨k + 1, q + nq, by omega, by simp, by rw [hw.out]; exact World.drewN_drewN .., HQ⟩, by simp [intOf]; omega⟩
                      · have HQ := Lib.hid (HN.out (by rw [HD.out]; simp [e3]))
                        have b : (u3 == v3) = false := by simpa using e3
                        clear HN HS HD e3
                        go_wp2_with fail
                        go_quiet (fail)
                        go_wp2_with fail
                        go_ret
                        exact ⟨ret_bool (by rw [HU.out, HQ.out]; simp), _, by rw [hw.out]; exact World.drewN_drewN ..⟩
                    · have HQ := Lib.hid (HN.out (by rw [HD.out]; simp [e2]))
                      have b : (u2 == v2) = false := by simpa using e2
                      clear HN HS HD e2
                      go_wp2_with fail
                      go_quiet (fail)
                      go_wp2_with fail
                      go_ret
                      exact ⟨ret_bool (by rw [HU.out, HQ.out]; simp), _, by rw [hw.out]; exact World.drewN_drewN ..⟩
                  · have HQ := Lib.hid (HN.out (by rw [HD.out]; simp [e1]))
                    have b : (u1 == v1) = false := by simpa using e1
                    clear HN HS HD e1
                    go_wp2_with fail
                    go_quiet (fail)
                    go_wp2_with fail
                    go_ret
                    exact ⟨ret_bool (by rw [HU.out, HQ.out]; simp), _, by rw [hw.out]; exact World.drewN_drewN ..⟩
                · have HQ := Lib.hid (HN.out (by rw [HD.out]; simp [e0]))
                  have b : (u0 == v0) = false := by simpa using e0
                  clear HN HS HD e0
                  go_wp2_with fail
                  go_quiet (fail)
                  go_wp2_with fail
                  go_ret
                  exact ⟨ret_bool (by rw [HU.out, HQ.out]; simp), _, by rw [hw.out]; exact World.drewN_drewN ..⟩
              · have d1 : ¬ (k : Int) < n := by omega
                have e : k = n := by omega
                subst e
                have HR := Lib.hid (HV.out (by trivial) HA.out)
                clear HA HK HV
                go_wp2_with fail
                go_ret
                exact ⟨ret_bool (by rw [HU.out, HR.out]; simp), _, hw.out⟩
      · have HR := Lib.hid (HL.out hnn)
        have e2 : ((n : Int) != n2) = true := by simp; omega
        clear HK HV HL HF HF2 HG HH hnn
        go_enter Try.func34, Try.ntmps34
        go_wp2_with fail
        go_quiet (fail)
        go_wp2_with fail
        go_ret
        exact ⟨ret_bool (by rw [HU.out, HR.out]; simp), _, rfl⟩
    · have e2 : (l != l2) = true := by simpa using hl
      go_enter Try.func34, Try.ntmps34
      go_wp2_with fail
      go_quiet (fail)
      go_wp2_with fail
      go_ret
      exact ⟨ret_bool (by rw [HU.out]; simp [hl]), _, rfl⟩
  · have e2 : (s != s2) = true := by simpa using hs
    go_enter Try.func34, Try.ntmps34
    go_wp2_with fail
    go_quiet (fail)
    go_wp2_with fail
    go_ret
    exact ⟨ret_bool (by rw [HU.out]; simp [hs]), _, rfl⟩

end Go.Proofs.Yteagfbedbbnomaa
