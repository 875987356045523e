/- Machines with two sides compared, on both sides. -/
import Derived.Test.YtdgegekjjnghmaaRowEq
import Derived.Test.YtdgegekjjnghmaaPairEq
import Derived.Test.YtdgegekjjnghmaaSidedM
set_option linter.unusedVariables false
namespace Go.Proofs.Ytdgegekjjnghmaa
open Go.RowKit
def sameSidedB (s s2 : Int) (l l2 : Int) (f f2 : Nat → Int) (n n2 : Nat) (g g2 : Nat → Bool) (m m2 : Nat) : Bool := decide (s = s2) && (decide (l = l2) && (arcEqB f f2 n n2 && (rowEqB g g2 m m2)))
theorem implSameSided_any
  (s l : Int) (A B : Option Addr) (n c m d : Nat) (f : Nat → Int) (g : Nat → Bool) (s2 l2 : Int) (A2 B2 : Option Addr) (n2 c2 m2 d2 : Nat) (f2 : Nat → Int) (g2 : Nat → Bool) (w : World)
  (hn : n ≤ 1048576) (hm : m ≤ 1048576) (hA : Cells w A (n * 4) (fun i => .int .i64 (f i))) (hB : Cells w B m (fun i => .bool (g i)))
  (hn2 : n2 ≤ 1048576) (hm2 : m2 ≤ 1048576) (hA2 : Cells w A2 (n2 * 4) (fun i => .int .i64 (f2 i))) (hB2 : Cells w B2 m2 (fun i => .bool (g2 i)))
  : Calls Try.prog 21 #[.agg #[.int .i64 s, .int .i64 l, .slice A n c, .slice B m d], .agg #[.int .i64 s2, .int .i64 l2, .slice A2 n2 c2, .slice B2 m2 d2]] w fun e w' => e = .returned (.bool (sameSidedB s s2 l l2 f f2 n n2 g g2 m m2)) ∧ Below w.heap.size w w' := by
  have HU := Lib.hid (show sameSidedB s s2 l l2 f f2 n n2 g g2 m m2 = (decide (s = s2) && (decide (l = l2) && (arcEqB f f2 n n2 && (rowEqB g g2 m m2)))) from rfl)
  have HF0 := Lib.hid (fun W y1 y2 => slicesEqualPairArc_any A A2 n n2 c c2 f f2 W (by omega) (by omega) y1 y2)
  have HF1 := Lib.hid (fun W y1 y2 => slicesEqualB_any B B2 m m2 d d2 g g2 W (by omega) (by omega) y1 y2)
  have hA := Lib.hid hA
  have hA2 := Lib.hid hA2
  have hB := Lib.hid hB
  have hB2 := Lib.hid hB2
  generalize sameSidedB s s2 l l2 f f2 n n2 g g2 m m2 = r at *
  generalize arcEqB f f2 n n2 = r0 at *
  generalize rowEqB g g2 m m2 = r1 at *
  by_cases hs : s = s2
  rotate_left
  · have bs : (s == s2) = false := by simpa using hs
    go_enter Try.func21, Try.ntmps21
    go_wp2_with fail
    go_ret
    exact ⟨ret_bool (by rw [HU.out]; simp [hs]), (by repeat (first | exact Below.refl _ _ | exact Hid.out (by assumption) | refine below_alloc ?_ _ | refine Below.setCell ?_ (by simp <;> omega) _ | refine Below.alloc ?_ (by simp <;> omega) _ | refine Below.drew ?_ | refine below_drewN ?_ _))⟩
  subst hs
  by_cases hl : l = l2
  rotate_left
  · have bl : (l == l2) = false := by simpa using hl
    go_enter Try.func21, Try.ntmps21
    go_wp2_with fail
    go_ret
    exact ⟨ret_bool (by rw [HU.out]; simp [hl]), (by repeat (first | exact Below.refl _ _ | exact Hid.out (by assumption) | refine below_alloc ?_ _ | refine Below.setCell ?_ (by simp <;> omega) _ | refine Below.alloc ?_ (by simp <;> omega) _ | refine Below.drew ?_ | refine below_drewN ?_ _))⟩
  subst hl
  cases r0
  · skip
    go_enter Try.func21, Try.ntmps21
    go_wp2_with fail
    refine (HF0.out _ (hA.out.below (by repeat (first | exact Below.refl _ _ | exact Hid.out (by assumption) | refine below_alloc ?_ _ | refine Below.setCell ?_ (by simp <;> omega) _ | refine Below.alloc ?_ (by simp <;> omega) _ | refine Below.drew ?_ | refine below_drewN ?_ _))) (hA2.out.below (by repeat (first | exact Below.refl _ _ | exact Hid.out (by assumption) | refine below_alloc ?_ _ | refine Below.setCell ?_ (by simp <;> omega) _ | refine Below.alloc ?_ (by simp <;> omega) _ | refine Below.drew ?_ | refine below_drewN ?_ _)))).mono ?_
    rintro e w0 ⟨rfl, j0, rfl⟩
    go_wp2_with fail
    go_ret
    exact ⟨ret_bool (by rw [HU.out] <;> simp), (by repeat (first | exact Below.refl _ _ | exact Hid.out (by assumption) | refine below_alloc ?_ _ | refine Below.setCell ?_ (by simp <;> omega) _ | refine Below.alloc ?_ (by simp <;> omega) _ | refine Below.drew ?_ | refine below_drewN ?_ _))⟩
  go_enter Try.func21, Try.ntmps21
  go_wp2_with fail
  refine (HF0.out _ (hA.out.below (by repeat (first | exact Below.refl _ _ | exact Hid.out (by assumption) | refine below_alloc ?_ _ | refine Below.setCell ?_ (by simp <;> omega) _ | refine Below.alloc ?_ (by simp <;> omega) _ | refine Below.drew ?_ | refine below_drewN ?_ _))) (hA2.out.below (by repeat (first | exact Below.refl _ _ | exact Hid.out (by assumption) | refine below_alloc ?_ _ | refine Below.setCell ?_ (by simp <;> omega) _ | refine Below.alloc ?_ (by simp <;> omega) _ | refine Below.drew ?_ | refine below_drewN ?_ _)))).mono ?_
  rintro e w0 ⟨rfl, j0, rfl⟩
  go_wp2_with fail
  refine (HF1.out _ (hB.out.below (by repeat (first | exact Below.refl _ _ | exact Hid.out (by assumption) | refine below_alloc ?_ _ | refine Below.setCell ?_ (by simp <;> omega) _ | refine Below.alloc ?_ (by simp <;> omega) _ | refine Below.drew ?_ | refine below_drewN ?_ _))) (hB2.out.below (by repeat (first | exact Below.refl _ _ | exact Hid.out (by assumption) | refine below_alloc ?_ _ | refine Below.setCell ?_ (by simp <;> omega) _ | refine Below.alloc ?_ (by simp <;> omega) _ | refine Below.drew ?_ | refine below_drewN ?_ _)))).mono ?_
  rintro e w1 ⟨rfl, j1, rfl⟩
  go_wp2_with fail
  go_ret
  exact ⟨ret_bool (by rw [HU.out] <;> simp), (by repeat (first | exact Below.refl _ _ | exact Hid.out (by assumption) | refine below_alloc ?_ _ | refine Below.setCell ?_ (by simp <;> omega) _ | refine Below.alloc ?_ (by simp <;> omega) _ | refine Below.drew ?_ | refine below_drewN ?_ _))⟩
set_option maxRecDepth 20000 in
set_option maxHeartbeats 4000000 in
theorem specSameSided_any
  (s l : Int) (A B : Option Addr) (n c m d : Nat) (f : Nat → Int) (g : Nat → Bool) (s2 l2 : Int) (A2 B2 : Option Addr) (n2 c2 m2 d2 : Nat) (f2 : Nat → Int) (g2 : Nat → Bool) (w : World)
  (hn : n ≤ 1048576) (hm : m ≤ 1048576) (hA : Cells w A (n * 4) (fun i => .int .i64 (f i))) (hB : Cells w B m (fun i => .bool (g i)))
  (hn2 : n2 ≤ 1048576) (hm2 : m2 ≤ 1048576) (hA2 : Cells w A2 (n2 * 4) (fun i => .int .i64 (f2 i))) (hB2 : Cells w B2 m2 (fun i => .bool (g2 i)))
  : Calls Try.prog 20 #[.agg #[.int .i64 s, .int .i64 l, .slice A n c, .slice B m d], .agg #[.int .i64 s2, .int .i64 l2, .slice A2 n2 c2, .slice B2 m2 d2]] w fun e w' => e = .returned (.bool (sameSidedB s s2 l l2 f f2 n n2 g g2 m m2)) ∧ Below w.heap.size w w' := by
  have HU := Lib.hid (show sameSidedB s s2 l l2 f f2 n n2 g g2 m m2 = (decide (s = s2) && (decide (l = l2) && (arcEqB f f2 n n2 && rowEqB g g2 m m2))) from rfl)
  have HK := Lib.hid (fun j (hj : j < n) e => arcEqB_at (f := f) (g := f2) (m := n2) hj e)
  have HV := Lib.hid (show n = n2 → (∀ i, i < n → quadB f f2 i = true) → arcEqB f f2 n n2 = true from fun h1 h => arcEqB_iff.2 ⟨h1, h⟩)
  have HK2 := Lib.hid (fun k (hk : k < m) h => rowEqB_at (f := g) (g := g2) (m := m2) hk h)
  have HV2 := Lib.hid (show m = m2 → (∀ i, i < m → g i = g2 i) → rowEqB g g2 m m2 = true from fun h1 h => rowEqB_iff.2 ⟨h1, h⟩)
  have HL := Lib.hid (fun e => arcEqB_len (f := f) (g := f2) (n := n) (m := n2) e)
  have HL2 := Lib.hid (fun h => rowEqB_len (f := g) (g := g2) (n := m) (m := m2) h)
  have HF := Lib.hid hA
  have HF2 := Lib.hid hA2
  have HG := Lib.hid hB
  have HG2 := Lib.hid hB2
  have X0 := Lib.hid (Box4.alloc (Box4.new w 30 (.int .i64 s) (.int .i64 l) (.slice A n c) (.slice B m d)) (.cells #[.int .i64 s2, .int .i64 l2, .slice A2 n2 c2, .slice B2 m2 d2] 30))
  have X1 := Lib.hid (show Box4 ((w.alloc (.cells #[.int .i64 s, .int .i64 l, .slice A n c, .slice B m d] 30)).alloc (.cells #[.int .i64 s2, .int .i64 l2, .slice A2 n2 c2, .slice B2 m2 d2] 30)) (w.heap.size + 1) (.int .i64 s2) (.int .i64 l2) (.slice A2 n2 c2) (.slice B2 m2 d2) from by simpa using Box4.new (w.alloc (.cells #[.int .i64 s, .int .i64 l, .slice A n c, .slice B m d] 30)) 30 (.int .i64 s2) (.int .i64 l2) (.slice A2 n2 c2) (.slice B2 m2 d2))
  clear hA hA2 hB hB2
  generalize sameSidedB s s2 l l2 f f2 n n2 g g2 m m2 = r at *
  generalize arcEqB f f2 n n2 = r1 at *
  generalize rowEqB g g2 m m2 = r2 at *
  by_cases hs : s = s2
  rotate_left
  · have HUF := Lib.hid (show r = false by rw [HU.out]; simp [hs])
    have e2 : (s != s2) = true := by simpa using hs
    clear hs X0 X1
    go_enter Try.func20, Try.ntmps20
    go_wp2_with fail
    go_ret
    exact ⟨ret_bool (by rw [HUF.out]), (by repeat (first | exact Below.refl _ _ | exact Hid.out (by assumption) | refine below_alloc ?_ _ | refine Below.setCell ?_ (by simp <;> omega) _ | refine Below.alloc ?_ (by simp <;> omega) _ | refine Below.drew ?_ | refine below_drewN ?_ _))⟩
  subst hs
  by_cases hl : l = l2
  rotate_left
  · have HUF := Lib.hid (show r = false by rw [HU.out]; simp [hl])
    have e2 : (l != l2) = true := by simpa using hl
    clear hl X0 X1
    go_enter Try.func20, Try.ntmps20
    go_wp2_with fail
    go_ret
    exact ⟨ret_bool (by rw [HUF.out]), (by repeat (first | exact Below.refl _ _ | exact Hid.out (by assumption) | refine below_alloc ?_ _ | refine Below.setCell ?_ (by simp <;> omega) _ | refine Below.alloc ?_ (by simp <;> omega) _ | refine Below.drew ?_ | refine below_drewN ?_ _))⟩
  subst hl
  by_cases hnn : n = n2
  rotate_left
  · have HUF := Lib.hid (show r = false by rw [HU.out, HL.out hnn]; simp)
    have e2 : ((n : Int) != n2) = true := by simp; omega
    clear hnn X0 X1
    go_enter Try.func20, Try.ntmps20
    go_wp2_with fail
    go_ret
    exact ⟨ret_bool (by rw [HUF.out]), (by repeat (first | exact Below.refl _ _ | exact Hid.out (by assumption) | refine below_alloc ?_ _ | refine Below.setCell ?_ (by simp <;> omega) _ | refine Below.alloc ?_ (by simp <;> omega) _ | refine Below.drew ?_ | refine below_drewN ?_ _))⟩
  subst hnn
  by_cases hmm : m = m2
  rotate_left
  · have HUF := Lib.hid (show r = false by rw [HU.out, HL2.out hmm]; simp)
    have e2 : ((m : Int) != m2) = true := by simp; omega
    clear hmm X0 X1
    go_enter Try.func20, Try.ntmps20
    go_wp2_with fail
    go_ret
    exact ⟨ret_bool (by rw [HUF.out]), (by repeat (first | exact Below.refl _ _ | exact Hid.out (by assumption) | refine below_alloc ?_ _ | refine Below.setCell ?_ (by simp <;> omega) _ | refine Below.alloc ?_ (by simp <;> omega) _ | refine Below.drew ?_ | refine below_drewN ?_ _))⟩
  subst hmm
  go_enter Try.func20, Try.ntmps20
  go_wp2_with fail
  go_loopw [5, 40] (fun _ i wr => ∃ k : Nat, k ≤ n ∧ i = .int .i64 k ∧ Hid (Below w.heap.size w wr) ∧ Hid (Box4 wr w.heap.size (.int .i64 s) (.int .i64 l) (.slice A n c) (.slice B m d)) ∧ Hid (Box4 wr (w.heap.size + 1) (.int .i64 s) (.int .i64 l) (.slice A2 n c2) (.slice B2 m d2)) ∧ Hid (∀ j, j < k → quadB f f2 j = true)) (fun _ i _ => n - (intOf i).toNat)
  case atStart => exact ⟨0, Nat.zero_le _, rfl, (by repeat (first | exact Below.refl _ _ | exact Hid.out (by assumption) | refine below_alloc ?_ _ | refine Below.setCell ?_ (by simp <;> omega) _ | refine Below.alloc ?_ (by simp <;> omega) _ | refine Below.drew ?_ | refine below_drewN ?_ _)), X0.out, X1.out, fun j hj => by omega⟩
  case round =>
    obtain ⟨k, hk, rfl, HB0, BP, BQ, HA⟩ := hrel
    obtain ⟨a0, a1, a2, a3⟩ := BP.out
    obtain ⟨b0, b1, b2, b3⟩ := BQ.out
    by_cases hlt : k < n
    · have d1 : (k : Int) < n := by omega
      obtain ⟨x, rfl, -⟩ := HF.out (k * 4) (by omega)
      obtain ⟨y, rfl, -⟩ := HF2.out (k * 4) (by omega)
      obtain ⟨p0, p1, p2, p3⟩ := four (wr := wr) HF.out hlt fun p hp => HB0.out.cell hp
      obtain ⟨q0, q1, q2, q3⟩ := four (wr := wr) HF2.out hlt fun p hp => HB0.out.cell hp
      have HN := Lib.hid (HK.out k hlt)
      have HS := Lib.hid (show quadB f f2 k = true → ∀ j, j < k + 1 → quadB f f2 j = true from fun e j hj => by
        rcases Nat.lt_or_ge j k with h | h
        · exact HA.out j h
        · have : j = k := by omega
          subst this
          exact e)
      have HD := Lib.hid (show quadB f f2 k = (decide (f (k * 4) = f2 (k * 4)) && (decide (f (k * 4 + 1) = f2 (k * 4 + 1)) && (decide (f (k * 4 + 2) = f2 (k * 4 + 2)) && decide (f (k * 4 + 3) = f2 (k * 4 + 3))))) from rfl)
      clear HA HK HV HK2 HV2 HL HL2
      generalize quadB f f2 k = rq at *
      generalize f (k * 4) = u0 at *
      generalize f (k * 4 + 1) = u1 at *
      generalize f (k * 4 + 2) = u2 at *
      generalize f (k * 4 + 3) = u3 at *
      generalize f2 (k * 4) = v0 at *
      generalize f2 (k * 4 + 1) = v1 at *
      generalize f2 (k * 4 + 2) = v2 at *
      generalize f2 (k * 4 + 3) = v3 at *
      by_cases e0 : u0 = v0
      rotate_left
      · have HQ := Lib.hid (HN.out (by rw [HD.out]; simp [e0]))
        have b : (u0 == v0) = false := by simpa using e0
        clear HN HS HD e0
        go_wp2_with fail
        go_quiet (fail)
        go_wp2_with fail
        go_ret
        exact ⟨ret_bool (by rw [HU.out, HQ.out]; simp), (by repeat (first | exact Below.refl _ _ | exact Hid.out (by assumption) | refine below_alloc ?_ _ | refine Below.setCell ?_ (by simp <;> omega) _ | refine Below.alloc ?_ (by simp <;> omega) _ | refine Below.drew ?_ | refine below_drewN ?_ _))⟩
      subst e0
      by_cases e1 : u1 = v1
      rotate_left
      · have HQ := Lib.hid (HN.out (by rw [HD.out]; simp [e1]))
        have b : (u1 == v1) = false := by simpa using e1
        clear HN HS HD e1
        go_wp2_with fail
        go_quiet (fail)
        go_wp2_with fail
        go_ret
        exact ⟨ret_bool (by rw [HU.out, HQ.out]; simp), (by repeat (first | exact Below.refl _ _ | exact Hid.out (by assumption) | refine below_alloc ?_ _ | refine Below.setCell ?_ (by simp <;> omega) _ | refine Below.alloc ?_ (by simp <;> omega) _ | refine Below.drew ?_ | refine below_drewN ?_ _))⟩
      subst e1
      by_cases e2 : u2 = v2
      rotate_left
      · have HQ := Lib.hid (HN.out (by rw [HD.out]; simp [e2]))
        have b : (u2 == v2) = false := by simpa using e2
        clear HN HS HD e2
        go_wp2_with fail
        go_quiet (fail)
        go_wp2_with fail
        go_ret
        exact ⟨ret_bool (by rw [HU.out, HQ.out]; simp), (by repeat (first | exact Below.refl _ _ | exact Hid.out (by assumption) | refine below_alloc ?_ _ | refine Below.setCell ?_ (by simp <;> omega) _ | refine Below.alloc ?_ (by simp <;> omega) _ | refine Below.drew ?_ | refine below_drewN ?_ _))⟩
      subst e2
      by_cases e3 : u3 = v3
      rotate_left
      · have HQ := Lib.hid (HN.out (by rw [HD.out]; simp [e3]))
        have b : (u3 == v3) = false := by simpa using e3
        clear HN HS HD e3
        go_wp2_with fail
        go_quiet (fail)
        go_wp2_with fail
        go_ret
        exact ⟨ret_bool (by rw [HU.out, HQ.out]; simp), (by repeat (first | exact Below.refl _ _ | exact Hid.out (by assumption) | refine below_alloc ?_ _ | refine Below.setCell ?_ (by simp <;> omega) _ | refine Below.alloc ?_ (by simp <;> omega) _ | refine Below.drew ?_ | refine below_drewN ?_ _))⟩
      subst e3
      have HQ := Lib.hid (HS.out (by rw [HD.out]; simp))
      clear HN HS HD
      go_wp2_with fail
      go_quiet (fail)
      go_wp2_with fail
      exact ⟨⟨k + 1, by omega, by simp, (by repeat (first | exact Below.refl _ _ | exact Hid.out (by assumption) | refine below_alloc ?_ _ | refine Below.setCell ?_ (by simp <;> omega) _ | refine Below.alloc ?_ (by simp <;> omega) _ | refine Below.drew ?_ | refine below_drewN ?_ _)), BP.out.drewN _, BQ.out.drewN _, HQ⟩, by simp [intOf]; omega⟩
    · have d1 : ¬ (k : Int) < n := by omega
      have e : k = n := by omega
      subst e
      have HR1 := Lib.hid (HV.out (by trivial) HA.out)
      clear HA HK HV HL HL2
      go_wp2_with fail
      go_loopw [6, 58] (fun _ i wr => ∃ j : Nat, j ≤ m ∧ i = .int .i64 j ∧ Hid (Below w.heap.size w wr) ∧ Hid (Box4 wr w.heap.size (.int .i64 s) (.int .i64 l) (.slice A k c) (.slice B m d)) ∧ Hid (Box4 wr (w.heap.size + 1) (.int .i64 s) (.int .i64 l) (.slice A2 k c2) (.slice B2 m d2)) ∧ Hid (∀ i, i < j → g i = g2 i)) (fun _ i _ => m - (intOf i).toNat)
      case atStart => exact ⟨0, Nat.zero_le _, rfl, HB0.out, BP.out, BQ.out, fun j hj => by omega⟩
      case round =>
        obtain ⟨j, hj, rfl, HB1, CP, CQ, HA⟩ := hrel
        clear a0 a1 a2 a3 b0 b1 b2 b3 BP BQ HB0 X0 X1
        obtain ⟨a0, a1, a2, a3⟩ := CP.out
        obtain ⟨b0, b1, b2, b3⟩ := CQ.out
        by_cases hlt : j < m
        · have d2 : (j : Int) < m := by omega
          obtain ⟨x, rfl, hx0⟩ := HG.out j hlt
          obtain ⟨y, rfl, hy0⟩ := HG2.out j hlt
          have hx : wr.cell? (x.add j) = some (.bool (g j)) := (HB1.out.cell (World.block_lt_of_cell? _ _ hx0)).trans hx0
          have hy : wr.cell? (y.add j) = some (.bool (g2 j)) := (HB1.out.cell (World.block_lt_of_cell? _ _ hy0)).trans hy0
          have HN := Lib.hid (HK2.out j hlt)
          have HS := Lib.hid (show g j = g2 j → ∀ i, i < j + 1 → g i = g2 i from fun e i hi => by
            rcases Nat.lt_or_ge i j with h | h
            · exact HA.out i h
            · have : i = j := by omega
              subst this
              exact e)
          clear hx0 hy0 HA HK2 HV2
          generalize g j = u at *
          generalize g2 j = v at *
          by_cases e : u = v
          · have HQ := Lib.hid (HS.out e)
            subst e
            clear HN HS
            go_wp2_with fail
            go_quiet (fail)
            go_wp2_with fail
            exact ⟨⟨j + 1, by omega, by simp, (by repeat (first | exact Below.refl _ _ | exact Hid.out (by assumption) | refine below_alloc ?_ _ | refine Below.setCell ?_ (by simp <;> omega) _ | refine Below.alloc ?_ (by simp <;> omega) _ | refine Below.drew ?_ | refine below_drewN ?_ _)), CP.out.drewN _, CQ.out.drewN _, HQ⟩, by simp [intOf]; omega⟩
          · have HQ := Lib.hid (HN.out e)
            have e2 : (u != v) = true := by simpa using e
            have e3 : (u == v) = false := by simpa using e
            clear HN HS
            go_wp2_with fail
            go_quiet (fail)
            go_wp2_with fail
            go_ret
            exact ⟨ret_bool (by rw [HU.out, HQ.out]; simp), (by repeat (first | exact Below.refl _ _ | exact Hid.out (by assumption) | refine below_alloc ?_ _ | refine Below.setCell ?_ (by simp <;> omega) _ | refine Below.alloc ?_ (by simp <;> omega) _ | refine Below.drew ?_ | refine below_drewN ?_ _))⟩
        · have d2 : ¬ (j : Int) < m := by omega
          have e : j = m := by omega
          subst e
          have HR := Lib.hid (HV2.out (by trivial) HA.out)
          clear HA HK2 HV2
          go_wp2_with fail
          go_ret
          exact ⟨ret_bool (by rw [HU.out, HR1.out, HR.out]; simp), HB1.out⟩
end Go.Proofs.Ytdgegekjjnghmaa
