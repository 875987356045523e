/- Machines of trees compared, on both sides. -/
import Derived.Test.YtgbiablibfbilaaRowEq
import Derived.Test.YtgbiablibfbilaaTreeMachineM
set_option linter.unusedVariables false
namespace Go.Proofs.Ytgbiablibfbilaa
open Go.RowKit
def sameTB (s s2 : Int) (l l2 : Int) (f f2 : Nat → Int) (n n2 : Nat) (g g2 : Nat → Int) (m m2 : Nat) (h h2 : Nat → Bool) (o o2 : Nat) : Bool := decide (s = s2) && (decide (l = l2) && (rowEqB f f2 n n2 && (rowEqB g g2 m m2 && (rowEqB h h2 o o2))))
theorem implSameTrees_any
  (s l : Int) (A B C : Option Addr) (n c m d o q : Nat) (f : Nat → Int) (g : Nat → Int) (h : Nat → Bool) (s2 l2 : Int) (A2 B2 C2 : Option Addr) (n2 c2 m2 d2 o2 q2 : Nat) (f2 : Nat → Int) (g2 : Nat → Int) (h2 : Nat → Bool) (w : World)
  (hn : n ≤ 1048576) (hm : m ≤ 1048576) (ho : o ≤ 1048576) (hA : Cells w A n (fun i => .int .i64 (f i))) (hB : Cells w B m (fun i => .int .i64 (g i))) (hC : Cells w C o (fun i => .bool (h i)))
  (hn2 : n2 ≤ 1048576) (hm2 : m2 ≤ 1048576) (ho2 : o2 ≤ 1048576) (hA2 : Cells w A2 n2 (fun i => .int .i64 (f2 i))) (hB2 : Cells w B2 m2 (fun i => .int .i64 (g2 i))) (hC2 : Cells w C2 o2 (fun i => .bool (h2 i)))
  : Calls Try.prog 21 #[.agg #[.int .i64 s, .int .i64 l, .slice A n c, .slice B m d, .slice C o q], .agg #[.int .i64 s2, .int .i64 l2, .slice A2 n2 c2, .slice B2 m2 d2, .slice C2 o2 q2]] w fun e w' => e = .returned (.bool (sameTB s s2 l l2 f f2 n n2 g g2 m m2 h h2 o o2)) ∧ Below w.heap.size w w' := by
  have HU := Lib.hid (show sameTB s s2 l l2 f f2 n n2 g g2 m m2 h h2 o o2 = (decide (s = s2) && (decide (l = l2) && (rowEqB f f2 n n2 && (rowEqB g g2 m m2 && (rowEqB h h2 o o2))))) from rfl)
  have HF0 := Lib.hid (fun W y1 y2 => slicesEqualI_any A A2 n n2 c c2 f f2 W (by omega) (by omega) y1 y2)
  have HF1 := Lib.hid (fun W y1 y2 => slicesEqualI_any B B2 m m2 d d2 g g2 W (by omega) (by omega) y1 y2)
  have HF2 := Lib.hid (fun W y1 y2 => slicesEqualB_any C C2 o o2 q q2 h h2 W (by omega) (by omega) y1 y2)
  have hA := Lib.hid hA
  have hA2 := Lib.hid hA2
  have hB := Lib.hid hB
  have hB2 := Lib.hid hB2
  have hC := Lib.hid hC
  have hC2 := Lib.hid hC2
  generalize sameTB s s2 l l2 f f2 n n2 g g2 m m2 h h2 o o2 = r at *
  generalize rowEqB f f2 n n2 = r0 at *
  generalize rowEqB g g2 m m2 = r1 at *
  generalize rowEqB h h2 o o2 = r2 at *
  by_cases hs : s = s2
  rotate_left
  · have bs : (s == s2) = false := by simpa using hs
    go_enter Try.func21, Try.ntmps21
    go_wp2_with fail
    go_ret
    exact ⟨ret_bool (by rw [HU.out]; simp [hs]), (by repeat (first | with_reducible exact Below.refl _ _ | exact Hid.out (by with_reducible assumption) | refine Below.setCell ?_ (by simp <;> omega) _ | refine below_alloc ?_ _ | refine Below.alloc ?_ (by simp <;> omega) _ | refine Below.drew ?_ | refine below_drewN ?_ _))⟩
  subst hs
  by_cases hl : l = l2
  rotate_left
  · have bl : (l == l2) = false := by simpa using hl
    go_enter Try.func21, Try.ntmps21
    go_wp2_with fail
    go_ret
    exact ⟨ret_bool (by rw [HU.out]; simp [hl]), (by repeat (first | with_reducible exact Below.refl _ _ | exact Hid.out (by with_reducible assumption) | refine Below.setCell ?_ (by simp <;> omega) _ | refine below_alloc ?_ _ | refine Below.alloc ?_ (by simp <;> omega) _ | refine Below.drew ?_ | refine below_drewN ?_ _))⟩
  subst hl
  cases r0
  · skip
    go_enter Try.func21, Try.ntmps21
    go_wp2_with fail
    refine (HF0.out _ (hA.out.below (by repeat (first | with_reducible exact Below.refl _ _ | exact Hid.out (by with_reducible assumption) | refine Below.setCell ?_ (by simp <;> omega) _ | refine below_alloc ?_ _ | refine Below.alloc ?_ (by simp <;> omega) _ | refine Below.drew ?_ | refine below_drewN ?_ _))) (hA2.out.below (by repeat (first | with_reducible exact Below.refl _ _ | exact Hid.out (by with_reducible assumption) | refine Below.setCell ?_ (by simp <;> omega) _ | refine below_alloc ?_ _ | refine Below.alloc ?_ (by simp <;> omega) _ | refine Below.drew ?_ | refine below_drewN ?_ _)))).mono ?_
    rintro e w0 ⟨rfl, j0, rfl⟩
    go_wp2_with fail
    go_ret
    exact ⟨ret_bool (by rw [HU.out] <;> simp), (by repeat (first | with_reducible exact Below.refl _ _ | exact Hid.out (by with_reducible assumption) | refine Below.setCell ?_ (by simp <;> omega) _ | refine below_alloc ?_ _ | refine Below.alloc ?_ (by simp <;> omega) _ | refine Below.drew ?_ | refine below_drewN ?_ _))⟩
  cases r1
  · skip
    go_enter Try.func21, Try.ntmps21
    go_wp2_with fail
    refine (HF0.out _ (hA.out.below (by repeat (first | with_reducible exact Below.refl _ _ | exact Hid.out (by with_reducible assumption) | refine Below.setCell ?_ (by simp <;> omega) _ | refine below_alloc ?_ _ | refine Below.alloc ?_ (by simp <;> omega) _ | refine Below.drew ?_ | refine below_drewN ?_ _))) (hA2.out.below (by repeat (first | with_reducible exact Below.refl _ _ | exact Hid.out (by with_reducible assumption) | refine Below.setCell ?_ (by simp <;> omega) _ | refine below_alloc ?_ _ | refine Below.alloc ?_ (by simp <;> omega) _ | refine Below.drew ?_ | refine below_drewN ?_ _)))).mono ?_
    rintro e w0 ⟨rfl, j0, rfl⟩
    go_wp2_with fail
    refine (HF1.out _ (hB.out.below (by repeat (first | with_reducible exact Below.refl _ _ | exact Hid.out (by with_reducible assumption) | refine Below.setCell ?_ (by simp <;> omega) _ | refine below_alloc ?_ _ | refine Below.alloc ?_ (by simp <;> omega) _ | refine Below.drew ?_ | refine below_drewN ?_ _))) (hB2.out.below (by repeat (first | with_reducible exact Below.refl _ _ | exact Hid.out (by with_reducible assumption) | refine Below.setCell ?_ (by simp <;> omega) _ | refine below_alloc ?_ _ | refine Below.alloc ?_ (by simp <;> omega) _ | refine Below.drew ?_ | refine below_drewN ?_ _)))).mono ?_
    rintro e w1 ⟨rfl, j1, rfl⟩
    go_wp2_with fail
    go_ret
    exact ⟨ret_bool (by rw [HU.out] <;> simp), (by repeat (first | with_reducible exact Below.refl _ _ | exact Hid.out (by with_reducible assumption) | refine Below.setCell ?_ (by simp <;> omega) _ | refine below_alloc ?_ _ | refine Below.alloc ?_ (by simp <;> omega) _ | refine Below.drew ?_ | refine below_drewN ?_ _))⟩
  go_enter Try.func21, Try.ntmps21
  go_wp2_with fail
  refine (HF0.out _ (hA.out.below (by repeat (first | with_reducible exact Below.refl _ _ | exact Hid.out (by with_reducible assumption) | refine Below.setCell ?_ (by simp <;> omega) _ | refine below_alloc ?_ _ | refine Below.alloc ?_ (by simp <;> omega) _ | refine Below.drew ?_ | refine below_drewN ?_ _))) (hA2.out.below (by repeat (first | with_reducible exact Below.refl _ _ | exact Hid.out (by with_reducible assumption) | refine Below.setCell ?_ (by simp <;> omega) _ | refine below_alloc ?_ _ | refine Below.alloc ?_ (by simp <;> omega) _ | refine Below.drew ?_ | refine below_drewN ?_ _)))).mono ?_
  rintro e w0 ⟨rfl, j0, rfl⟩
  go_wp2_with fail
  refine (HF1.out _ (hB.out.below (by repeat (first | with_reducible exact Below.refl _ _ | exact Hid.out (by with_reducible assumption) | refine Below.setCell ?_ (by simp <;> omega) _ | refine below_alloc ?_ _ | refine Below.alloc ?_ (by simp <;> omega) _ | refine Below.drew ?_ | refine below_drewN ?_ _))) (hB2.out.below (by repeat (first | with_reducible exact Below.refl _ _ | exact Hid.out (by with_reducible assumption) | refine Below.setCell ?_ (by simp <;> omega) _ | refine below_alloc ?_ _ | refine Below.alloc ?_ (by simp <;> omega) _ | refine Below.drew ?_ | refine below_drewN ?_ _)))).mono ?_
  rintro e w1 ⟨rfl, j1, rfl⟩
  go_wp2_with fail
  refine (HF2.out _ (hC.out.below (by repeat (first | with_reducible exact Below.refl _ _ | exact Hid.out (by with_reducible assumption) | refine Below.setCell ?_ (by simp <;> omega) _ | refine below_alloc ?_ _ | refine Below.alloc ?_ (by simp <;> omega) _ | refine Below.drew ?_ | refine below_drewN ?_ _))) (hC2.out.below (by repeat (first | with_reducible exact Below.refl _ _ | exact Hid.out (by with_reducible assumption) | refine Below.setCell ?_ (by simp <;> omega) _ | refine below_alloc ?_ _ | refine Below.alloc ?_ (by simp <;> omega) _ | refine Below.drew ?_ | refine below_drewN ?_ _)))).mono ?_
  rintro e w2 ⟨rfl, j2, rfl⟩
  go_wp2_with fail
  go_ret
  exact ⟨ret_bool (by rw [HU.out] <;> simp), (by repeat (first | with_reducible exact Below.refl _ _ | exact Hid.out (by with_reducible assumption) | refine Below.setCell ?_ (by simp <;> omega) _ | refine below_alloc ?_ _ | refine Below.alloc ?_ (by simp <;> omega) _ | refine Below.drew ?_ | refine below_drewN ?_ _))⟩

theorem specSameTrees_any
  (s l : Int) (A B C : Option Addr) (n c m d o q : Nat) (f : Nat → Int) (g : Nat → Int) (h : Nat → Bool) (s2 l2 : Int) (A2 B2 C2 : Option Addr) (n2 c2 m2 d2 o2 q2 : Nat) (f2 : Nat → Int) (g2 : Nat → Int) (h2 : Nat → Bool) (w : World)
  (hn : n ≤ 1048576) (hm : m ≤ 1048576) (ho : o ≤ 1048576) (hA : Cells w A n (fun i => .int .i64 (f i))) (hB : Cells w B m (fun i => .int .i64 (g i))) (hC : Cells w C o (fun i => .bool (h i)))
  (hn2 : n2 ≤ 1048576) (hm2 : m2 ≤ 1048576) (ho2 : o2 ≤ 1048576) (hA2 : Cells w A2 n2 (fun i => .int .i64 (f2 i))) (hB2 : Cells w B2 m2 (fun i => .int .i64 (g2 i))) (hC2 : Cells w C2 o2 (fun i => .bool (h2 i)))
  : Calls Try.prog 20 #[.agg #[.int .i64 s, .int .i64 l, .slice A n c, .slice B m d, .slice C o q], .agg #[.int .i64 s2, .int .i64 l2, .slice A2 n2 c2, .slice B2 m2 d2, .slice C2 o2 q2]] w fun e w' => e = .returned (.bool (sameTB s s2 l l2 f f2 n n2 g g2 m m2 h h2 o o2)) ∧ Below w.heap.size w w' := by
  have HU := Lib.hid (show sameTB s s2 l l2 f f2 n n2 g g2 m m2 h h2 o o2 = (decide (s = s2) && (decide (l = l2) && (rowEqB f f2 n n2 && (rowEqB g g2 m m2 && (rowEqB h h2 o o2))))) from rfl)
  have HF0 := Lib.hid (fun W y1 y2 => l02Equal_any A A2 n n2 c c2 f f2 W (by omega) (by omega) y1 y2)
  have HF1 := Lib.hid (fun W y1 y2 => l02Equal_any B B2 m m2 d d2 g g2 W (by omega) (by omega) y1 y2)
  have HF2 := Lib.hid (fun W y1 y2 => l06Bits_any C C2 o o2 q q2 h h2 W (by omega) (by omega) y1 y2)
  have hA := Lib.hid hA
  have hA2 := Lib.hid hA2
  have hB := Lib.hid hB
  have hB2 := Lib.hid hB2
  have hC := Lib.hid hC
  have hC2 := Lib.hid hC2
  generalize sameTB s s2 l l2 f f2 n n2 g g2 m m2 h h2 o o2 = r at *
  generalize rowEqB f f2 n n2 = r0 at *
  generalize rowEqB g g2 m m2 = r1 at *
  generalize rowEqB h h2 o o2 = r2 at *
  by_cases hs : s = s2
  rotate_left
  · have bs : (s == s2) = false := by simpa using hs
    go_enter Try.func20, Try.ntmps20
    go_wp2_with fail
    go_ret
    exact ⟨ret_bool (by rw [HU.out]; simp [hs]), (by repeat (first | with_reducible exact Below.refl _ _ | exact Hid.out (by with_reducible assumption) | refine Below.setCell ?_ (by simp <;> omega) _ | refine below_alloc ?_ _ | refine Below.alloc ?_ (by simp <;> omega) _ | refine Below.drew ?_ | refine below_drewN ?_ _))⟩
  subst hs
  by_cases hl : l = l2
  rotate_left
  · have bl : (l == l2) = false := by simpa using hl
    go_enter Try.func20, Try.ntmps20
    go_wp2_with fail
    go_ret
    exact ⟨ret_bool (by rw [HU.out]; simp [hl]), (by repeat (first | with_reducible exact Below.refl _ _ | exact Hid.out (by with_reducible assumption) | refine Below.setCell ?_ (by simp <;> omega) _ | refine below_alloc ?_ _ | refine Below.alloc ?_ (by simp <;> omega) _ | refine Below.drew ?_ | refine below_drewN ?_ _))⟩
  subst hl
  cases r0
  · skip
    go_enter Try.func20, Try.ntmps20
    go_wp2_with fail
    refine (HF0.out _ (hA.out.below (by repeat (first | with_reducible exact Below.refl _ _ | exact Hid.out (by with_reducible assumption) | refine Below.setCell ?_ (by simp <;> omega) _ | refine below_alloc ?_ _ | refine Below.alloc ?_ (by simp <;> omega) _ | refine Below.drew ?_ | refine below_drewN ?_ _))) (hA2.out.below (by repeat (first | with_reducible exact Below.refl _ _ | exact Hid.out (by with_reducible assumption) | refine Below.setCell ?_ (by simp <;> omega) _ | refine below_alloc ?_ _ | refine Below.alloc ?_ (by simp <;> omega) _ | refine Below.drew ?_ | refine below_drewN ?_ _)))).mono ?_
    rintro e w0 ⟨rfl, j0, rfl⟩
    go_wp2_with fail
    go_ret
    exact ⟨ret_bool (by rw [HU.out] <;> simp), (by repeat (first | with_reducible exact Below.refl _ _ | exact Hid.out (by with_reducible assumption) | refine Below.setCell ?_ (by simp <;> omega) _ | refine below_alloc ?_ _ | refine Below.alloc ?_ (by simp <;> omega) _ | refine Below.drew ?_ | refine below_drewN ?_ _))⟩
  cases r1
  · skip
    go_enter Try.func20, Try.ntmps20
    go_wp2_with fail
    refine (HF0.out _ (hA.out.below (by repeat (first | with_reducible exact Below.refl _ _ | exact Hid.out (by with_reducible assumption) | refine Below.setCell ?_ (by simp <;> omega) _ | refine below_alloc ?_ _ | refine Below.alloc ?_ (by simp <;> omega) _ | refine Below.drew ?_ | refine below_drewN ?_ _))) (hA2.out.below (by repeat (first | with_reducible exact Below.refl _ _ | exact Hid.out (by with_reducible assumption) | refine Below.setCell ?_ (by simp <;> omega) _ | refine below_alloc ?_ _ | refine Below.alloc ?_ (by simp <;> omega) _ | refine Below.drew ?_ | refine below_drewN ?_ _)))).mono ?_
    rintro e w0 ⟨rfl, j0, rfl⟩
    go_wp2_with fail
    refine (HF1.out _ (hB.out.below (by repeat (first | with_reducible exact Below.refl _ _ | exact Hid.out (by with_reducible assumption) | refine Below.setCell ?_ (by simp <;> omega) _ | refine below_alloc ?_ _ | refine Below.alloc ?_ (by simp <;> omega) _ | refine Below.drew ?_ | refine below_drewN ?_ _))) (hB2.out.below (by repeat (first | with_reducible exact Below.refl _ _ | exact Hid.out (by with_reducible assumption) | refine Below.setCell ?_ (by simp <;> omega) _ | refine below_alloc ?_ _ | refine Below.alloc ?_ (by simp <;> omega) _ | refine Below.drew ?_ | refine below_drewN ?_ _)))).mono ?_
    rintro e w1 ⟨rfl, j1, rfl⟩
    go_wp2_with fail
    go_ret
    exact ⟨ret_bool (by rw [HU.out] <;> simp), (by repeat (first | with_reducible exact Below.refl _ _ | exact Hid.out (by with_reducible assumption) | refine Below.setCell ?_ (by simp <;> omega) _ | refine below_alloc ?_ _ | refine Below.alloc ?_ (by simp <;> omega) _ | refine Below.drew ?_ | refine below_drewN ?_ _))⟩
  go_enter Try.func20, Try.ntmps20
  go_wp2_with fail
  refine (HF0.out _ (hA.out.below (by repeat (first | with_reducible exact Below.refl _ _ | exact Hid.out (by with_reducible assumption) | refine Below.setCell ?_ (by simp <;> omega) _ | refine below_alloc ?_ _ | refine Below.alloc ?_ (by simp <;> omega) _ | refine Below.drew ?_ | refine below_drewN ?_ _))) (hA2.out.below (by repeat (first | with_reducible exact Below.refl _ _ | exact Hid.out (by with_reducible assumption) | refine Below.setCell ?_ (by simp <;> omega) _ | refine below_alloc ?_ _ | refine Below.alloc ?_ (by simp <;> omega) _ | refine Below.drew ?_ | refine below_drewN ?_ _)))).mono ?_
  rintro e w0 ⟨rfl, j0, rfl⟩
  go_wp2_with fail
  refine (HF1.out _ (hB.out.below (by repeat (first | with_reducible exact Below.refl _ _ | exact Hid.out (by with_reducible assumption) | refine Below.setCell ?_ (by simp <;> omega) _ | refine below_alloc ?_ _ | refine Below.alloc ?_ (by simp <;> omega) _ | refine Below.drew ?_ | refine below_drewN ?_ _))) (hB2.out.below (by repeat (first | with_reducible exact Below.refl _ _ | exact Hid.out (by with_reducible assumption) | refine Below.setCell ?_ (by simp <;> omega) _ | refine below_alloc ?_ _ | refine Below.alloc ?_ (by simp <;> omega) _ | refine Below.drew ?_ | refine below_drewN ?_ _)))).mono ?_
  rintro e w1 ⟨rfl, j1, rfl⟩
  go_wp2_with fail
  refine (HF2.out _ (hC.out.below (by repeat (first | with_reducible exact Below.refl _ _ | exact Hid.out (by with_reducible assumption) | refine Below.setCell ?_ (by simp <;> omega) _ | refine below_alloc ?_ _ | refine Below.alloc ?_ (by simp <;> omega) _ | refine Below.drew ?_ | refine below_drewN ?_ _))) (hC2.out.below (by repeat (first | with_reducible exact Below.refl _ _ | exact Hid.out (by with_reducible assumption) | refine Below.setCell ?_ (by simp <;> omega) _ | refine below_alloc ?_ _ | refine Below.alloc ?_ (by simp <;> omega) _ | refine Below.drew ?_ | refine below_drewN ?_ _)))).mono ?_
  rintro e w2 ⟨rfl, j2, rfl⟩
  go_wp2_with fail
  go_ret
  exact ⟨ret_bool (by rw [HU.out] <;> simp), (by repeat (first | with_reducible exact Below.refl _ _ | exact Hid.out (by with_reducible assumption) | refine Below.setCell ?_ (by simp <;> omega) _ | refine below_alloc ?_ _ | refine Below.alloc ?_ (by simp <;> omega) _ | refine Below.drew ?_ | refine below_drewN ?_ _))⟩

end Go.Proofs.Ytgbiablibfbilaa
