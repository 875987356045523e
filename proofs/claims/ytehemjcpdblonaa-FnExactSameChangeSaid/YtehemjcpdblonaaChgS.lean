/- Changes compared, on both sides. -/
import Derived.Test.YtehemjcpdblonaaRowEq
import Derived.Test.YtehemjcpdblonaaChangeM
set_option linter.unusedVariables false
namespace Go.Proofs.Ytehemjcpdblonaa
open Go.RowKit
def sameChangeB (f f2 : Nat → Int) (n n2 : Nat) (g g2 : Nat → Int) (m m2 : Nat) (h h2 : Nat → Int) (o o2 : Nat) (u u2 : Nat → Int) (p p2 : Nat) : Bool := rowEqB f f2 n n2 && (rowEqB g g2 m m2 && (rowEqB h h2 o o2 && (rowEqB u u2 p p2)))
theorem implSameChange_any
  (A B C D : Option Addr) (n c m d o q p t : Nat) (f : Nat → Int) (g : Nat → Int) (h : Nat → Int) (u : Nat → Int) (A2 B2 C2 D2 : Option Addr) (n2 c2 m2 d2 o2 q2 p2 t2 : Nat) (f2 : Nat → Int) (g2 : Nat → Int) (h2 : Nat → Int) (u2 : Nat → Int) (w : World)
  (hn : n ≤ 1048576) (hm : m ≤ 1048576) (ho : o ≤ 1048576) (hp : p ≤ 1048576) (hA : Cells w A n (fun i => .int .i64 (f i))) (hB : Cells w B m (fun i => .int .i64 (g i))) (hC : Cells w C o (fun i => .int .i64 (h i))) (hD : Cells w D p (fun i => .int .i64 (u i)))
  (hn2 : n2 ≤ 1048576) (hm2 : m2 ≤ 1048576) (ho2 : o2 ≤ 1048576) (hp2 : p2 ≤ 1048576) (hA2 : Cells w A2 n2 (fun i => .int .i64 (f2 i))) (hB2 : Cells w B2 m2 (fun i => .int .i64 (g2 i))) (hC2 : Cells w C2 o2 (fun i => .int .i64 (h2 i))) (hD2 : Cells w D2 p2 (fun i => .int .i64 (u2 i)))
  : Calls Try.prog 25 #[.agg #[.slice A n c, .slice B m d, .slice C o q, .slice D p t], .agg #[.slice A2 n2 c2, .slice B2 m2 d2, .slice C2 o2 q2, .slice D2 p2 t2]] w fun e w' => e = .returned (.bool (sameChangeB f f2 n n2 g g2 m m2 h h2 o o2 u u2 p p2)) ∧ Below w.heap.size w w' := by
  have HU := Lib.hid (show sameChangeB f f2 n n2 g g2 m m2 h h2 o o2 u u2 p p2 = (rowEqB f f2 n n2 && (rowEqB g g2 m m2 && (rowEqB h h2 o o2 && (rowEqB u u2 p p2)))) from rfl)
  have HF0 := Lib.hid (fun W y1 y2 => slicesEqualI_any A A2 n n2 c c2 f f2 W (by omega) (by omega) y1 y2)
  have HF1 := Lib.hid (fun W y1 y2 => slicesEqualI_any B B2 m m2 d d2 g g2 W (by omega) (by omega) y1 y2)
  have HF2 := Lib.hid (fun W y1 y2 => slicesEqualI_any C C2 o o2 q q2 h h2 W (by omega) (by omega) y1 y2)
  have HF3 := Lib.hid (fun W y1 y2 => slicesEqualI_any D D2 p p2 t t2 u u2 W (by omega) (by omega) y1 y2)
  have hA := Lib.hid hA
  have hA2 := Lib.hid hA2
  have hB := Lib.hid hB
  have hB2 := Lib.hid hB2
  have hC := Lib.hid hC
  have hC2 := Lib.hid hC2
  have hD := Lib.hid hD
  have hD2 := Lib.hid hD2
  generalize sameChangeB f f2 n n2 g g2 m m2 h h2 o o2 u u2 p p2 = r at *
  generalize rowEqB f f2 n n2 = r0 at *
  generalize rowEqB g g2 m m2 = r1 at *
  generalize rowEqB h h2 o o2 = r2 at *
  generalize rowEqB u u2 p p2 = r3 at *
  cases r0
  · skip
    go_enter Try.func25, Try.ntmps25
    go_wp2_with fail
    refine (HF0.out _ (hA.out.below (by repeat (first | exact Below.refl _ _ | exact Hid.out (by assumption) | refine below_alloc ?_ _ | refine Below.setCell ?_ (by simp <;> omega) _ | refine Below.alloc ?_ (by simp <;> omega) _ | refine Below.drew ?_ | refine below_drewN ?_ _))) (hA2.out.below (by repeat (first | exact Below.refl _ _ | exact Hid.out (by assumption) | refine below_alloc ?_ _ | refine Below.setCell ?_ (by simp <;> omega) _ | refine Below.alloc ?_ (by simp <;> omega) _ | refine Below.drew ?_ | refine below_drewN ?_ _)))).mono ?_
    rintro e w0 ⟨rfl, j0, rfl⟩
    go_wp2_with fail
    go_ret
    exact ⟨ret_bool (by rw [HU.out] <;> simp), (by repeat (first | exact Below.refl _ _ | exact Hid.out (by assumption) | refine below_alloc ?_ _ | refine Below.setCell ?_ (by simp <;> omega) _ | refine Below.alloc ?_ (by simp <;> omega) _ | refine Below.drew ?_ | refine below_drewN ?_ _))⟩
  cases r1
  · skip
    go_enter Try.func25, Try.ntmps25
    go_wp2_with fail
    refine (HF0.out _ (hA.out.below (by repeat (first | exact Below.refl _ _ | exact Hid.out (by assumption) | refine below_alloc ?_ _ | refine Below.setCell ?_ (by simp <;> omega) _ | refine Below.alloc ?_ (by simp <;> omega) _ | refine Below.drew ?_ | refine below_drewN ?_ _))) (hA2.out.below (by repeat (first | exact Below.refl _ _ | exact Hid.out (by assumption) | refine below_alloc ?_ _ | refine Below.setCell ?_ (by simp <;> omega) _ | refine Below.alloc ?_ (by simp <;> omega) _ | refine Below.drew ?_ | refine below_drewN ?_ _)))).mono ?_
    rintro e w0 ⟨rfl, j0, rfl⟩
    go_wp2_with fail
    refine (HF1.out _ (hB.out.below (by repeat (first | exact Below.refl _ _ | exact Hid.out (by assumption) | refine below_alloc ?_ _ | refine Below.setCell ?_ (by simp <;> omega) _ | refine Below.alloc ?_ (by simp <;> omega) _ | refine Below.drew ?_ | refine below_drewN ?_ _))) (hB2.out.below (by repeat (first | exact Below.refl _ _ | exact Hid.out (by assumption) | refine below_alloc ?_ _ | refine Below.setCell ?_ (by simp <;> omega) _ | refine Below.alloc ?_ (by simp <;> omega) _ | refine Below.drew ?_ | refine below_drewN ?_ _)))).mono ?_
    rintro e w1 ⟨rfl, j1, rfl⟩
    go_wp2_with fail
    go_ret
    exact ⟨ret_bool (by rw [HU.out] <;> simp), (by repeat (first | exact Below.refl _ _ | exact Hid.out (by assumption) | refine below_alloc ?_ _ | refine Below.setCell ?_ (by simp <;> omega) _ | refine Below.alloc ?_ (by simp <;> omega) _ | refine Below.drew ?_ | refine below_drewN ?_ _))⟩
  cases r2
  · skip
    go_enter Try.func25, Try.ntmps25
    go_wp2_with fail
    refine (HF0.out _ (hA.out.below (by repeat (first | exact Below.refl _ _ | exact Hid.out (by assumption) | refine below_alloc ?_ _ | refine Below.setCell ?_ (by simp <;> omega) _ | refine Below.alloc ?_ (by simp <;> omega) _ | refine Below.drew ?_ | refine below_drewN ?_ _))) (hA2.out.below (by repeat (first | exact Below.refl _ _ | exact Hid.out (by assumption) | refine below_alloc ?_ _ | refine Below.setCell ?_ (by simp <;> omega) _ | refine Below.alloc ?_ (by simp <;> omega) _ | refine Below.drew ?_ | refine below_drewN ?_ _)))).mono ?_
    rintro e w0 ⟨rfl, j0, rfl⟩
    go_wp2_with fail
    refine (HF1.out _ (hB.out.below (by repeat (first | exact Below.refl _ _ | exact Hid.out (by assumption) | refine below_alloc ?_ _ | refine Below.setCell ?_ (by simp <;> omega) _ | refine Below.alloc ?_ (by simp <;> omega) _ | refine Below.drew ?_ | refine below_drewN ?_ _))) (hB2.out.below (by repeat (first | exact Below.refl _ _ | exact Hid.out (by assumption) | refine below_alloc ?_ _ | refine Below.setCell ?_ (by simp <;> omega) _ | refine Below.alloc ?_ (by simp <;> omega) _ | refine Below.drew ?_ | refine below_drewN ?_ _)))).mono ?_
    rintro e w1 ⟨rfl, j1, rfl⟩
    go_wp2_with fail
    refine (HF2.out _ (hC.out.below (by repeat (first | exact Below.refl _ _ | exact Hid.out (by assumption) | refine below_alloc ?_ _ | refine Below.setCell ?_ (by simp <;> omega) _ | refine Below.alloc ?_ (by simp <;> omega) _ | refine Below.drew ?_ | refine below_drewN ?_ _))) (hC2.out.below (by repeat (first | exact Below.refl _ _ | exact Hid.out (by assumption) | refine below_alloc ?_ _ | refine Below.setCell ?_ (by simp <;> omega) _ | refine Below.alloc ?_ (by simp <;> omega) _ | refine Below.drew ?_ | refine below_drewN ?_ _)))).mono ?_
    rintro e w2 ⟨rfl, j2, rfl⟩
    go_wp2_with fail
    go_ret
    exact ⟨ret_bool (by rw [HU.out] <;> simp), (by repeat (first | exact Below.refl _ _ | exact Hid.out (by assumption) | refine below_alloc ?_ _ | refine Below.setCell ?_ (by simp <;> omega) _ | refine Below.alloc ?_ (by simp <;> omega) _ | refine Below.drew ?_ | refine below_drewN ?_ _))⟩
  go_enter Try.func25, Try.ntmps25
  go_wp2_with fail
  refine (HF0.out _ (hA.out.below (by repeat (first | exact Below.refl _ _ | exact Hid.out (by assumption) | refine below_alloc ?_ _ | refine Below.setCell ?_ (by simp <;> omega) _ | refine Below.alloc ?_ (by simp <;> omega) _ | refine Below.drew ?_ | refine below_drewN ?_ _))) (hA2.out.below (by repeat (first | exact Below.refl _ _ | exact Hid.out (by assumption) | refine below_alloc ?_ _ | refine Below.setCell ?_ (by simp <;> omega) _ | refine Below.alloc ?_ (by simp <;> omega) _ | refine Below.drew ?_ | refine below_drewN ?_ _)))).mono ?_
  rintro e w0 ⟨rfl, j0, rfl⟩
  go_wp2_with fail
  refine (HF1.out _ (hB.out.below (by repeat (first | exact Below.refl _ _ | exact Hid.out (by assumption) | refine below_alloc ?_ _ | refine Below.setCell ?_ (by simp <;> omega) _ | refine Below.alloc ?_ (by simp <;> omega) _ | refine Below.drew ?_ | refine below_drewN ?_ _))) (hB2.out.below (by repeat (first | exact Below.refl _ _ | exact Hid.out (by assumption) | refine below_alloc ?_ _ | refine Below.setCell ?_ (by simp <;> omega) _ | refine Below.alloc ?_ (by simp <;> omega) _ | refine Below.drew ?_ | refine below_drewN ?_ _)))).mono ?_
  rintro e w1 ⟨rfl, j1, rfl⟩
  go_wp2_with fail
  refine (HF2.out _ (hC.out.below (by repeat (first | exact Below.refl _ _ | exact Hid.out (by assumption) | refine below_alloc ?_ _ | refine Below.setCell ?_ (by simp <;> omega) _ | refine Below.alloc ?_ (by simp <;> omega) _ | refine Below.drew ?_ | refine below_drewN ?_ _))) (hC2.out.below (by repeat (first | exact Below.refl _ _ | exact Hid.out (by assumption) | refine below_alloc ?_ _ | refine Below.setCell ?_ (by simp <;> omega) _ | refine Below.alloc ?_ (by simp <;> omega) _ | refine Below.drew ?_ | refine below_drewN ?_ _)))).mono ?_
  rintro e w2 ⟨rfl, j2, rfl⟩
  go_wp2_with fail
  refine (HF3.out _ (hD.out.below (by repeat (first | exact Below.refl _ _ | exact Hid.out (by assumption) | refine below_alloc ?_ _ | refine Below.setCell ?_ (by simp <;> omega) _ | refine Below.alloc ?_ (by simp <;> omega) _ | refine Below.drew ?_ | refine below_drewN ?_ _))) (hD2.out.below (by repeat (first | exact Below.refl _ _ | exact Hid.out (by assumption) | refine below_alloc ?_ _ | refine Below.setCell ?_ (by simp <;> omega) _ | refine Below.alloc ?_ (by simp <;> omega) _ | refine Below.drew ?_ | refine below_drewN ?_ _)))).mono ?_
  rintro e w3 ⟨rfl, j3, rfl⟩
  go_wp2_with fail
  go_ret
  exact ⟨ret_bool (by rw [HU.out] <;> simp), (by repeat (first | exact Below.refl _ _ | exact Hid.out (by assumption) | refine below_alloc ?_ _ | refine Below.setCell ?_ (by simp <;> omega) _ | refine Below.alloc ?_ (by simp <;> omega) _ | refine Below.drew ?_ | refine below_drewN ?_ _))⟩
theorem specSameChange_any
  (A B C D : Option Addr) (n c m d o q p t : Nat) (f : Nat → Int) (g : Nat → Int) (h : Nat → Int) (u : Nat → Int) (A2 B2 C2 D2 : Option Addr) (n2 c2 m2 d2 o2 q2 p2 t2 : Nat) (f2 : Nat → Int) (g2 : Nat → Int) (h2 : Nat → Int) (u2 : Nat → Int) (w : World)
  (hn : n ≤ 1048576) (hm : m ≤ 1048576) (ho : o ≤ 1048576) (hp : p ≤ 1048576) (hA : Cells w A n (fun i => .int .i64 (f i))) (hB : Cells w B m (fun i => .int .i64 (g i))) (hC : Cells w C o (fun i => .int .i64 (h i))) (hD : Cells w D p (fun i => .int .i64 (u i)))
  (hn2 : n2 ≤ 1048576) (hm2 : m2 ≤ 1048576) (ho2 : o2 ≤ 1048576) (hp2 : p2 ≤ 1048576) (hA2 : Cells w A2 n2 (fun i => .int .i64 (f2 i))) (hB2 : Cells w B2 m2 (fun i => .int .i64 (g2 i))) (hC2 : Cells w C2 o2 (fun i => .int .i64 (h2 i))) (hD2 : Cells w D2 p2 (fun i => .int .i64 (u2 i)))
  : Calls Try.prog 24 #[.agg #[.slice A n c, .slice B m d, .slice C o q, .slice D p t], .agg #[.slice A2 n2 c2, .slice B2 m2 d2, .slice C2 o2 q2, .slice D2 p2 t2]] w fun e w' => e = .returned (.bool (sameChangeB f f2 n n2 g g2 m m2 h h2 o o2 u u2 p p2)) ∧ Below w.heap.size w w' := by
  have HU := Lib.hid (show sameChangeB f f2 n n2 g g2 m m2 h h2 o o2 u u2 p p2 = (rowEqB f f2 n n2 && (rowEqB g g2 m m2 && (rowEqB h h2 o o2 && (rowEqB u u2 p p2)))) from rfl)
  have HF0 := Lib.hid (fun W y1 y2 => l00Same_any A A2 n n2 c c2 f f2 W (by omega) (by omega) y1 y2)
  have HF1 := Lib.hid (fun W y1 y2 => l00Same_any B B2 m m2 d d2 g g2 W (by omega) (by omega) y1 y2)
  have HF2 := Lib.hid (fun W y1 y2 => l00Same_any C C2 o o2 q q2 h h2 W (by omega) (by omega) y1 y2)
  have HF3 := Lib.hid (fun W y1 y2 => l00Same_any D D2 p p2 t t2 u u2 W (by omega) (by omega) y1 y2)
  have hA := Lib.hid hA
  have hA2 := Lib.hid hA2
  have hB := Lib.hid hB
  have hB2 := Lib.hid hB2
  have hC := Lib.hid hC
  have hC2 := Lib.hid hC2
  have hD := Lib.hid hD
  have hD2 := Lib.hid hD2
  generalize sameChangeB f f2 n n2 g g2 m m2 h h2 o o2 u u2 p p2 = r at *
  generalize rowEqB f f2 n n2 = r0 at *
  generalize rowEqB g g2 m m2 = r1 at *
  generalize rowEqB h h2 o o2 = r2 at *
  generalize rowEqB u u2 p p2 = r3 at *
  cases r0
  · skip
    go_enter Try.func24, Try.ntmps24
    go_wp2_with fail
    refine (HF0.out _ (hA.out.below (by repeat (first | exact Below.refl _ _ | exact Hid.out (by assumption) | refine below_alloc ?_ _ | refine Below.setCell ?_ (by simp <;> omega) _ | refine Below.alloc ?_ (by simp <;> omega) _ | refine Below.drew ?_ | refine below_drewN ?_ _))) (hA2.out.below (by repeat (first | exact Below.refl _ _ | exact Hid.out (by assumption) | refine below_alloc ?_ _ | refine Below.setCell ?_ (by simp <;> omega) _ | refine Below.alloc ?_ (by simp <;> omega) _ | refine Below.drew ?_ | refine below_drewN ?_ _)))).mono ?_
    rintro e w0 ⟨rfl, j0, rfl⟩
    go_wp2_with fail
    go_ret
    exact ⟨ret_bool (by rw [HU.out] <;> simp), (by repeat (first | exact Below.refl _ _ | exact Hid.out (by assumption) | refine below_alloc ?_ _ | refine Below.setCell ?_ (by simp <;> omega) _ | refine Below.alloc ?_ (by simp <;> omega) _ | refine Below.drew ?_ | refine below_drewN ?_ _))⟩
  cases r1
  · skip
    go_enter Try.func24, Try.ntmps24
    go_wp2_with fail
    refine (HF0.out _ (hA.out.below (by repeat (first | exact Below.refl _ _ | exact Hid.out (by assumption) | refine below_alloc ?_ _ | refine Below.setCell ?_ (by simp <;> omega) _ | refine Below.alloc ?_ (by simp <;> omega) _ | refine Below.drew ?_ | refine below_drewN ?_ _))) (hA2.out.below (by repeat (first | exact Below.refl _ _ | exact Hid.out (by assumption) | refine below_alloc ?_ _ | refine Below.setCell ?_ (by simp <;> omega) _ | refine Below.alloc ?_ (by simp <;> omega) _ | refine Below.drew ?_ | refine below_drewN ?_ _)))).mono ?_
    rintro e w0 ⟨rfl, j0, rfl⟩
    go_wp2_with fail
    refine (HF1.out _ (hB.out.below (by repeat (first | exact Below.refl _ _ | exact Hid.out (by assumption) | refine below_alloc ?_ _ | refine Below.setCell ?_ (by simp <;> omega) _ | refine Below.alloc ?_ (by simp <;> omega) _ | refine Below.drew ?_ | refine below_drewN ?_ _))) (hB2.out.below (by repeat (first | exact Below.refl _ _ | exact Hid.out (by assumption) | refine below_alloc ?_ _ | refine Below.setCell ?_ (by simp <;> omega) _ | refine Below.alloc ?_ (by simp <;> omega) _ | refine Below.drew ?_ | refine below_drewN ?_ _)))).mono ?_
    rintro e w1 ⟨rfl, j1, rfl⟩
    go_wp2_with fail
    go_ret
    exact ⟨ret_bool (by rw [HU.out] <;> simp), (by repeat (first | exact Below.refl _ _ | exact Hid.out (by assumption) | refine below_alloc ?_ _ | refine Below.setCell ?_ (by simp <;> omega) _ | refine Below.alloc ?_ (by simp <;> omega) _ | refine Below.drew ?_ | refine below_drewN ?_ _))⟩
  cases r2
  · skip
    go_enter Try.func24, Try.ntmps24
    go_wp2_with fail
    refine (HF0.out _ (hA.out.below (by repeat (first | exact Below.refl _ _ | exact Hid.out (by assumption) | refine below_alloc ?_ _ | refine Below.setCell ?_ (by simp <;> omega) _ | refine Below.alloc ?_ (by simp <;> omega) _ | refine Below.drew ?_ | refine below_drewN ?_ _))) (hA2.out.below (by repeat (first | exact Below.refl _ _ | exact Hid.out (by assumption) | refine below_alloc ?_ _ | refine Below.setCell ?_ (by simp <;> omega) _ | refine Below.alloc ?_ (by simp <;> omega) _ | refine Below.drew ?_ | refine below_drewN ?_ _)))).mono ?_
    rintro e w0 ⟨rfl, j0, rfl⟩
    go_wp2_with fail
    refine (HF1.out _ (hB.out.below (by repeat (first | exact Below.refl _ _ | exact Hid.out (by assumption) | refine below_alloc ?_ _ | refine Below.setCell ?_ (by simp <;> omega) _ | refine Below.alloc ?_ (by simp <;> omega) _ | refine Below.drew ?_ | refine below_drewN ?_ _))) (hB2.out.below (by repeat (first | exact Below.refl _ _ | exact Hid.out (by assumption) | refine below_alloc ?_ _ | refine Below.setCell ?_ (by simp <;> omega) _ | refine Below.alloc ?_ (by simp <;> omega) _ | refine Below.drew ?_ | refine below_drewN ?_ _)))).mono ?_
    rintro e w1 ⟨rfl, j1, rfl⟩
    go_wp2_with fail
    refine (HF2.out _ (hC.out.below (by repeat (first | exact Below.refl _ _ | exact Hid.out (by assumption) | refine below_alloc ?_ _ | refine Below.setCell ?_ (by simp <;> omega) _ | refine Below.alloc ?_ (by simp <;> omega) _ | refine Below.drew ?_ | refine below_drewN ?_ _))) (hC2.out.below (by repeat (first | exact Below.refl _ _ | exact Hid.out (by assumption) | refine below_alloc ?_ _ | refine Below.setCell ?_ (by simp <;> omega) _ | refine Below.alloc ?_ (by simp <;> omega) _ | refine Below.drew ?_ | refine below_drewN ?_ _)))).mono ?_
    rintro e w2 ⟨rfl, j2, rfl⟩
    go_wp2_with fail
    go_ret
    exact ⟨ret_bool (by rw [HU.out] <;> simp), (by repeat (first | exact Below.refl _ _ | exact Hid.out (by assumption) | refine below_alloc ?_ _ | refine Below.setCell ?_ (by simp <;> omega) _ | refine Below.alloc ?_ (by simp <;> omega) _ | refine Below.drew ?_ | refine below_drewN ?_ _))⟩
  go_enter Try.func24, Try.ntmps24
  go_wp2_with fail
  refine (HF0.out _ (hA.out.below (by repeat (first | exact Below.refl _ _ | exact Hid.out (by assumption) | refine below_alloc ?_ _ | refine Below.setCell ?_ (by simp <;> omega) _ | refine Below.alloc ?_ (by simp <;> omega) _ | refine Below.drew ?_ | refine below_drewN ?_ _))) (hA2.out.below (by repeat (first | exact Below.refl _ _ | exact Hid.out (by assumption) | refine below_alloc ?_ _ | refine Below.setCell ?_ (by simp <;> omega) _ | refine Below.alloc ?_ (by simp <;> omega) _ | refine Below.drew ?_ | refine below_drewN ?_ _)))).mono ?_
  rintro e w0 ⟨rfl, j0, rfl⟩
  go_wp2_with fail
  refine (HF1.out _ (hB.out.below (by repeat (first | exact Below.refl _ _ | exact Hid.out (by assumption) | refine below_alloc ?_ _ | refine Below.setCell ?_ (by simp <;> omega) _ | refine Below.alloc ?_ (by simp <;> omega) _ | refine Below.drew ?_ | refine below_drewN ?_ _))) (hB2.out.below (by repeat (first | exact Below.refl _ _ | exact Hid.out (by assumption) | refine below_alloc ?_ _ | refine Below.setCell ?_ (by simp <;> omega) _ | refine Below.alloc ?_ (by simp <;> omega) _ | refine Below.drew ?_ | refine below_drewN ?_ _)))).mono ?_
  rintro e w1 ⟨rfl, j1, rfl⟩
  go_wp2_with fail
  refine (HF2.out _ (hC.out.below (by repeat (first | exact Below.refl _ _ | exact Hid.out (by assumption) | refine below_alloc ?_ _ | refine Below.setCell ?_ (by simp <;> omega) _ | refine Below.alloc ?_ (by simp <;> omega) _ | refine Below.drew ?_ | refine below_drewN ?_ _))) (hC2.out.below (by repeat (first | exact Below.refl _ _ | exact Hid.out (by assumption) | refine below_alloc ?_ _ | refine Below.setCell ?_ (by simp <;> omega) _ | refine Below.alloc ?_ (by simp <;> omega) _ | refine Below.drew ?_ | refine below_drewN ?_ _)))).mono ?_
  rintro e w2 ⟨rfl, j2, rfl⟩
  go_wp2_with fail
  refine (HF3.out _ (hD.out.below (by repeat (first | exact Below.refl _ _ | exact Hid.out (by assumption) | refine below_alloc ?_ _ | refine Below.setCell ?_ (by simp <;> omega) _ | refine Below.alloc ?_ (by simp <;> omega) _ | refine Below.drew ?_ | refine below_drewN ?_ _))) (hD2.out.below (by repeat (first | exact Below.refl _ _ | exact Hid.out (by assumption) | refine below_alloc ?_ _ | refine Below.setCell ?_ (by simp <;> omega) _ | refine Below.alloc ?_ (by simp <;> omega) _ | refine Below.drew ?_ | refine below_drewN ?_ _)))).mono ?_
  rintro e w3 ⟨rfl, j3, rfl⟩
  go_wp2_with fail
  go_ret
  exact ⟨ret_bool (by rw [HU.out] <;> simp), (by repeat (first | exact Below.refl _ _ | exact Hid.out (by assumption) | refine below_alloc ?_ _ | refine Below.setCell ?_ (by simp <;> omega) _ | refine Below.alloc ?_ (by simp <;> omega) _ | refine Below.drew ?_ | refine below_drewN ?_ _))⟩
end Go.Proofs.Ytehemjcpdblonaa
