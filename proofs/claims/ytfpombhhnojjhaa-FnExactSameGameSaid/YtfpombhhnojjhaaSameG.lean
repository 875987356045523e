/- Games compared, on both sides. -/
import Derived.Test.YtfpombhhnojjhaaRowEq
import Derived.Test.YtfpombhhnojjhaaAreA
import Derived.Test.YtfpombhhnojjhaaGameM
set_option linter.unusedVariables false
set_option linter.unusedSimpArgs false
namespace Go.Proofs.Ytfpombhhnojjhaa
open Go.RowKit
/-- The rows are the same. -/
def rowsEqB (o o2 : Nat) (L L2 : Nat → Nat) (F F2 : Nat → Nat → Int) : Bool := decide (o = o2) && allP (fun i => rowEqB (F i) (F2 i) (L i) (L2 i)) (fun i => i) o
theorem rowsEqB_len {o o2 : Nat} {L L2 : Nat → Nat} {F F2 : Nat → Nat → Int} (h : ¬ o = o2) : rowsEqB o o2 L L2 F F2 = false := by unfold rowsEqB; simp [h]
theorem rowsEqB_no {o : Nat} {L L2 : Nat → Nat} {F F2 : Nat → Nat → Int} {k : Nat} (hk : k < o) (h : rowEqB (F k) (F2 k) (L k) (L2 k) = false) : rowsEqB o o L L2 F F2 = false := by
  unfold rowsEqB
  rw [allP_no (p := fun i => rowEqB (F i) (F2 i) (L i) (L2 i)) (f := fun i => i) hk h]
  simp
theorem rowsEqB_yes {o : Nat} {L L2 : Nat → Nat} {F F2 : Nat → Nat → Int} (h : ∀ k, k < o → rowEqB (F k) (F2 k) (L k) (L2 k) = true) : rowsEqB o o L L2 F F2 = true := by
  unfold rowsEqB
  rw [allP_iff.2 h]
  simp
def sameGB (n n2 m m2 o o2 : Nat) (L L2 : Nat → Nat) (f f2 g g2 : Nat → Int) (F F2 : Nat → Nat → Int) : Bool := rowEqB f f2 n n2 && (rowEqB g g2 m m2 && rowsEqB o o2 L L2 F F2)
theorem equalFuncRows_any (C C2 : Option Addr) (o q o2 q2 : Nat) (P P2 : Nat → Option Addr) (L K L2 K2 : Nat → Nat) (F F2 : Nat → Nat → Int) (w : World)
  (ho : o ≤ 1048576) (ho2 : o2 ≤ 1048576) (hL : ∀ i, i < o → L i ≤ 1048576) (hL2 : ∀ i, i < o2 → L2 i ≤ 1048576) (hC : RRows w C o P L K F) (hC2 : RRows w C2 o2 P2 L2 K2 F2) :
    Calls Try.prog 102 #[.slice C o q, .slice C2 o2 q2, .func (.func 101) #[] #[]] w fun e w' => e = .returned (.bool (rowsEqB o o2 L L2 F F2)) ∧ ∃ z, w' = w.drewN z := by
  by_cases hl : o = o2
  rotate_left
  · have HR := Lib.hid (rowsEqB_len (L := L) (L2 := L2) (F := F) (F2 := F2) hl)
    have d1 : ¬ (o : Int) = o2 := by omega
    clear hC hC2 hL hL2
    go_enter Try.func102, Try.ntmps102
    go_wp2_with fail
    go_ret
    exact ⟨ret_bool HR.out.symm, 0, rfl⟩
  subst hl
  have HNO := Lib.hid (fun k (hk : k < o) h => rowsEqB_no (L := L) (L2 := L2) (F := F) (F2 := F2) hk h)
  have HYES := Lib.hid (fun h => rowsEqB_yes (o := o) (L := L) (L2 := L2) (F := F) (F2 := F2) h)
  have HE := Lib.hid (fun k (hk : k < o) W h1 h2 => slicesEqualI_any (P k) (P2 k) (L k) (L2 k) (K k) (K2 k) (F k) (F2 k) W (by have := hL k hk; omega) (by have := hL2 k hk; omega) h1 h2)
  have hC := Lib.hid hC
  have hC2 := Lib.hid hC2
  clear hL hL2
  generalize rowsEqB o o L L2 F F2 = r at *
  go_enter Try.func102, Try.ntmps102
  go_wp2_with fail
  go_loopw [7, 8, 17] (fun _ _ iv wr => ∃ k z : Nat, k ≤ o ∧ iv = .int .i64 k ∧ Hid (wr = w.drewN z) ∧ Hid (∀ j, j < k → rowEqB (F j) (F2 j) (L j) (L2 j) = true)) (fun _ _ iv _ => o - (intOf iv).toNat)
  case atStart => exact ⟨0, 0, Nat.zero_le _, rfl, rfl, fun j hj => by omega⟩
  case round =>
    obtain ⟨k, z, hk, rfl, hw, HP⟩ := hrel
    by_cases hlt : k < o
    rotate_left
    · have e1 : ¬ (k : Int) < o := by omega
      obtain rfl : o = k := by omega
      have HR := Lib.hid (HYES.out HP.out)
      clear HYES HNO HP
      go_wp2_with fail
      go_ret
      exact ⟨ret_bool HR.out.symm, z, hw.out⟩
    have e1 : (k : Int) < o := by omega
    obtain ⟨xa, rfl, ya⟩ := hC.out.top k hlt
    obtain ⟨xb, rfl, yb⟩ := hC2.out.top k hlt
    have ca : wr.cell? (xa.add k) = some (.slice (P k) (L k) (K k)) := by rw [hw.out]; exact ya
    have cb : wr.cell? (xb.add k) = some (.slice (P2 k) (L2 k) (K2 k)) := by rw [hw.out]; exact yb
    have HEk := Lib.hid (HE.out k hlt wr (by rw [hw.out]; exact (hC.out.row k hlt).below (drewN_below _ _ _)) (by rw [hw.out]; exact (hC2.out.row k hlt).below (drewN_below _ _ _)))
    have HNk := Lib.hid (HNO.out k hlt)
    have HPk := Lib.hid (show rowEqB (F k) (F2 k) (L k) (L2 k) = true → ∀ j, j < k + 1 → rowEqB (F j) (F2 j) (L j) (L2 j) = true from fun e j hj => by
      rcases Nat.lt_or_ge j k with h | h
      · exact HP.out j h
      · have : j = k := by omega
        subst this
        exact e)
    clear ya yb HP HNO HYES HE
    cases hz : rowEqB (F k) (F2 k) (L k) (L2 k)
    · rw [hz] at HEk
      have HR := Lib.hid (HNk.out hz)
      clear hz HNk HPk
      go_wp2_with fail
      refine HEk.out.mono ?_
      rintro e w' ⟨rfl, z2, rfl⟩
      go_wp2_with fail
      go_ret
      exact ⟨ret_bool HR.out.symm, z + z2, by rw [hw.out]; exact World.drewN_drewN ..⟩
    · rw [hz] at HEk
      have HR := Lib.hid (HPk.out hz)
      clear hz HNk HPk
      go_wp2_with fail
      refine HEk.out.mono ?_
      rintro e w' ⟨rfl, z2, rfl⟩
      go_wp2_with fail
      exact ⟨⟨k + 1, z + z2, by omega, by simp, by rw [hw.out]; exact World.drewN_drewN .., HR⟩, by simp [intOf]; omega⟩
set_option maxHeartbeats 4000000 in
theorem implSameGame_any
  (A B C : Option Addr) (n c m d o q : Nat) (P : Nat → Option Addr) (L K : Nat → Nat) (f g : Nat → Int) (F : Nat → Nat → Int)
  (A2 B2 C2 : Option Addr) (n2 c2 m2 d2 o2 q2 : Nat) (P2 : Nat → Option Addr) (L2 K2 : Nat → Nat) (f2 g2 : Nat → Int) (F2 : Nat → Nat → Int) (w : World)
  (hn : n ≤ 1048576) (hm : m ≤ 1048576) (ho : o ≤ 1048576) (hL : ∀ i, i < o → L i ≤ 1048576) (hA : Cells w A n (fun i => .int .i64 (f i))) (hB : Cells w B m (fun i => .int .i64 (g i))) (hC : RRows w C o P L K F)
  (hn2 : n2 ≤ 1048576) (hm2 : m2 ≤ 1048576) (ho2 : o2 ≤ 1048576) (hL2 : ∀ i, i < o2 → L2 i ≤ 1048576) (hA2 : Cells w A2 n2 (fun i => .int .i64 (f2 i))) (hB2 : Cells w B2 m2 (fun i => .int .i64 (g2 i))) (hC2 : RRows w C2 o2 P2 L2 K2 F2)
  : Calls Try.prog 35 #[.agg #[.slice A n c, .slice B m d, .slice C o q], .agg #[.slice A2 n2 c2, .slice B2 m2 d2, .slice C2 o2 q2]] w fun e w' => e = .returned (.bool (sameGB n n2 m m2 o o2 L L2 f f2 g g2 F F2)) ∧ Below w.heap.size w w' := by
  have HU := Lib.hid (show sameGB n n2 m m2 o o2 L L2 f f2 g g2 F F2 = (rowEqB f f2 n n2 && (rowEqB g g2 m m2 && rowsEqB o o2 L L2 F F2)) from rfl)
  have H1 := Lib.hid (fun W y1 y2 => slicesEqualI_any A A2 n n2 c c2 f f2 W (by omega) (by omega) y1 y2)
  have H2 := Lib.hid (fun W y1 y2 => slicesEqualI_any B B2 m m2 d d2 g g2 W (by omega) (by omega) y1 y2)
  have H3 := Lib.hid (fun W y1 y2 => equalFuncRows_any C C2 o q o2 q2 P P2 L K L2 K2 F F2 W ho ho2 hL hL2 y1 y2)
  have hA := Lib.hid hA
  have hB := Lib.hid hB
  have hC := Lib.hid hC
  have hA2 := Lib.hid hA2
  have hB2 := Lib.hid hB2
  have hC2 := Lib.hid hC2
  clear hL hL2
  generalize sameGB n n2 m m2 o o2 L L2 f f2 g g2 F F2 = r at *
  generalize rowEqB f f2 n n2 = r1 at *
  generalize rowEqB g g2 m m2 = r2 at *
  generalize rowsEqB o o2 L L2 F F2 = r3 at *
  cases r1
  · skip
    go_enter Try.func35, Try.ntmps35
    go_wp2_with fail
    refine (H1.out _ (hA.out.below (by repeat (first | with_reducible exact Below.refl _ _ | exact Hid.out (by with_reducible assumption) | refine Below.setCell ?_ (by simp <;> omega) _ | refine below_alloc ?_ _ | refine Below.alloc ?_ (by simp <;> omega) _ | refine Below.drew ?_ | refine below_drewN ?_ _ | exact Below.refl _ _))) (hA2.out.below (by repeat (first | with_reducible exact Below.refl _ _ | exact Hid.out (by with_reducible assumption) | refine Below.setCell ?_ (by simp <;> omega) _ | refine below_alloc ?_ _ | refine Below.alloc ?_ (by simp <;> omega) _ | refine Below.drew ?_ | refine below_drewN ?_ _ | exact Below.refl _ _)))).mono ?_
    rintro e w1 ⟨rfl, j1, rfl⟩
    go_wp2_with fail
    go_ret
    exact ⟨ret_bool (by rw [HU.out]; rfl), (by repeat (first | with_reducible exact Below.refl _ _ | exact Hid.out (by with_reducible assumption) | refine Below.setCell ?_ (by simp <;> omega) _ | refine below_alloc ?_ _ | refine Below.alloc ?_ (by simp <;> omega) _ | refine Below.drew ?_ | refine below_drewN ?_ _ | exact Below.refl _ _))⟩
  cases r2
  · skip
    go_enter Try.func35, Try.ntmps35
    go_wp2_with fail
    refine (H1.out _ (hA.out.below (by repeat (first | with_reducible exact Below.refl _ _ | exact Hid.out (by with_reducible assumption) | refine Below.setCell ?_ (by simp <;> omega) _ | refine below_alloc ?_ _ | refine Below.alloc ?_ (by simp <;> omega) _ | refine Below.drew ?_ | refine below_drewN ?_ _ | exact Below.refl _ _))) (hA2.out.below (by repeat (first | with_reducible exact Below.refl _ _ | exact Hid.out (by with_reducible assumption) | refine Below.setCell ?_ (by simp <;> omega) _ | refine below_alloc ?_ _ | refine Below.alloc ?_ (by simp <;> omega) _ | refine Below.drew ?_ | refine below_drewN ?_ _ | exact Below.refl _ _)))).mono ?_
    rintro e w1 ⟨rfl, j1, rfl⟩
    go_wp2_with fail
    refine (H2.out _ (hB.out.below (by repeat (first | with_reducible exact Below.refl _ _ | exact Hid.out (by with_reducible assumption) | refine Below.setCell ?_ (by simp <;> omega) _ | refine below_alloc ?_ _ | refine Below.alloc ?_ (by simp <;> omega) _ | refine Below.drew ?_ | refine below_drewN ?_ _ | exact Below.refl _ _))) (hB2.out.below (by repeat (first | with_reducible exact Below.refl _ _ | exact Hid.out (by with_reducible assumption) | refine Below.setCell ?_ (by simp <;> omega) _ | refine below_alloc ?_ _ | refine Below.alloc ?_ (by simp <;> omega) _ | refine Below.drew ?_ | refine below_drewN ?_ _ | exact Below.refl _ _)))).mono ?_
    rintro e w2 ⟨rfl, j2, rfl⟩
    go_wp2_with fail
    go_ret
    exact ⟨ret_bool (by rw [HU.out]; rfl), (by repeat (first | with_reducible exact Below.refl _ _ | exact Hid.out (by with_reducible assumption) | refine Below.setCell ?_ (by simp <;> omega) _ | refine below_alloc ?_ _ | refine Below.alloc ?_ (by simp <;> omega) _ | refine Below.drew ?_ | refine below_drewN ?_ _ | exact Below.refl _ _))⟩
  go_enter Try.func35, Try.ntmps35
  go_wp2_with fail
  refine (H1.out _ (hA.out.below (by repeat (first | with_reducible exact Below.refl _ _ | exact Hid.out (by with_reducible assumption) | refine Below.setCell ?_ (by simp <;> omega) _ | refine below_alloc ?_ _ | refine Below.alloc ?_ (by simp <;> omega) _ | refine Below.drew ?_ | refine below_drewN ?_ _ | exact Below.refl _ _))) (hA2.out.below (by repeat (first | with_reducible exact Below.refl _ _ | exact Hid.out (by with_reducible assumption) | refine Below.setCell ?_ (by simp <;> omega) _ | refine below_alloc ?_ _ | refine Below.alloc ?_ (by simp <;> omega) _ | refine Below.drew ?_ | refine below_drewN ?_ _ | exact Below.refl _ _)))).mono ?_
  rintro e w1 ⟨rfl, j1, rfl⟩
  go_wp2_with fail
  refine (H2.out _ (hB.out.below (by repeat (first | with_reducible exact Below.refl _ _ | exact Hid.out (by with_reducible assumption) | refine Below.setCell ?_ (by simp <;> omega) _ | refine below_alloc ?_ _ | refine Below.alloc ?_ (by simp <;> omega) _ | refine Below.drew ?_ | refine below_drewN ?_ _ | exact Below.refl _ _))) (hB2.out.below (by repeat (first | with_reducible exact Below.refl _ _ | exact Hid.out (by with_reducible assumption) | refine Below.setCell ?_ (by simp <;> omega) _ | refine below_alloc ?_ _ | refine Below.alloc ?_ (by simp <;> omega) _ | refine Below.drew ?_ | refine below_drewN ?_ _ | exact Below.refl _ _)))).mono ?_
  rintro e w2 ⟨rfl, j2, rfl⟩
  go_wp2_with fail
  refine (H3.out _ (hC.out.below (by repeat (first | with_reducible exact Below.refl _ _ | exact Hid.out (by with_reducible assumption) | refine Below.setCell ?_ (by simp <;> omega) _ | refine below_alloc ?_ _ | refine Below.alloc ?_ (by simp <;> omega) _ | refine Below.drew ?_ | refine below_drewN ?_ _ | exact Below.refl _ _))) (hC2.out.below (by repeat (first | with_reducible exact Below.refl _ _ | exact Hid.out (by with_reducible assumption) | refine Below.setCell ?_ (by simp <;> omega) _ | refine below_alloc ?_ _ | refine Below.alloc ?_ (by simp <;> omega) _ | refine Below.drew ?_ | refine below_drewN ?_ _ | exact Below.refl _ _)))).mono ?_
  rintro e w3 ⟨rfl, j3, rfl⟩
  go_wp2_with fail
  go_ret
  exact ⟨ret_bool (by rw [HU.out] <;> cases r3 <;> rfl), (by repeat (first | with_reducible exact Below.refl _ _ | exact Hid.out (by with_reducible assumption) | refine Below.setCell ?_ (by simp <;> omega) _ | refine below_alloc ?_ _ | refine Below.alloc ?_ (by simp <;> omega) _ | refine Below.drew ?_ | refine below_drewN ?_ _ | exact Below.refl _ _))⟩
end Go.Proofs.Ytfpombhhnojjhaa
