/- Games compared: the reference. -/
import Derived.Test.YtfpombhhnojjhaaSameG
import Derived.BigQuiet
set_option linter.unusedVariables false
set_option linter.unusedSimpArgs false
namespace Go.Proofs.Ytfpombhhnojjhaa
open Go.RowKit
set_option maxHeartbeats 8000000 in
theorem specSameGame_any
  (A B C : Option Addr) (n c m d o q : Nat) (P : Nat → Option Addr) (L K : Nat → Nat) (f g : Nat → Int) (F : Nat → Nat → Int)
  (A2 B2 C2 : Option Addr) (n2 c2 m2 d2 o2 q2 : Nat) (P2 : Nat → Option Addr) (L2 K2 : Nat → Nat) (f2 g2 : Nat → Int) (F2 : Nat → Nat → Int) (w : World)
  (hn : n ≤ 1048576) (hm : m ≤ 1048576) (ho : o ≤ 1048576) (hL : ∀ i, i < o → L i ≤ 1048576) (hA : Cells w A n (fun i => .int .i64 (f i))) (hB : Cells w B m (fun i => .int .i64 (g i))) (hC : RRows w C o P L K F)
  (hn2 : n2 ≤ 1048576) (hm2 : m2 ≤ 1048576) (ho2 : o2 ≤ 1048576) (hL2 : ∀ i, i < o2 → L2 i ≤ 1048576) (hA2 : Cells w A2 n2 (fun i => .int .i64 (f2 i))) (hB2 : Cells w B2 m2 (fun i => .int .i64 (g2 i))) (hC2 : RRows w C2 o2 P2 L2 K2 F2)
  : Calls Try.prog 34 #[.agg #[.slice A n c, .slice B m d, .slice C o q], .agg #[.slice A2 n2 c2, .slice B2 m2 d2, .slice C2 o2 q2]] w fun e w' => e = .returned (.bool (sameGB n n2 m m2 o o2 L L2 f f2 g g2 F F2)) ∧ Below w.heap.size w w' := by
  have HU := Lib.hid (show sameGB n n2 m m2 o o2 L L2 f f2 g g2 F F2 = (rowEqB f f2 n n2 && (rowEqB g g2 m m2 && rowsEqB o o2 L L2 F F2)) from rfl)
  have H1 := Lib.hid (fun W y1 y2 => l00Same_any A A2 n n2 c c2 f f2 W (by omega) (by omega) y1 y2)
  have H2 := Lib.hid (fun W y1 y2 => l00Same_any B B2 m m2 d d2 g g2 W (by omega) (by omega) y1 y2)
  have HE := Lib.hid (fun k (hk : k < o) (hk2 : k < o2) W h1 h2 => l00Same_any (P k) (P2 k) (L k) (L2 k) (K k) (K2 k) (F k) (F2 k) W (by have := hL k hk; omega) (by have := hL2 k hk2; omega) h1 h2)
  have HLEN := Lib.hid (fun h => rowsEqB_len (o := o) (o2 := o2) (L := L) (L2 := L2) (F := F) (F2 := F2) h)
  have HNO := Lib.hid (fun (e : o = o2) k (hk : k < o) h => show rowsEqB o o2 L L2 F F2 = false from e ▸ rowsEqB_no (L := L) (L2 := L2) (F := F) (F2 := F2) hk h)
  have HYES := Lib.hid (fun (e : o = o2) h => show rowsEqB o o2 L L2 F F2 = true from e ▸ rowsEqB_yes (o := o) (L := L) (L2 := L2) (F := F) (F2 := F2) h)
  have X0 := Lib.hid (Box3.alloc (Box3.new w 48 (.slice A n c) (.slice B m d) (.slice C o q)) (.cells #[.slice A2 n2 c2, .slice B2 m2 d2, .slice C2 o2 q2] 48))
  have Y0 := Lib.hid (show Box3 ((w.alloc (.cells #[.slice A n c, .slice B m d, .slice C o q] 48)).alloc (.cells #[.slice A2 n2 c2, .slice B2 m2 d2, .slice C2 o2 q2] 48)) (w.heap.size + 1) (.slice A2 n2 c2) (.slice B2 m2 d2) (.slice C2 o2 q2) from ⟨by simp [go_sem], by simp [go_sem], by simp [go_sem]⟩)
  have hA := Lib.hid hA
  have hB := Lib.hid hB
  have hC := Lib.hid hC
  have hA2 := Lib.hid hA2
  have hB2 := Lib.hid hB2
  have hC2 := Lib.hid hC2
  clear hL hL2
  generalize sameGB n n2 m m2 o o2 L L2 f f2 g g2 F F2 = r at *
  generalize rowEqB f f2 n n2 = r1 at *
  generalize rowEqB g g2 m m2 = r2 at *
  generalize rowsEqB o o2 L L2 F F2 = r3 at *
  cases r1
  · skip
    go_enter Try.func34, Try.ntmps34
    go_wp2_with fail
    refine (H1.out _ (hA.out.below (by repeat (first | with_reducible exact Below.refl _ _ | exact Hid.out (by with_reducible assumption) | refine Below.setCell ?_ (by simp <;> omega) _ | refine below_alloc ?_ _ | refine Below.alloc ?_ (by simp <;> omega) _ | refine Below.drew ?_ | refine below_drewN ?_ _ | exact Below.refl _ _))) (hA2.out.below (by repeat (first | with_reducible exact Below.refl _ _ | exact Hid.out (by with_reducible assumption) | refine Below.setCell ?_ (by simp <;> omega) _ | refine below_alloc ?_ _ | refine Below.alloc ?_ (by simp <;> omega) _ | refine Below.drew ?_ | refine below_drewN ?_ _ | exact Below.refl _ _)))).mono ?_
    rintro e w1 ⟨rfl, j1, rfl⟩
    go_wp2_with fail
    go_ret
    exact ⟨ret_bool (by rw [HU.out]; rfl), (by repeat (first | with_reducible exact Below.refl _ _ | exact Hid.out (by with_reducible assumption) | refine Below.setCell ?_ (by simp <;> omega) _ | refine below_alloc ?_ _ | refine Below.alloc ?_ (by simp <;> omega) _ | refine Below.drew ?_ | refine below_drewN ?_ _ | exact Below.refl _ _))⟩
  cases r2
  · skip
    go_enter Try.func34, Try.ntmps34
    go_wp2_with fail
    refine (H1.out _ (hA.out.below (by repeat (first | with_reducible exact Below.refl _ _ | exact Hid.out (by with_reducible assumption) | refine Below.setCell ?_ (by simp <;> omega) _ | refine below_alloc ?_ _ | refine Below.alloc ?_ (by simp <;> omega) _ | refine Below.drew ?_ | refine below_drewN ?_ _ | exact Below.refl _ _))) (hA2.out.below (by repeat (first | with_reducible exact Below.refl _ _ | exact Hid.out (by with_reducible assumption) | refine Below.setCell ?_ (by simp <;> omega) _ | refine below_alloc ?_ _ | refine Below.alloc ?_ (by simp <;> omega) _ | refine Below.drew ?_ | refine below_drewN ?_ _ | exact Below.refl _ _)))).mono ?_
    rintro e w1 ⟨rfl, j1, rfl⟩
    go_wp2_with fail
    refine (H2.out _ (hB.out.below (by repeat (first | with_reducible exact Below.refl _ _ | exact Hid.out (by with_reducible assumption) | refine Below.setCell ?_ (by simp <;> omega) _ | refine below_alloc ?_ _ | refine Below.alloc ?_ (by simp <;> omega) _ | refine Below.drew ?_ | refine below_drewN ?_ _ | exact Below.refl _ _))) (hB2.out.below (by repeat (first | with_reducible exact Below.refl _ _ | exact Hid.out (by with_reducible assumption) | refine Below.setCell ?_ (by simp <;> omega) _ | refine below_alloc ?_ _ | refine Below.alloc ?_ (by simp <;> omega) _ | refine Below.drew ?_ | refine below_drewN ?_ _ | exact Below.refl _ _)))).mono ?_
    rintro e w2 ⟨rfl, j2, hj⟩
    have N2 := Lib.hid (show Below w.heap.size w w2 from by rw [hj]; exact (by repeat (first | with_reducible exact Below.refl _ _ | exact Hid.out (by with_reducible assumption) | refine Below.setCell ?_ (by simp <;> omega) _ | refine below_alloc ?_ _ | refine Below.alloc ?_ (by simp <;> omega) _ | refine Below.drew ?_ | refine below_drewN ?_ _ | exact Below.refl _ _)))
    have S2 := Lib.hid (show w.heap.size + 1 < w2.heap.size from by rw [hj]; simp)
    have X2 := Lib.hid (show Box3 w2 w.heap.size _ _ _ from by rw [hj, World.drewN_drewN]; exact X0.out.below (drewN_below _ _ _))
    have Y2 := Lib.hid (show Box3 w2 (w.heap.size + 1) _ _ _ from by rw [hj, World.drewN_drewN]; exact Y0.out.below (drewN_below _ _ _))
    clear hj X0 Y0
    obtain ⟨x0, x1, x2⟩ := X2.out
    obtain ⟨y0, y1, y2⟩ := Y2.out
    go_wp2_with fail
    go_ret
    exact ⟨ret_bool (by rw [HU.out]; rfl), N2.out⟩
  by_cases hoo : o = o2
  rotate_left
  · have b3 : ((o : Int) != o2) = true := by simp; omega
    have HR := Lib.hid (HLEN.out hoo)
    go_enter Try.func34, Try.ntmps34
    go_wp2_with fail
    refine (H1.out _ (hA.out.below (by repeat (first | with_reducible exact Below.refl _ _ | exact Hid.out (by with_reducible assumption) | refine Below.setCell ?_ (by simp <;> omega) _ | refine below_alloc ?_ _ | refine Below.alloc ?_ (by simp <;> omega) _ | refine Below.drew ?_ | refine below_drewN ?_ _ | exact Below.refl _ _))) (hA2.out.below (by repeat (first | with_reducible exact Below.refl _ _ | exact Hid.out (by with_reducible assumption) | refine Below.setCell ?_ (by simp <;> omega) _ | refine below_alloc ?_ _ | refine Below.alloc ?_ (by simp <;> omega) _ | refine Below.drew ?_ | refine below_drewN ?_ _ | exact Below.refl _ _)))).mono ?_
    rintro e w1 ⟨rfl, j1, rfl⟩
    go_wp2_with fail
    refine (H2.out _ (hB.out.below (by repeat (first | with_reducible exact Below.refl _ _ | exact Hid.out (by with_reducible assumption) | refine Below.setCell ?_ (by simp <;> omega) _ | refine below_alloc ?_ _ | refine Below.alloc ?_ (by simp <;> omega) _ | refine Below.drew ?_ | refine below_drewN ?_ _ | exact Below.refl _ _))) (hB2.out.below (by repeat (first | with_reducible exact Below.refl _ _ | exact Hid.out (by with_reducible assumption) | refine Below.setCell ?_ (by simp <;> omega) _ | refine below_alloc ?_ _ | refine Below.alloc ?_ (by simp <;> omega) _ | refine Below.drew ?_ | refine below_drewN ?_ _ | exact Below.refl _ _)))).mono ?_
    rintro e w2 ⟨rfl, j2, hj⟩
    have N2 := Lib.hid (show Below w.heap.size w w2 from by rw [hj]; exact (by repeat (first | with_reducible exact Below.refl _ _ | exact Hid.out (by with_reducible assumption) | refine Below.setCell ?_ (by simp <;> omega) _ | refine below_alloc ?_ _ | refine Below.alloc ?_ (by simp <;> omega) _ | refine Below.drew ?_ | refine below_drewN ?_ _ | exact Below.refl _ _)))
    have S2 := Lib.hid (show w.heap.size + 1 < w2.heap.size from by rw [hj]; simp)
    have X2 := Lib.hid (show Box3 w2 w.heap.size _ _ _ from by rw [hj, World.drewN_drewN]; exact X0.out.below (drewN_below _ _ _))
    have Y2 := Lib.hid (show Box3 w2 (w.heap.size + 1) _ _ _ from by rw [hj, World.drewN_drewN]; exact Y0.out.below (drewN_below _ _ _))
    clear hj X0 Y0
    obtain ⟨x0, x1, x2⟩ := X2.out
    obtain ⟨y0, y1, y2⟩ := Y2.out
    go_wp2_with fail
    go_ret
    exact ⟨ret_bool (by rw [HU.out, HR.out]; rfl), N2.out⟩
  have b3 : ((o : Int) != o2) = false := by simp; omega
  have HNO := Lib.hid (HNO.out hoo)
  have HYES := Lib.hid (HYES.out hoo)
  have HOO := Lib.hid hoo
  clear hoo HLEN
  go_enter Try.func34, Try.ntmps34
  go_wp2_with fail
  refine (H1.out _ (hA.out.below (by repeat (first | with_reducible exact Below.refl _ _ | exact Hid.out (by with_reducible assumption) | refine Below.setCell ?_ (by simp <;> omega) _ | refine below_alloc ?_ _ | refine Below.alloc ?_ (by simp <;> omega) _ | refine Below.drew ?_ | refine below_drewN ?_ _ | exact Below.refl _ _))) (hA2.out.below (by repeat (first | with_reducible exact Below.refl _ _ | exact Hid.out (by with_reducible assumption) | refine Below.setCell ?_ (by simp <;> omega) _ | refine below_alloc ?_ _ | refine Below.alloc ?_ (by simp <;> omega) _ | refine Below.drew ?_ | refine below_drewN ?_ _ | exact Below.refl _ _)))).mono ?_
  rintro e w1 ⟨rfl, j1, rfl⟩
  go_wp2_with fail
  refine (H2.out _ (hB.out.below (by repeat (first | with_reducible exact Below.refl _ _ | exact Hid.out (by with_reducible assumption) | refine Below.setCell ?_ (by simp <;> omega) _ | refine below_alloc ?_ _ | refine Below.alloc ?_ (by simp <;> omega) _ | refine Below.drew ?_ | refine below_drewN ?_ _ | exact Below.refl _ _))) (hB2.out.below (by repeat (first | with_reducible exact Below.refl _ _ | exact Hid.out (by with_reducible assumption) | refine Below.setCell ?_ (by simp <;> omega) _ | refine below_alloc ?_ _ | refine Below.alloc ?_ (by simp <;> omega) _ | refine Below.drew ?_ | refine below_drewN ?_ _ | exact Below.refl _ _)))).mono ?_
  rintro e w2 ⟨rfl, j2, hj⟩
  have N2 := Lib.hid (show Below w.heap.size w w2 from by rw [hj]; exact (by repeat (first | with_reducible exact Below.refl _ _ | exact Hid.out (by with_reducible assumption) | refine Below.setCell ?_ (by simp <;> omega) _ | refine below_alloc ?_ _ | refine Below.alloc ?_ (by simp <;> omega) _ | refine Below.drew ?_ | refine below_drewN ?_ _ | exact Below.refl _ _)))
  have S2 := Lib.hid (show w.heap.size + 1 < w2.heap.size from by rw [hj]; simp)
  have X2 := Lib.hid (show Box3 w2 w.heap.size _ _ _ from by rw [hj, World.drewN_drewN]; exact X0.out.below (drewN_below _ _ _))
  have Y2 := Lib.hid (show Box3 w2 (w.heap.size + 1) _ _ _ from by rw [hj, World.drewN_drewN]; exact Y0.out.below (drewN_below _ _ _))
  clear hj X0 Y0
  obtain ⟨x0, x1, x2⟩ := X2.out
  obtain ⟨y0, y1, y2⟩ := Y2.out
  go_wp2_with fail
  go_loopw [32] (fun iv wr => ∃ k z : Nat, k ≤ o ∧ iv = .int .i64 k ∧ Hid (wr = w2.drewN z) ∧ Hid (∀ j, j < k → rowEqB (F j) (F2 j) (L j) (L2 j) = true)) (fun iv _ => o - (intOf iv).toNat)
  case atStart => exact ⟨0, 0, Nat.zero_le _, rfl, rfl, fun j hj => by omega⟩
  case round =>
    obtain ⟨k, z, hk, rfl, hw, HP⟩ := hrel
    have X3 := Lib.hid (show Box3 wr _ _ _ _ from by rw [hw.out]; exact X2.out.below (drewN_below _ _ _))
    have Y3 := Lib.hid (show Box3 wr _ _ _ _ from by rw [hw.out]; exact Y2.out.below (drewN_below _ _ _))
    clear x0 x1 x2 y0 y1 y2
    obtain ⟨x0, x1, x2⟩ := X3.out
    obtain ⟨y0, y1, y2⟩ := Y3.out
    by_cases hlt : k < o
    rotate_left
    · have e1 : ¬ (k : Int) < o := by omega
      obtain rfl : o = k := by omega
      have HR := Lib.hid (HYES.out HP.out)
      clear HYES HNO HP
      go_wp2_with fail
      go_ret
      exact ⟨ret_bool (by rw [HU.out, HR.out]; rfl), (by rw [hw.out]; exact below_drewN N2.out _)⟩
    have e1 : (k : Int) < o := by omega
    have hlt2 : k < o2 := by have := HOO.out; omega
    have e2 : (k : Int) < o2 := by omega
    have RA := Lib.hid (hC.out.below N2.out)
    have RB := Lib.hid (hC2.out.below N2.out)
    obtain ⟨xa, rfl, ya⟩ := RA.out.top k hlt
    obtain ⟨xb, rfl, yb⟩ := RB.out.top k hlt2
    have ca : wr.cell? (xa.add k) = some (.slice (P k) (L k) (K k)) := by rw [hw.out]; exact ya
    have cb : wr.cell? (xb.add k) = some (.slice (P2 k) (L2 k) (K2 k)) := by rw [hw.out]; exact yb
    have HEk := Lib.hid (fun q => HE.out k hlt hlt2 (wr.drewN q) (by rw [hw.out, World.drewN_drewN]; exact (RA.out.row k hlt).below (drewN_below _ _ _)) (by rw [hw.out, World.drewN_drewN]; exact (RB.out.row k hlt2).below (drewN_below _ _ _)))
    have HNk := Lib.hid (HNO.out k hlt)
    have HPk := Lib.hid (show rowEqB (F k) (F2 k) (L k) (L2 k) = true → ∀ j, j < k + 1 → rowEqB (F j) (F2 j) (L j) (L2 j) = true from fun e j hj => by
      rcases Nat.lt_or_ge j k with h | h
      · exact HP.out j h
      · have : j = k := by omega
        subst this
        exact e)
    clear ya yb HP HNO HYES HE
    cases hz : rowEqB (F k) (F2 k) (L k) (L2 k)
    · rw [hz] at HEk
      have HR := Lib.hid (HNk.out hz)
      clear hz HNk HPk
      go_wp2_with fail
      go_quiet (exact Calls.quiet_of (HEk.out _))
      go_wp2_with fail
      go_ret
      exact ⟨ret_bool (by rw [HU.out, HR.out]; rfl), (by rw [hw.out]; exact below_drewN (below_drewN N2.out _) _)⟩
    · rw [hz] at HEk
      have HR := Lib.hid (HPk.out hz)
      clear hz HNk HPk
      go_wp2_with fail
      go_quiet (exact Calls.quiet_of (HEk.out _))
      go_wp2_with fail
      exact ⟨⟨k + 1, z + nq, by omega, by simp, by rw [hw.out]; exact World.drewN_drewN .., HR⟩, by simp [intOf]; omega⟩
end Go.Proofs.Ytfpombhhnojjhaa
