/- Loops: whether they are valid, on both sides. -/
import Derived.Test.YtpelmfanchkpeaaLoopM
import Derived.Test.YtpelmfanchkpeaaWordC
set_option linter.unusedVariables false
namespace Go.Proofs.Ytpelmfanchkpeaa
open Go.RowKit

/-- A valid loop. -/
def validL (l : Int) (n m : Nat) (f g : Nat → Int) : Bool := inB l 1 4 && (wordB f n (l - 1) && (wordB g m (l - 1) && decide (1 ≤ m)))
theorem validL_iff {l : Int} {n m : Nat} {f g : Nat → Int} : validL l n m f g = true ↔ 1 ≤ l ∧ l ≤ 4 ∧ (∀ i, i < n → 0 ≤ f i ∧ f i ≤ l - 1) ∧ n ≤ 12 ∧ (∀ i, i < m → 0 ≤ g i ∧ g i ≤ l - 1) ∧ m ≤ 12 ∧ 1 ≤ m := by
  unfold validL
  simp only [Bool.and_eq_true, inB_iff, decide_eq_true_eq, wordB_iff, and_assoc]

theorem implValidLoop_any (A B : Option Addr) (n c m d : Nat) (f g : Nat → Int) (l : Int) (w : World) (hn : n ≤ 1048576) (hm : m ≤ 1048576) (hA : Cells w A n (fun i => .int .i64 (f i))) (hB : Cells w B m (fun i => .int .i64 (g i))) :
    Calls Try.prog 18 #[.agg #[.slice A n c, .slice B m d], .int .i64 l] w fun e w' => e = .returned (.bool (validL l n m f g)) ∧ Below w.heap.size w w' := by
  have HU := Lib.hid (show validL l n m f g = (inB l 1 4 && (wordB f n (l - 1) && (wordB g m (l - 1) && decide (1 ≤ m)))) from rfl)
  have HA := Lib.hid hA
  have HB := Lib.hid hB
  have H1 := Lib.hid (fun W k => implIsWord_any A n c f l W (by omega) k)
  have H2 := Lib.hid (fun W k => implIsWord_any B m d g l W (by omega) k)
  generalize validL l n m f g = r at *
  generalize inB l 1 4 = r0 at *
  generalize wordB f n (l - 1) = r1 at *
  generalize wordB g m (l - 1) = r2 at *
  clear hA hB
  cases h1 : (r0 && r1)
  · rw [h1] at H1
    go_enter Try.func18, Try.ntmps18
    go_wp2_with fail
    refine (H1.out _ (HA.out.below (by repeat (first | with_reducible exact Below.refl _ _ | exact Hid.out (by with_reducible assumption) | refine Below.setCell ?_ (by simp <;> omega) _ | refine below_alloc ?_ _ | refine Below.alloc ?_ (by simp <;> omega) _ | refine Below.drew ?_ | refine below_drewN ?_ _ | exact Below.refl _ _)))).mono ?_
    rintro e w' ⟨rfl, rfl⟩
    go_wp2_with fail
    go_ret
    exact ⟨ret_bool (by rw [HU.out]; revert h1; cases r0 <;> cases r1 <;> simp), (by repeat (first | with_reducible exact Below.refl _ _ | exact Hid.out (by with_reducible assumption) | refine Below.setCell ?_ (by simp <;> omega) _ | refine below_alloc ?_ _ | refine Below.alloc ?_ (by simp <;> omega) _ | refine Below.drew ?_ | refine below_drewN ?_ _ | exact Below.refl _ _))⟩
  rw [h1] at H1
  obtain ⟨rfl, rfl⟩ := Bool.and_eq_true_iff.1 h1
  cases r2
  · go_enter Try.func18, Try.ntmps18
    go_wp2_with fail
    refine (H1.out _ (HA.out.below (by repeat (first | with_reducible exact Below.refl _ _ | exact Hid.out (by with_reducible assumption) | refine Below.setCell ?_ (by simp <;> omega) _ | refine below_alloc ?_ _ | refine Below.alloc ?_ (by simp <;> omega) _ | refine Below.drew ?_ | refine below_drewN ?_ _ | exact Below.refl _ _)))).mono ?_
    rintro e w' ⟨rfl, rfl⟩
    go_wp2_with fail
    refine (H2.out _ (HB.out.below (by repeat (first | with_reducible exact Below.refl _ _ | exact Hid.out (by with_reducible assumption) | refine Below.setCell ?_ (by simp <;> omega) _ | refine below_alloc ?_ _ | refine Below.alloc ?_ (by simp <;> omega) _ | refine Below.drew ?_ | refine below_drewN ?_ _ | exact Below.refl _ _)))).mono ?_
    rintro e w' ⟨rfl, rfl⟩
    go_wp2_with fail
    go_ret
    exact ⟨ret_bool (by rw [HU.out]; simp), (by repeat (first | with_reducible exact Below.refl _ _ | exact Hid.out (by with_reducible assumption) | refine Below.setCell ?_ (by simp <;> omega) _ | refine below_alloc ?_ _ | refine Below.alloc ?_ (by simp <;> omega) _ | refine Below.drew ?_ | refine below_drewN ?_ _ | exact Below.refl _ _))⟩
  · go_enter Try.func18, Try.ntmps18
    go_wp2_with fail
    refine (H1.out _ (HA.out.below (by repeat (first | with_reducible exact Below.refl _ _ | exact Hid.out (by with_reducible assumption) | refine Below.setCell ?_ (by simp <;> omega) _ | refine below_alloc ?_ _ | refine Below.alloc ?_ (by simp <;> omega) _ | refine Below.drew ?_ | refine below_drewN ?_ _ | exact Below.refl _ _)))).mono ?_
    rintro e w' ⟨rfl, rfl⟩
    go_wp2_with fail
    refine (H2.out _ (HB.out.below (by repeat (first | with_reducible exact Below.refl _ _ | exact Hid.out (by with_reducible assumption) | refine Below.setCell ?_ (by simp <;> omega) _ | refine below_alloc ?_ _ | refine Below.alloc ?_ (by simp <;> omega) _ | refine Below.drew ?_ | refine below_drewN ?_ _ | exact Below.refl _ _)))).mono ?_
    rintro e w' ⟨rfl, rfl⟩
    go_wp2_with fail
    go_ret
    exact ⟨ret_bool (by rw [HU.out]; simp <;> omega), (by repeat (first | with_reducible exact Below.refl _ _ | exact Hid.out (by with_reducible assumption) | refine Below.setCell ?_ (by simp <;> omega) _ | refine below_alloc ?_ _ | refine Below.alloc ?_ (by simp <;> omega) _ | refine Below.drew ?_ | refine below_drewN ?_ _ | exact Below.refl _ _))⟩
theorem l07Loop_any (P : Nat) (A B : Option Addr) (n c m d : Nat) (f g : Nat → Int) (l : Int) (w : World) (hn : n ≤ 1048576) (hm : m ≤ 1048576) (hA : Cells w A n (fun i => .int .i64 (f i))) (hB : Cells w B m (fun i => .int .i64 (g i)))
    (b : Box2 w P (.slice A n c) (.slice B m d)) :
    Calls Try.prog 52 #[.pointer (some ⟨P, 0, none⟩), .int .i64 l] w fun e w' => e = .returned (.bool (validL l n m f g)) ∧ w = w' := by
  have HU := Lib.hid (show validL l n m f g = (inB l 1 4 && (wordB f n (l - 1) && (wordB g m (l - 1) && decide (1 ≤ m)))) from rfl)
  obtain ⟨x0, x1⟩ := b
  generalize validL l n m f g = r at *
  cases h0 : inB l 1 4
  · have H0 := Lib.hid (l00In_is h0)
    rw [h0] at HU
    clear h0
    go_enter Try.func52, Try.ntmps52
    go_wp2_with fail
    refine (H0.out _).mono ?_
    rintro e w' ⟨rfl, hw'⟩
    obtain rfl := hw'.symm
    clear hw'
    go_wp2_with fail
    go_ret
    exact ⟨ret_bool (by rw [HU.out]; rfl), rfl⟩
  have hl := inB_iff.1 h0
  have H0 := Lib.hid (l00In_is h0)
  rw [h0] at HU
  clear h0
  have H1 := Lib.hid (l02Word_any A n c f l w (by omega) hA hl.1 hl.2)
  have H2 := Lib.hid (l02Word_any B m d g l w (by omega) hB hl.1 hl.2)
  clear hA hB hl
  generalize wordB f n (l - 1) = r1 at *
  generalize wordB g m (l - 1) = r2 at *
  cases r1
  · go_enter Try.func52, Try.ntmps52
    go_wp2_with fail
    refine (H0.out _).mono ?_
    rintro e w' ⟨rfl, hw'⟩
    obtain rfl := hw'.symm
    clear hw'
    go_wp2_with fail
    refine H1.out.mono ?_
    rintro e w' ⟨rfl, rfl⟩
    go_wp2_with fail
    go_ret
    exact ⟨ret_bool (by rw [HU.out]; simp), rfl⟩
  cases r2
  · go_enter Try.func52, Try.ntmps52
    go_wp2_with fail
    refine (H0.out _).mono ?_
    rintro e w' ⟨rfl, hw'⟩
    obtain rfl := hw'.symm
    clear hw'
    go_wp2_with fail
    refine H1.out.mono ?_
    rintro e w' ⟨rfl, rfl⟩
    go_wp2_with fail
    refine H2.out.mono ?_
    rintro e w' ⟨rfl, rfl⟩
    go_wp2_with fail
    go_ret
    exact ⟨ret_bool (by rw [HU.out]; simp), rfl⟩
  · go_enter Try.func52, Try.ntmps52
    go_wp2_with fail
    refine (H0.out _).mono ?_
    rintro e w' ⟨rfl, hw'⟩
    obtain rfl := hw'.symm
    clear hw'
    go_wp2_with fail
    refine H1.out.mono ?_
    rintro e w' ⟨rfl, rfl⟩
    go_wp2_with fail
    refine H2.out.mono ?_
    rintro e w' ⟨rfl, rfl⟩
    go_wp2_with fail
    go_ret
    exact ⟨ret_bool (by rw [HU.out]; simp <;> omega), rfl⟩
theorem specValidLoop_any (A B : Option Addr) (n c m d : Nat) (f g : Nat → Int) (l : Int) (w : World) (hn : n ≤ 1048576) (hm : m ≤ 1048576) (hA : Cells w A n (fun i => .int .i64 (f i))) (hB : Cells w B m (fun i => .int .i64 (g i))) :
    Calls Try.prog 16 #[.agg #[.slice A n c, .slice B m d], .int .i64 l] w fun e w' => e = .returned (.bool (validL l n m f g)) ∧ Below w.heap.size w w' := by
  have HA := Lib.hid hA
  have HB := Lib.hid hB
  have HL := Lib.hid (fun P W a b x => l07Loop_any P A B n c m d f g l W hn hm a b x)
  clear hA hB
  generalize validL l n m f g = r at *
  go_enter Try.func16, Try.ntmps16
  go_wp2_with fail
  refine (HL.out w.heap.size _ (HA.out.below (by repeat (first | with_reducible exact Below.refl _ _ | exact Hid.out (by with_reducible assumption) | refine Below.setCell ?_ (by simp <;> omega) _ | refine below_alloc ?_ _ | refine Below.alloc ?_ (by simp <;> omega) _ | refine Below.drew ?_ | refine below_drewN ?_ _ | exact Below.refl _ _))) (HB.out.below (by repeat (first | with_reducible exact Below.refl _ _ | exact Hid.out (by with_reducible assumption) | refine Below.setCell ?_ (by simp <;> omega) _ | refine below_alloc ?_ _ | refine Below.alloc ?_ (by simp <;> omega) _ | refine Below.drew ?_ | refine below_drewN ?_ _ | exact Below.refl _ _))) (Box2.new w _ _ _)).mono ?_
  rintro e w' ⟨rfl, rfl⟩
  go_wp2_with fail
  go_ret
  exact ⟨rfl, (by repeat (first | with_reducible exact Below.refl _ _ | exact Hid.out (by with_reducible assumption) | refine Below.setCell ?_ (by simp <;> omega) _ | refine below_alloc ?_ _ | refine Below.alloc ?_ (by simp <;> omega) _ | refine Below.drew ?_ | refine below_drewN ?_ _ | exact Below.refl _ _))⟩
end Go.Proofs.Ytpelmfanchkpeaa
