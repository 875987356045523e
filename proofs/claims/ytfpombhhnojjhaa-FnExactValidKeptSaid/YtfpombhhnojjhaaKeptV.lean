/- Machines with names: whether they are valid, on both sides. -/
import Derived.Test.YtfpombhhnojjhaaKeptM
import Derived.Test.YtfpombhhnojjhaaNames
import Derived.Test.YtfpombhhnojjhaaPlainV1
set_option linter.unusedVariables false
namespace Go.Proofs.Ytfpombhhnojjhaa
open Go.RowKit

def keptV (b : ByteArray) (s l : Int) (n m : Nat) (f : Nat → Int) : Bool := nameV b.data.toList && validP s l n m f
theorem implValidKept_any (b : ByteArray) (s l : Int) (A B : Option Addr) (n c m d : Nat) (f : Nat → Int) (g : Nat → Bool) (w : World) (hb0 : b.size ≤ 1048576) (hn : n ≤ 1048576) (hm : m ≤ 1048576) (hA : Cells w A n (fun i => .int .i64 (f i))) (hB : Cells w B m (fun i => .bool (g i))) :
    Calls Try.prog 43 #[.agg #[.string b, .int .i64 s, .int .i64 l, .slice A n c, .slice B m d]] w fun e w' => e = .returned (.bool (keptV b s l n m f)) ∧ Below w.heap.size w w' := by
  have HU := Lib.hid (show keptV b s l n m f = (nameV b.data.toList && validP s l n m f) from rfl)
  have hA := Lib.hid hA
  have HN := Lib.hid (fun W => implIsName_any b W (by unfold maxLen; omega))
  have HP := Lib.hid (fun W y => implValidPlain_any s l A B n c m d f W (by omega) (by omega) y)
  generalize keptV b s l n m f = r at *
  generalize nameV b.data.toList = r0 at *
  generalize validP s l n m f = r1 at *
  cases r0
  · skip
    go_enter Try.func43, Try.ntmps43
    go_wp2_with fail
    refine (HN.out _).mono ?_
    rintro e w1 ⟨rfl, hb⟩
    have N1 := Lib.hid (show Below w.heap.size w w1 from Below.trans (by repeat (first | with_reducible exact Below.refl _ _ | exact Hid.out (by with_reducible assumption) | refine Below.setCell ?_ (by simp <;> omega) _ | refine below_alloc ?_ _ | refine Below.alloc ?_ (by simp <;> omega) _ | refine Below.drew ?_ | refine below_drewN ?_ _)) (hb.mono (by simp)))
    have X1 := Lib.hid (Box5.below (Box5.new w 65 (.string b) (.int .i64 s) (.int .i64 l) (.slice A n c) (.slice B m d)) hb)
    obtain ⟨x0, x1, x2, x3, x4⟩ := X1.out
    clear hb
    go_wp2_with fail
    go_ret
    exact ⟨ret_bool (by rw [HU.out] <;> simp), (by repeat (first | with_reducible exact Below.refl _ _ | exact Hid.out (by with_reducible assumption) | refine Below.setCell ?_ (by simp <;> omega) _ | refine below_alloc ?_ _ | refine Below.alloc ?_ (by simp <;> omega) _ | refine Below.drew ?_ | refine below_drewN ?_ _))⟩
  go_enter Try.func43, Try.ntmps43
  go_wp2_with fail
  refine (HN.out _).mono ?_
  rintro e w1 ⟨rfl, hb⟩
  have N1 := Lib.hid (show Below w.heap.size w w1 from Below.trans (by repeat (first | with_reducible exact Below.refl _ _ | exact Hid.out (by with_reducible assumption) | refine Below.setCell ?_ (by simp <;> omega) _ | refine below_alloc ?_ _ | refine Below.alloc ?_ (by simp <;> omega) _ | refine Below.drew ?_ | refine below_drewN ?_ _)) (hb.mono (by simp)))
  have X1 := Lib.hid (Box5.below (Box5.new w 65 (.string b) (.int .i64 s) (.int .i64 l) (.slice A n c) (.slice B m d)) hb)
  obtain ⟨x0, x1, x2, x3, x4⟩ := X1.out
  clear hb
  go_wp2_with fail
  refine (HP.out _ (hA.out.below (by repeat (first | with_reducible exact Below.refl _ _ | exact Hid.out (by with_reducible assumption) | refine Below.setCell ?_ (by simp <;> omega) _ | refine below_alloc ?_ _ | refine Below.alloc ?_ (by simp <;> omega) _ | refine Below.drew ?_ | refine below_drewN ?_ _)))).mono ?_
  rintro e w2 ⟨rfl, hb⟩
  have N2 := Lib.hid (show Below w.heap.size w w2 from N1.out.trans (hb.mono N1.out.size))
  clear hb
  go_wp2_with fail
  go_ret
  exact ⟨ret_bool (by rw [HU.out] <;> simp), (by repeat (first | with_reducible exact Below.refl _ _ | exact Hid.out (by with_reducible assumption) | refine Below.setCell ?_ (by simp <;> omega) _ | refine below_alloc ?_ _ | refine Below.alloc ?_ (by simp <;> omega) _ | refine Below.drew ?_ | refine below_drewN ?_ _))⟩
theorem l07Kept_any (P : Nat) (b : ByteArray) (s l : Int) (A B : Option Addr) (n c m d : Nat) (f : Nat → Int) (g : Nat → Bool) (w : World) (hb0 : b.size ≤ 1048576) (hn : n ≤ 1048576) (hm : m ≤ 1048576) (hA : Cells w A n (fun i => .int .i64 (f i))) (hB : Cells w B m (fun i => .bool (g i))) (bx : Box5 w P (.string b) (.int .i64 s) (.int .i64 l) (.slice A n c) (.slice B m d)) :
    Calls Try.prog 107 #[.pointer (some ⟨P, 0, none⟩)] w fun e w' => e = .returned (.bool (keptV b s l n m f)) ∧ Below w.heap.size w w' := by
  have HU := Lib.hid (show keptV b s l n m f = (nameV b.data.toList && validP s l n m f) from rfl)
  have hA := Lib.hid hA
  have bx := Lib.hid bx
  obtain ⟨x0, x1, x2, x3, x4⟩ := bx.out
  have HN := Lib.hid (fun W => l07Name_any b W (by unfold maxLen; omega))
  have HP := Lib.hid (fun W y b0 b1 b2 b3 => l02Plain_at1 P s l A B n c m d f W (by omega) (by omega) y b0 b1 b2 b3)
  generalize keptV b s l n m f = r at *
  generalize nameV b.data.toList = r0 at *
  generalize validP s l n m f = r1 at *
  cases r0
  · skip
    go_enter Try.func107, Try.ntmps107
    go_wp2_with fail
    refine (HN.out _).mono ?_
    rintro e w' ⟨rfl, rfl⟩
    go_wp2_with fail
    go_ret
    exact ⟨ret_bool (by rw [HU.out] <;> simp), (by repeat (first | with_reducible exact Below.refl _ _ | exact Hid.out (by with_reducible assumption) | refine Below.setCell ?_ (by simp <;> omega) _ | refine below_alloc ?_ _ | refine Below.alloc ?_ (by simp <;> omega) _ | refine Below.drew ?_ | refine below_drewN ?_ _))⟩
  go_enter Try.func107, Try.ntmps107
  go_wp2_with fail
  refine (HN.out _).mono ?_
  rintro e w' ⟨rfl, rfl⟩
  go_wp2_with fail
  obtain ⟨p0, p1, p2, p3⟩ := bx.out.pl
  refine (HP.out _ (hA.out.below (by repeat (first | with_reducible exact Below.refl _ _ | exact Hid.out (by with_reducible assumption) | refine Below.setCell ?_ (by simp <;> omega) _ | refine below_alloc ?_ _ | refine Below.alloc ?_ (by simp <;> omega) _ | refine Below.drew ?_ | refine below_drewN ?_ _))) p0 p1 p2 p3).mono ?_
  rintro e w' ⟨rfl, mq, rfl⟩
  go_wp2_with fail
  go_ret
  exact ⟨ret_bool (by rw [HU.out] <;> simp), (by repeat (first | with_reducible exact Below.refl _ _ | exact Hid.out (by with_reducible assumption) | refine Below.setCell ?_ (by simp <;> omega) _ | refine below_alloc ?_ _ | refine Below.alloc ?_ (by simp <;> omega) _ | refine Below.drew ?_ | refine below_drewN ?_ _))⟩
theorem specValidKept_any (b : ByteArray) (s l : Int) (A B : Option Addr) (n c m d : Nat) (f : Nat → Int) (g : Nat → Bool) (w : World) (hb0 : b.size ≤ 1048576) (hn : n ≤ 1048576) (hm : m ≤ 1048576) (hA : Cells w A n (fun i => .int .i64 (f i))) (hB : Cells w B m (fun i => .bool (g i))) :
    Calls Try.prog 41 #[.agg #[.string b, .int .i64 s, .int .i64 l, .slice A n c, .slice B m d]] w fun e w' => e = .returned (.bool (keptV b s l n m f)) ∧ Below w.heap.size w w' := by
  have HU := Lib.hid (show keptV b s l n m f = (nameV b.data.toList && validP s l n m f) from rfl)
  have hA := Lib.hid hA
  have HL := Lib.hid (fun P W y1 y2 bx => l07Kept_any P b s l A B n c m d f g W hb0 hn hm y1 y2 bx)
  have hB := Lib.hid hB
  generalize keptV b s l n m f = r at *
  go_enter Try.func41, Try.ntmps41
  go_wp2_with fail
  refine (HL.out w.heap.size _ (hA.out.below (by repeat (first | with_reducible exact Below.refl _ _ | exact Hid.out (by with_reducible assumption) | refine Below.setCell ?_ (by simp <;> omega) _ | refine below_alloc ?_ _ | refine Below.alloc ?_ (by simp <;> omega) _ | refine Below.drew ?_ | refine below_drewN ?_ _))) (hB.out.below (by repeat (first | with_reducible exact Below.refl _ _ | exact Hid.out (by with_reducible assumption) | refine Below.setCell ?_ (by simp <;> omega) _ | refine below_alloc ?_ _ | refine Below.alloc ?_ (by simp <;> omega) _ | refine Below.drew ?_ | refine below_drewN ?_ _))) (Box5.new w _ _ _ _ _ _)).mono ?_
  rintro e w1 ⟨rfl, hb⟩
  have N1 := Lib.hid (show Below w.heap.size w w1 from Below.trans (by repeat (first | with_reducible exact Below.refl _ _ | exact Hid.out (by with_reducible assumption) | refine Below.setCell ?_ (by simp <;> omega) _ | refine below_alloc ?_ _ | refine Below.alloc ?_ (by simp <;> omega) _ | refine Below.drew ?_ | refine below_drewN ?_ _)) (hb.mono (by simp)))
  clear hb
  go_wp2_with fail
  go_ret
  exact ⟨rfl, N1.out⟩
end Go.Proofs.Ytfpombhhnojjhaa
