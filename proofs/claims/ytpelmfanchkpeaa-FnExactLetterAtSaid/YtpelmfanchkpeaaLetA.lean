/- A letter of a loop, on both sides. -/
import Derived.Test.YtpelmfanchkpeaaLoopV
set_option linter.unusedVariables false
set_option linter.unusedSimpArgs false
namespace Go.Proofs.Ytpelmfanchkpeaa
open Go.RowKit
def letOk (l : Int) (n m : Nat) (f g : Nat → Int) (a : Int) : Bool := validL l n m f g && inB a 0 1000000
def letG (n m : Nat) (f g : Nat → Int) (a : Nat) : Int := if a < n then f a else g ((a - n) % m)
def letV (l : Int) (n m : Nat) (f g : Nat → Int) (a : Int) : Int := if letOk l n m f g a = true then letG n m f g a.toNat else 0
set_option maxRecDepth 20000 in
set_option maxHeartbeats 4000000 in
theorem l07Letter_any (P : Nat) (A B : Option Addr) (n c m d : Nat) (f g : Nat → Int) (a : Nat) (w : World) (hn : n ≤ 12) (hm : m ≤ 12) (hm1 : 1 ≤ m) (ha : a ≤ 1000000) (hA : Cells w A n (fun i => .int .i64 (f i))) (hB : Cells w B m (fun i => .int .i64 (g i)))
    (b : Box2 w P (.slice A n c) (.slice B m d)) :
    Calls Try.prog 59 #[.pointer (some ⟨P, 0, none⟩), .int .i64 a] w fun e w' => e = .returned (.int .i64 (letG n m f g a)) ∧ Below w.heap.size w w' := by
  obtain ⟨x0, x1⟩ := b
  by_cases h : a < n
  · have hG := Lib.hid (show letG n m f g a = f a from if_pos h)
    obtain ⟨x, rfl, hx0⟩ := hA a h
    have hx : w.cell? (x.add a) = some (.int .i64 (f a)) := hx0
    have d1 : (a : Int) < n := by omega
    clear hA hB hx0
    generalize f a = v at *
    generalize letG n m f g a = r at *
    go_enter Try.func59, Try.ntmps59
    go_wp2_with fail
    go_ret
    exact ⟨ret_int hG.out.symm, (by repeat (first | with_reducible exact Below.refl _ _ | exact Hid.out (by with_reducible assumption) | refine Below.setCell ?_ (by simp <;> omega) _ | refine below_alloc ?_ _ | refine Below.alloc ?_ (by simp <;> omega) _ | refine Below.drew ?_ | refine below_drewN ?_ _ | exact Below.refl _ _))⟩
  · have hG := Lib.hid (show letG n m f g a = g ((a - n) % m) from if_neg h)
    have hr0 : (a - n) % m < m := Nat.mod_lt _ (by omega)
    obtain ⟨x, rfl, hx0⟩ := hB _ hr0
    have hx : w.cell? (x.add ((a - n) % m)) = some (.int .i64 (g ((a - n) % m))) := hx0
    have d1 : ¬ (a : Int) < n := by omega
    have e1 : IntKind.i64.wrap ((a : Int) - (n : Int)) = ((a - n : Nat) : Int) := by rw [IntKind.wrap_i64]; omega
    have e2 : ((a - n : Nat) : Int).tmod (m : Int) = (((a - n) % m : Nat) : Int) := (Int.ofNat_tmod _ _).symm
    have b1 : ¬ (m : Int) = 0 := by omega
    have d2 : (((a - n) % m : Nat) : Int) < m := by omega
    clear hA hB hx0 hr0 h
    generalize g ((a - n) % m) = v at *
    generalize letG n m f g a = r at *
    generalize (a - n) % m = pos at *
    generalize ((a - n : Nat) : Int) = z at *
    go_enter Try.func59, Try.ntmps59
    go_wp2_with fail
    go_quiet (fail)
    go_wp2_with fail
    go_ret
    exact ⟨ret_int hG.out.symm, (by repeat (first | with_reducible exact Below.refl _ _ | exact Hid.out (by with_reducible assumption) | refine Below.setCell ?_ (by simp <;> omega) _ | refine below_alloc ?_ _ | refine Below.alloc ?_ (by simp <;> omega) _ | refine Below.drew ?_ | refine below_drewN ?_ _ | exact Below.refl _ _))⟩
set_option maxRecDepth 20000 in
set_option maxHeartbeats 4000000 in
theorem specLetterAt_any (A B : Option Addr) (n c m d : Nat) (f g : Nat → Int) (l a : Int) (w : World) (hn : n ≤ 1048576) (hm : m ≤ 1048576) (hA : Cells w A n (fun i => .int .i64 (f i))) (hB : Cells w B m (fun i => .int .i64 (g i))) :
    Calls Try.prog 24 #[.agg #[.slice A n c, .slice B m d], .int .i64 l, .int .i64 a] w fun e w' => e = .returned (.tuple #[.int .i64 (letV l n m f g a), .bool (letOk l n m f g a)]) ∧ Below w.heap.size w w' := by
  have HA := Lib.hid hA
  have HB := Lib.hid hB
  have HL := Lib.hid (fun P W h1 h2 b => l07Loop_any P A B n c m d f g l W hn hm h1 h2 b)
  have HV := Lib.hid (fun (h : validL l n m f g = true) => show n ≤ 12 ∧ m ≤ 12 ∧ 1 ≤ m from ⟨(validL_iff.1 h).2.2.2.1, (validL_iff.1 h).2.2.2.2.2.1, (validL_iff.1 h).2.2.2.2.2.2⟩)
  have HU := Lib.hid (show letOk l n m f g a = (validL l n m f g && inB a 0 1000000) from rfl)
  have HW := Lib.hid (show letV l n m f g a = if letOk l n m f g a = true then letG n m f g a.toNat else 0 from rfl)
  have X := Lib.hid (Box2.new w 27 (.slice A n c) (.slice B m d))
  have H2 := Lib.hid (fun W => l00In_any a 0 1000000 W)
  have HI := Lib.hid (fun (h : inB a 0 1000000 = true) => inB_iff.1 h)
  clear hA hB
  generalize letV l n m f g a = rv at *
  generalize letOk l n m f g a = ro at *
  cases hv : validL l n m f g
  · rw [hv] at HL HU
    obtain rfl : ro = false := by rw [HU.out]; rfl
    have HZ := Lib.hid (show rv = 0 by rw [HW.out]; rfl)
    clear HW HU hv
    go_enter Try.func24, Try.ntmps24
    go_wp2_with fail
    refine (HL.out w.heap.size _ (HA.out.below (by repeat (first | with_reducible exact Below.refl _ _ | exact Hid.out (by with_reducible assumption) | refine Below.setCell ?_ (by simp <;> omega) _ | refine below_alloc ?_ _ | refine Below.alloc ?_ (by simp <;> omega) _ | refine Below.drew ?_ | refine below_drewN ?_ _ | exact Below.refl _ _))) (HB.out.below (by repeat (first | with_reducible exact Below.refl _ _ | exact Hid.out (by with_reducible assumption) | refine Below.setCell ?_ (by simp <;> omega) _ | refine below_alloc ?_ _ | refine Below.alloc ?_ (by simp <;> omega) _ | refine Below.drew ?_ | refine below_drewN ?_ _ | exact Below.refl _ _))) X.out).mono ?_
    rintro e w' ⟨rfl, rfl⟩
    go_wp2_with fail
    refine bodyPost_ret (v := .tuple #[.int .i64 0, .bool false]) (by simp [results, Try.results24, go_sem]) rfl ⟨by rw [HZ.out], (by repeat (first | with_reducible exact Below.refl _ _ | exact Hid.out (by with_reducible assumption) | refine Below.setCell ?_ (by simp <;> omega) _ | refine below_alloc ?_ _ | refine Below.alloc ?_ (by simp <;> omega) _ | refine Below.drew ?_ | refine below_drewN ?_ _ | exact Below.refl _ _))⟩
  obtain ⟨n12, m12, m1⟩ := HV.out hv
  rw [hv] at HL HU
  clear hv HV
  cases hi : inB a 0 1000000
  · rw [hi] at H2 HU
    obtain rfl : ro = false := by rw [HU.out]; rfl
    have HZ := Lib.hid (show rv = 0 by rw [HW.out]; rfl)
    clear HW HU hi
    go_enter Try.func24, Try.ntmps24
    go_wp2_with fail
    refine (HL.out w.heap.size _ (HA.out.below (by repeat (first | with_reducible exact Below.refl _ _ | exact Hid.out (by with_reducible assumption) | refine Below.setCell ?_ (by simp <;> omega) _ | refine below_alloc ?_ _ | refine Below.alloc ?_ (by simp <;> omega) _ | refine Below.drew ?_ | refine below_drewN ?_ _ | exact Below.refl _ _))) (HB.out.below (by repeat (first | with_reducible exact Below.refl _ _ | exact Hid.out (by with_reducible assumption) | refine Below.setCell ?_ (by simp <;> omega) _ | refine below_alloc ?_ _ | refine Below.alloc ?_ (by simp <;> omega) _ | refine Below.drew ?_ | refine below_drewN ?_ _ | exact Below.refl _ _))) X.out).mono ?_
    rintro e w' ⟨rfl, rfl⟩
    go_wp2_with fail
    refine (H2.out _).mono ?_
    rintro e w' ⟨rfl, rfl⟩
    go_wp2_with fail
    refine bodyPost_ret (v := .tuple #[.int .i64 0, .bool false]) (by simp [results, Try.results24, go_sem]) rfl ⟨by rw [HZ.out], (by repeat (first | with_reducible exact Below.refl _ _ | exact Hid.out (by with_reducible assumption) | refine Below.setCell ?_ (by simp <;> omega) _ | refine below_alloc ?_ _ | refine Below.alloc ?_ (by simp <;> omega) _ | refine Below.drew ?_ | refine below_drewN ?_ _ | exact Below.refl _ _))⟩
  obtain ⟨i1, i2⟩ := HI.out hi
  rw [hi] at H2 HU
  obtain rfl : ro = true := by rw [HU.out]; rfl
  obtain ⟨k, rfl⟩ : ∃ k : Nat, a = (k : Int) := ⟨a.toNat, by omega⟩
  have HZ := Lib.hid (show rv = letG n m f g k by rw [HW.out]; rfl)
  have HLL := Lib.hid (fun P W h1 h2 b => l07Letter_any P A B n c m d f g k W n12 m12 m1 (by omega) h1 h2 b)
  clear HW HU hi HI
  generalize letG n m f g k = gv at *
  generalize (k : Int) = ki at *
  go_enter Try.func24, Try.ntmps24
  go_wp2_with fail
  refine (HL.out w.heap.size _ (HA.out.below (by repeat (first | with_reducible exact Below.refl _ _ | exact Hid.out (by with_reducible assumption) | refine Below.setCell ?_ (by simp <;> omega) _ | refine below_alloc ?_ _ | refine Below.alloc ?_ (by simp <;> omega) _ | refine Below.drew ?_ | refine below_drewN ?_ _ | exact Below.refl _ _))) (HB.out.below (by repeat (first | with_reducible exact Below.refl _ _ | exact Hid.out (by with_reducible assumption) | refine Below.setCell ?_ (by simp <;> omega) _ | refine below_alloc ?_ _ | refine Below.alloc ?_ (by simp <;> omega) _ | refine Below.drew ?_ | refine below_drewN ?_ _ | exact Below.refl _ _))) X.out).mono ?_
  rintro e w' ⟨rfl, rfl⟩
  go_wp2_with fail
  refine (H2.out _).mono ?_
  rintro e w' ⟨rfl, rfl⟩
  go_wp2_with fail
  refine (HLL.out w.heap.size _ (HA.out.below (by repeat (first | with_reducible exact Below.refl _ _ | exact Hid.out (by with_reducible assumption) | refine Below.setCell ?_ (by simp <;> omega) _ | refine below_alloc ?_ _ | refine Below.alloc ?_ (by simp <;> omega) _ | refine Below.drew ?_ | refine below_drewN ?_ _ | exact Below.refl _ _))) (HB.out.below (by repeat (first | with_reducible exact Below.refl _ _ | exact Hid.out (by with_reducible assumption) | refine Below.setCell ?_ (by simp <;> omega) _ | refine below_alloc ?_ _ | refine Below.alloc ?_ (by simp <;> omega) _ | refine Below.drew ?_ | refine below_drewN ?_ _ | exact Below.refl _ _))) X.out).mono ?_
  rintro e w2 ⟨rfl, hb⟩
  have N2 := Lib.hid (show Below w.heap.size w w2 from Below.trans (by repeat (first | with_reducible exact Below.refl _ _ | exact Hid.out (by with_reducible assumption) | refine Below.setCell ?_ (by simp <;> omega) _ | refine below_alloc ?_ _ | refine Below.alloc ?_ (by simp <;> omega) _ | refine Below.drew ?_ | refine below_drewN ?_ _ | exact Below.refl _ _)) (hb.mono (by simp)))
  clear hb
  go_wp2_with fail
  refine bodyPost_ret (v := .tuple #[.int .i64 gv, .bool true]) (by simp [results, Try.results24, go_sem]) rfl ⟨by rw [HZ.out], (by repeat (first | with_reducible exact Below.refl _ _ | exact Hid.out (by with_reducible assumption) | refine Below.setCell ?_ (by simp <;> omega) _ | refine below_alloc ?_ _ | refine Below.alloc ?_ (by simp <;> omega) _ | refine Below.drew ?_ | refine below_drewN ?_ _ | exact Below.refl _ _))⟩
set_option maxRecDepth 20000 in
set_option maxHeartbeats 4000000 in
theorem implLetterAt_any (A B : Option Addr) (n c m d : Nat) (f g : Nat → Int) (l a : Int) (w : World) (hn : n ≤ 1048576) (hm : m ≤ 1048576) (hA : Cells w A n (fun i => .int .i64 (f i))) (hB : Cells w B m (fun i => .int .i64 (g i))) :
    Calls Try.prog 25 #[.agg #[.slice A n c, .slice B m d], .int .i64 l, .int .i64 a] w fun e w' => e = .returned (.tuple #[.int .i64 (letV l n m f g a), .bool (letOk l n m f g a)]) ∧ Below w.heap.size w w' := by
  have HA := Lib.hid hA
  have HB := Lib.hid hB
  have HL := Lib.hid (fun W h1 h2 => implValidLoop_any A B n c m d f g l W hn hm h1 h2)
  have HV := Lib.hid (fun (h : validL l n m f g = true) => show n ≤ 12 ∧ m ≤ 12 ∧ 1 ≤ m from ⟨(validL_iff.1 h).2.2.2.1, (validL_iff.1 h).2.2.2.2.2.1, (validL_iff.1 h).2.2.2.2.2.2⟩)
  have HU := Lib.hid (show letOk l n m f g a = (validL l n m f g && inB a 0 1000000) from rfl)
  have HW := Lib.hid (show letV l n m f g a = if letOk l n m f g a = true then letG n m f g a.toNat else 0 from rfl)
  have X := Lib.hid (Box2.new w 27 (.slice A n c) (.slice B m d))
  have H2 := Lib.hid (fun W => between_any a 0 1000000 W)
  have HI := Lib.hid (fun (h : inB a 0 1000000 = true) => inB_iff.1 h)
  clear hA hB
  generalize letV l n m f g a = rv at *
  generalize letOk l n m f g a = ro at *
  cases hv : validL l n m f g
  · rw [hv] at HL HU
    obtain rfl : ro = false := by rw [HU.out]; rfl
    have HZ := Lib.hid (show rv = 0 by rw [HW.out]; rfl)
    clear HW HU hv
    go_enter Try.func25, Try.ntmps25
    go_wp2_with fail
    refine (HL.out _ (HA.out.below (by repeat (first | with_reducible exact Below.refl _ _ | exact Hid.out (by with_reducible assumption) | refine Below.setCell ?_ (by simp <;> omega) _ | refine below_alloc ?_ _ | refine Below.alloc ?_ (by simp <;> omega) _ | refine Below.drew ?_ | refine below_drewN ?_ _ | exact Below.refl _ _))) (HB.out.below (by repeat (first | with_reducible exact Below.refl _ _ | exact Hid.out (by with_reducible assumption) | refine Below.setCell ?_ (by simp <;> omega) _ | refine below_alloc ?_ _ | refine Below.alloc ?_ (by simp <;> omega) _ | refine Below.drew ?_ | refine below_drewN ?_ _ | exact Below.refl _ _)))).mono ?_
    rintro e w2 ⟨rfl, hb⟩
    have N2 := Lib.hid (show Below w.heap.size w w2 from Below.trans (by repeat (first | with_reducible exact Below.refl _ _ | exact Hid.out (by with_reducible assumption) | refine Below.setCell ?_ (by simp <;> omega) _ | refine below_alloc ?_ _ | refine Below.alloc ?_ (by simp <;> omega) _ | refine Below.drew ?_ | refine below_drewN ?_ _ | exact Below.refl _ _)) (hb.mono (by simp)))
    clear hb
    go_wp2_with fail
    refine bodyPost_ret (v := .tuple #[.int .i64 0, .bool false]) (by simp [results, Try.results25, go_sem]) rfl ⟨by rw [HZ.out], (by repeat (first | with_reducible exact Below.refl _ _ | exact Hid.out (by with_reducible assumption) | refine Below.setCell ?_ (by simp <;> omega) _ | refine below_alloc ?_ _ | refine Below.alloc ?_ (by simp <;> omega) _ | refine Below.drew ?_ | refine below_drewN ?_ _ | exact Below.refl _ _))⟩
  obtain ⟨n12, m12, m1⟩ := HV.out hv
  rw [hv] at HL HU
  clear hv HV
  cases hi : inB a 0 1000000
  · rw [hi] at H2 HU
    obtain rfl : ro = false := by rw [HU.out]; rfl
    have HZ := Lib.hid (show rv = 0 by rw [HW.out]; rfl)
    clear HW HU hi
    go_enter Try.func25, Try.ntmps25
    go_wp2_with fail
    refine (HL.out _ (HA.out.below (by repeat (first | with_reducible exact Below.refl _ _ | exact Hid.out (by with_reducible assumption) | refine Below.setCell ?_ (by simp <;> omega) _ | refine below_alloc ?_ _ | refine Below.alloc ?_ (by simp <;> omega) _ | refine Below.drew ?_ | refine below_drewN ?_ _ | exact Below.refl _ _))) (HB.out.below (by repeat (first | with_reducible exact Below.refl _ _ | exact Hid.out (by with_reducible assumption) | refine Below.setCell ?_ (by simp <;> omega) _ | refine below_alloc ?_ _ | refine Below.alloc ?_ (by simp <;> omega) _ | refine Below.drew ?_ | refine below_drewN ?_ _ | exact Below.refl _ _)))).mono ?_
    rintro e w2 ⟨rfl, hb⟩
    have N2 := Lib.hid (show Below w.heap.size w w2 from Below.trans (by repeat (first | with_reducible exact Below.refl _ _ | exact Hid.out (by with_reducible assumption) | refine Below.setCell ?_ (by simp <;> omega) _ | refine below_alloc ?_ _ | refine Below.alloc ?_ (by simp <;> omega) _ | refine Below.drew ?_ | refine below_drewN ?_ _ | exact Below.refl _ _)) (hb.mono (by simp)))
    clear hb
    go_wp2_with fail
    refine (H2.out _).mono ?_
    rintro e w' ⟨rfl, rfl⟩
    go_wp2_with fail
    refine bodyPost_ret (v := .tuple #[.int .i64 0, .bool false]) (by simp [results, Try.results25, go_sem]) rfl ⟨by rw [HZ.out], (by repeat (first | with_reducible exact Below.refl _ _ | exact Hid.out (by with_reducible assumption) | refine Below.setCell ?_ (by simp <;> omega) _ | refine below_alloc ?_ _ | refine Below.alloc ?_ (by simp <;> omega) _ | refine Below.drew ?_ | refine below_drewN ?_ _ | exact Below.refl _ _))⟩
  obtain ⟨i1, i2⟩ := HI.out hi
  rw [hi] at H2 HU
  obtain rfl : ro = true := by rw [HU.out]; rfl
  obtain ⟨k, rfl⟩ : ∃ k : Nat, a = (k : Int) := ⟨a.toNat, by omega⟩
  have HZ := Lib.hid (show rv = letG n m f g k by rw [HW.out]; rfl)
  clear HW HU hi HI
  by_cases h : k < n
  · have hG := Lib.hid (show letG n m f g k = f k from if_pos h)
    have HC := Lib.hid (show ∀ W, Below w.heap.size w W → ∃ x, A = some x ∧ W.cell? (x.add k) = some (.int .i64 (f k)) from fun W hW => (HA.out.below hW) k h)
    obtain ⟨x, rfl, -⟩ := HA.out k h
    have d1 : (k : Int) < n := by omega
    clear h
    generalize f k = v at *
    generalize letG n m f g k = r at *
    go_enter Try.func25, Try.ntmps25
    go_wp2_with fail
    refine (HL.out _ (HA.out.below (by repeat (first | with_reducible exact Below.refl _ _ | exact Hid.out (by with_reducible assumption) | refine Below.setCell ?_ (by simp <;> omega) _ | refine below_alloc ?_ _ | refine Below.alloc ?_ (by simp <;> omega) _ | refine Below.drew ?_ | refine below_drewN ?_ _ | exact Below.refl _ _))) (HB.out.below (by repeat (first | with_reducible exact Below.refl _ _ | exact Hid.out (by with_reducible assumption) | refine Below.setCell ?_ (by simp <;> omega) _ | refine below_alloc ?_ _ | refine Below.alloc ?_ (by simp <;> omega) _ | refine Below.drew ?_ | refine below_drewN ?_ _ | exact Below.refl _ _)))).mono ?_
    rintro e w2 ⟨rfl, hb⟩
    have N2 := Lib.hid (show Below w.heap.size w w2 from Below.trans (by repeat (first | with_reducible exact Below.refl _ _ | exact Hid.out (by with_reducible assumption) | refine Below.setCell ?_ (by simp <;> omega) _ | refine below_alloc ?_ _ | refine Below.alloc ?_ (by simp <;> omega) _ | refine Below.drew ?_ | refine below_drewN ?_ _ | exact Below.refl _ _)) (hb.mono (by simp)))
    obtain ⟨x0, x1⟩ := X.out.below hb
    obtain ⟨y, hy, hx⟩ := HC.out w2 N2.out
    cases hy
    clear hb
    go_wp2_with fail
    refine (H2.out _).mono ?_
    rintro e w' ⟨rfl, rfl⟩
    go_wp2_with fail
    refine bodyPost_ret (v := .tuple #[.int .i64 v, .bool true]) (by simp [results, Try.results25, go_sem]) rfl ⟨by rw [HZ.out, hG.out], (by repeat (first | with_reducible exact Below.refl _ _ | exact Hid.out (by with_reducible assumption) | refine Below.setCell ?_ (by simp <;> omega) _ | refine below_alloc ?_ _ | refine Below.alloc ?_ (by simp <;> omega) _ | refine Below.drew ?_ | refine below_drewN ?_ _ | exact Below.refl _ _))⟩
  · have hG := Lib.hid (show letG n m f g k = g ((k - n) % m) from if_neg h)
    have hr0 : (k - n) % m < m := Nat.mod_lt _ (by omega)
    have HC := Lib.hid (show ∀ W, Below w.heap.size w W → ∃ x, B = some x ∧ W.cell? (x.add ((k - n) % m)) = some (.int .i64 (g ((k - n) % m))) from fun W hW => (HB.out.below hW) _ hr0)
    obtain ⟨x, rfl, -⟩ := HB.out _ hr0
    have d1 : ¬ (k : Int) < n := by omega
    have e1 : IntKind.i64.wrap ((k : Int) - (n : Int)) = ((k - n : Nat) : Int) := by rw [IntKind.wrap_i64]; omega
    have e2 : ((k - n : Nat) : Int).tmod (m : Int) = (((k - n) % m : Nat) : Int) := (Int.ofNat_tmod _ _).symm
    have b1 : ¬ (m : Int) = 0 := by omega
    have d2 : (((k - n) % m : Nat) : Int) < m := by omega
    clear hr0 h
    generalize g ((k - n) % m) = v at *
    generalize letG n m f g k = r at *
    generalize (k - n) % m = pos at *
    generalize ((k - n : Nat) : Int) = z at *
    go_enter Try.func25, Try.ntmps25
    go_wp2_with fail
    refine (HL.out _ (HA.out.below (by repeat (first | with_reducible exact Below.refl _ _ | exact Hid.out (by with_reducible assumption) | refine Below.setCell ?_ (by simp <;> omega) _ | refine below_alloc ?_ _ | refine Below.alloc ?_ (by simp <;> omega) _ | refine Below.drew ?_ | refine below_drewN ?_ _ | exact Below.refl _ _))) (HB.out.below (by repeat (first | with_reducible exact Below.refl _ _ | exact Hid.out (by with_reducible assumption) | refine Below.setCell ?_ (by simp <;> omega) _ | refine below_alloc ?_ _ | refine Below.alloc ?_ (by simp <;> omega) _ | refine Below.drew ?_ | refine below_drewN ?_ _ | exact Below.refl _ _)))).mono ?_
    rintro e w2 ⟨rfl, hb⟩
    have N2 := Lib.hid (show Below w.heap.size w w2 from Below.trans (by repeat (first | with_reducible exact Below.refl _ _ | exact Hid.out (by with_reducible assumption) | refine Below.setCell ?_ (by simp <;> omega) _ | refine below_alloc ?_ _ | refine Below.alloc ?_ (by simp <;> omega) _ | refine Below.drew ?_ | refine below_drewN ?_ _ | exact Below.refl _ _)) (hb.mono (by simp)))
    obtain ⟨x0, x1⟩ := X.out.below hb
    obtain ⟨y, hy, hx⟩ := HC.out w2 N2.out
    cases hy
    clear hb
    go_wp2_with fail
    refine (H2.out _).mono ?_
    rintro e w' ⟨rfl, rfl⟩
    go_wp2_with fail
    go_quiet (fail)
    go_wp2_with fail
    refine bodyPost_ret (v := .tuple #[.int .i64 v, .bool true]) (by simp [results, Try.results25, go_sem]) rfl ⟨by rw [HZ.out, hG.out], (by repeat (first | with_reducible exact Below.refl _ _ | exact Hid.out (by with_reducible assumption) | refine Below.setCell ?_ (by simp <;> omega) _ | refine below_alloc ?_ _ | refine Below.alloc ?_ (by simp <;> omega) _ | refine Below.drew ?_ | refine below_drewN ?_ _ | exact Below.refl _ _))⟩
end Go.Proofs.Ytpelmfanchkpeaa
