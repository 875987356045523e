/- Desks in memory: measured, copied, compared, marked, held. -/
import Derived.Test.YteagfbedbbnomaaMachM
import Derived.Test.YteagfbedbbnomaaPlainM
import Derived.Test.YteagfbedbbnomaaGrammarM
import Derived.Test.YteagfbedbbnomaaBoxD
set_option linter.unusedVariables false
namespace Go.Proofs.Yteagfbedbbnomaa
open Go.RowKit

set_option maxHeartbeats 2000000 in
theorem szDesk_yes (s1 l1 s2 l2 s3 l3 : Int) (A1 A2 A3 A4 A5 A6 A7 : Option Addr) (n1 c1 n2 c2 n3 c3 n4 c4 n5 c5 n6 c6 n7 c7 : Nat) (L : Int) (w : World) (hL : L ≤ 1048576) (h : (n1 : Int) + n2 + n3 + n4 + n5 + n6 + n7 ≤ L) :
    Calls Try.prog 6 #[.agg #[.int .i64 s1, .int .i64 l1, .slice A1 n1 c1, .slice A2 n2 c2, .slice A3 n3 c3, .int .i64 s2, .int .i64 l2, .slice A4 n4 c4, .slice A5 n5 c5, .int .i64 s3, .int .i64 l3, .slice A6 n6 c6, .slice A7 n7 c7], .int .i64 L] w fun e w' => e = .returned (.int .i64 (L - n1 - n2 - n3 - n4 - n5 - n6 - n7)) ∧ Below w.heap.size w w' := by
  have HZ0 := Lib.hid (fun W => szMachine_yes s1 l1 A1 A2 A3 n1 c1 n2 c2 n3 c3 (L) W (by omega) (by omega))
  have d0 : ¬ L - (n1 : Int) - n2 - n3 < 0 := by omega
  have HZ1 := Lib.hid (fun W => szPlain_yes s2 l2 A4 A5 n4 c4 n5 c5 (L - n1 - n2 - n3) W (by omega) (by omega))
  have d1 : ¬ L - (n1 : Int) - n2 - n3 - n4 - n5 < 0 := by omega
  have HZ2 := Lib.hid (fun W => szGrammar_yes s3 l3 A6 n6 c6 (L - n1 - n2 - n3 - n4 - n5) W (by omega) (by omega))
  have d2 : ¬ L - (n1 : Int) - n2 - n3 - n4 - n5 - n6 < 0 := by omega
  have d3 : ¬ L - (n1 : Int) - n2 - n3 - n4 - n5 - n6 - n7 < 0 := by omega
  go_enter Try.func6, Try.ntmps6
  go_wp2_with fail
  refine (HZ0.out _).mono ?_
  rintro e w1 ⟨rfl, hb⟩
  have N1 := Lib.hid (show Below w.heap.size w w1 from Below.trans (by repeat (first | with_reducible exact Below.refl _ _ | exact Hid.out (by with_reducible assumption) | refine Below.setCell ?_ (by simp <;> omega) _ | refine below_alloc ?_ _ | refine Below.alloc ?_ (by simp <;> omega) _ | refine Below.drew ?_ | refine below_drewN ?_ _)) (hb.mono (by simp)))
  have X1 := Lib.hid (Box13.below (Box13.new w 33 (.int .i64 s1) (.int .i64 l1) (.slice A1 n1 c1) (.slice A2 n2 c2) (.slice A3 n3 c3) (.int .i64 s2) (.int .i64 l2) (.slice A4 n4 c4) (.slice A5 n5 c5) (.int .i64 s3) (.int .i64 l3) (.slice A6 n6 c6) (.slice A7 n7 c7)) hb)
  obtain ⟨x0, x1, x2, x3, x4, x5, x6, x7, x8, x9, x10, x11, x12⟩ := X1.out
  clear hb
  go_wp2_with fail
  refine (HZ1.out _).mono ?_
  rintro e w2 ⟨rfl, hb⟩
  have N2 := Lib.hid (show Below w.heap.size w w2 from Below.trans (by repeat (first | with_reducible exact Below.refl _ _ | exact Hid.out (by with_reducible assumption) | refine Below.setCell ?_ (by simp <;> omega) _ | refine below_alloc ?_ _ | refine Below.alloc ?_ (by simp <;> omega) _ | refine Below.drew ?_ | refine below_drewN ?_ _)) (hb.mono (by exact Nat.le_trans N1.out.size (Nat.le_refl _))))
  have X2 := Lib.hid (Box13.below X1.out hb)
  clear x0 x1 x2 x3 x4 x5 x6 x7 x8 x9 x10 x11 x12
  obtain ⟨x0, x1, x2, x3, x4, x5, x6, x7, x8, x9, x10, x11, x12⟩ := X2.out
  clear hb
  go_wp2_with fail
  refine (HZ2.out _).mono ?_
  rintro e w3 ⟨rfl, hb⟩
  have N3 := Lib.hid (show Below w.heap.size w w3 from Below.trans (by repeat (first | with_reducible exact Below.refl _ _ | exact Hid.out (by with_reducible assumption) | refine Below.setCell ?_ (by simp <;> omega) _ | refine below_alloc ?_ _ | refine Below.alloc ?_ (by simp <;> omega) _ | refine Below.drew ?_ | refine below_drewN ?_ _)) (hb.mono (by exact Nat.le_trans N2.out.size (Nat.le_refl _))))
  have X3 := Lib.hid (Box13.below X2.out hb)
  clear x0 x1 x2 x3 x4 x5 x6 x7 x8 x9 x10 x11 x12
  obtain ⟨x0, x1, x2, x3, x4, x5, x6, x7, x8, x9, x10, x11, x12⟩ := X3.out
  clear hb
  go_wp2
  go_ret
  exact ⟨rfl, N3.out⟩
set_option maxHeartbeats 4000000 in
theorem szDesk_no (s1 l1 s2 l2 s3 l3 : Int) (A1 A2 A3 A4 A5 A6 A7 : Option Addr) (n1 c1 n2 c2 n3 c3 n4 c4 n5 c5 n6 c6 n7 c7 : Nat) (L : Int) (w : World) (hL0 : 0 ≤ L) (hL : L ≤ 1048576) (b1 : n1 ≤ 9223372036854775807) (b2 : n2 ≤ 9223372036854775807) (b3 : n3 ≤ 9223372036854775807) (b4 : n4 ≤ 9223372036854775807) (b5 : n5 ≤ 9223372036854775807) (b6 : n6 ≤ 9223372036854775807) (b7 : n7 ≤ 9223372036854775807) (h : ¬ (n1 : Int) + n2 + n3 + n4 + n5 + n6 + n7 ≤ L) :
    Calls Try.prog 6 #[.agg #[.int .i64 s1, .int .i64 l1, .slice A1 n1 c1, .slice A2 n2 c2, .slice A3 n3 c3, .int .i64 s2, .int .i64 l2, .slice A4 n4 c4, .slice A5 n5 c5, .int .i64 s3, .int .i64 l3, .slice A6 n6 c6, .slice A7 n7 c7], .int .i64 L] w fun e w' => e = .returned (.int .i64 (-1)) ∧ Below w.heap.size w w' := by
  by_cases q0 : (n1 : Int) + n2 + n3 ≤ L
  rotate_left
  · skip
    have HZ0 := Lib.hid (fun W => szMachine_no s1 l1 A1 A2 A3 n1 c1 n2 c2 n3 c3 (L) W (by omega) (by omega) b1 b2 b3 (by omega))
    go_enter Try.func6, Try.ntmps6
    go_wp2_with fail
    refine (HZ0.out _).mono ?_
    rintro e w1 ⟨rfl, hb⟩
    have N1 := Lib.hid (show Below w.heap.size w w1 from Below.trans (by repeat (first | with_reducible exact Below.refl _ _ | exact Hid.out (by with_reducible assumption) | refine Below.setCell ?_ (by simp <;> omega) _ | refine below_alloc ?_ _ | refine Below.alloc ?_ (by simp <;> omega) _ | refine Below.drew ?_ | refine below_drewN ?_ _)) (hb.mono (by simp)))
    have X1 := Lib.hid (Box13.below (Box13.new w 33 (.int .i64 s1) (.int .i64 l1) (.slice A1 n1 c1) (.slice A2 n2 c2) (.slice A3 n3 c3) (.int .i64 s2) (.int .i64 l2) (.slice A4 n4 c4) (.slice A5 n5 c5) (.int .i64 s3) (.int .i64 l3) (.slice A6 n6 c6) (.slice A7 n7 c7)) hb)
    obtain ⟨x0, x1, x2, x3, x4, x5, x6, x7, x8, x9, x10, x11, x12⟩ := X1.out
    clear hb
    go_wp2_with fail
    go_ret
    exact ⟨rfl, N1.out⟩
  by_cases q1 : (n1 : Int) + n2 + n3 + n4 + n5 ≤ L
  rotate_left
  · skip
    have HZ0 := Lib.hid (fun W => szMachine_yes s1 l1 A1 A2 A3 n1 c1 n2 c2 n3 c3 (L) W (by omega) (by omega))
    have d0 : ¬ L - (n1 : Int) - n2 - n3 < 0 := by omega
    have HZ1 := Lib.hid (fun W => szPlain_no s2 l2 A4 A5 n4 c4 n5 c5 (L - n1 - n2 - n3) W (by omega) (by omega) b4 b5 (by omega))
    go_enter Try.func6, Try.ntmps6
    go_wp2_with fail
    refine (HZ0.out _).mono ?_
    rintro e w1 ⟨rfl, hb⟩
    have N1 := Lib.hid (show Below w.heap.size w w1 from Below.trans (by repeat (first | with_reducible exact Below.refl _ _ | exact Hid.out (by with_reducible assumption) | refine Below.setCell ?_ (by simp <;> omega) _ | refine below_alloc ?_ _ | refine Below.alloc ?_ (by simp <;> omega) _ | refine Below.drew ?_ | refine below_drewN ?_ _)) (hb.mono (by simp)))
    have X1 := Lib.hid (Box13.below (Box13.new w 33 (.int .i64 s1) (.int .i64 l1) (.slice A1 n1 c1) (.slice A2 n2 c2) (.slice A3 n3 c3) (.int .i64 s2) (.int .i64 l2) (.slice A4 n4 c4) (.slice A5 n5 c5) (.int .i64 s3) (.int .i64 l3) (.slice A6 n6 c6) (.slice A7 n7 c7)) hb)
    obtain ⟨x0, x1, x2, x3, x4, x5, x6, x7, x8, x9, x10, x11, x12⟩ := X1.out
    clear hb
    go_wp2_with fail
    refine (HZ1.out _).mono ?_
    rintro e w2 ⟨rfl, hb⟩
    have N2 := Lib.hid (show Below w.heap.size w w2 from Below.trans (by repeat (first | with_reducible exact Below.refl _ _ | exact Hid.out (by with_reducible assumption) | refine Below.setCell ?_ (by simp <;> omega) _ | refine below_alloc ?_ _ | refine Below.alloc ?_ (by simp <;> omega) _ | refine Below.drew ?_ | refine below_drewN ?_ _)) (hb.mono (by exact Nat.le_trans N1.out.size (Nat.le_refl _))))
    have X2 := Lib.hid (Box13.below X1.out hb)
    clear x0 x1 x2 x3 x4 x5 x6 x7 x8 x9 x10 x11 x12
    obtain ⟨x0, x1, x2, x3, x4, x5, x6, x7, x8, x9, x10, x11, x12⟩ := X2.out
    clear hb
    go_wp2_with fail
    go_ret
    exact ⟨rfl, N2.out⟩
  by_cases q2 : (n1 : Int) + n2 + n3 + n4 + n5 + n6 ≤ L
  rotate_left
  · skip
    have HZ0 := Lib.hid (fun W => szMachine_yes s1 l1 A1 A2 A3 n1 c1 n2 c2 n3 c3 (L) W (by omega) (by omega))
    have d0 : ¬ L - (n1 : Int) - n2 - n3 < 0 := by omega
    have HZ1 := Lib.hid (fun W => szPlain_yes s2 l2 A4 A5 n4 c4 n5 c5 (L - n1 - n2 - n3) W (by omega) (by omega))
    have d1 : ¬ L - (n1 : Int) - n2 - n3 - n4 - n5 < 0 := by omega
    have HZ2 := Lib.hid (fun W => szGrammar_no s3 l3 A6 n6 c6 (L - n1 - n2 - n3 - n4 - n5) W (by omega) (by omega) b6 (by omega))
    go_enter Try.func6, Try.ntmps6
    go_wp2_with fail
    refine (HZ0.out _).mono ?_
    rintro e w1 ⟨rfl, hb⟩
    have N1 := Lib.hid (show Below w.heap.size w w1 from Below.trans (by repeat (first | with_reducible exact Below.refl _ _ | exact Hid.out (by with_reducible assumption) | refine Below.setCell ?_ (by simp <;> omega) _ | refine below_alloc ?_ _ | refine Below.alloc ?_ (by simp <;> omega) _ | refine Below.drew ?_ | refine below_drewN ?_ _)) (hb.mono (by simp)))
    have X1 := Lib.hid (Box13.below (Box13.new w 33 (.int .i64 s1) (.int .i64 l1) (.slice A1 n1 c1) (.slice A2 n2 c2) (.slice A3 n3 c3) (.int .i64 s2) (.int .i64 l2) (.slice A4 n4 c4) (.slice A5 n5 c5) (.int .i64 s3) (.int .i64 l3) (.slice A6 n6 c6) (.slice A7 n7 c7)) hb)
    obtain ⟨x0, x1, x2, x3, x4, x5, x6, x7, x8, x9, x10, x11, x12⟩ := X1.out
    clear hb
    go_wp2_with fail
    refine (HZ1.out _).mono ?_
    rintro e w2 ⟨rfl, hb⟩
    have N2 := Lib.hid (show Below w.heap.size w w2 from Below.trans (by repeat (first | with_reducible exact Below.refl _ _ | exact Hid.out (by with_reducible assumption) | refine Below.setCell ?_ (by simp <;> omega) _ | refine below_alloc ?_ _ | refine Below.alloc ?_ (by simp <;> omega) _ | refine Below.drew ?_ | refine below_drewN ?_ _)) (hb.mono (by exact Nat.le_trans N1.out.size (Nat.le_refl _))))
    have X2 := Lib.hid (Box13.below X1.out hb)
    clear x0 x1 x2 x3 x4 x5 x6 x7 x8 x9 x10 x11 x12
    obtain ⟨x0, x1, x2, x3, x4, x5, x6, x7, x8, x9, x10, x11, x12⟩ := X2.out
    clear hb
    go_wp2_with fail
    refine (HZ2.out _).mono ?_
    rintro e w3 ⟨rfl, hb⟩
    have N3 := Lib.hid (show Below w.heap.size w w3 from Below.trans (by repeat (first | with_reducible exact Below.refl _ _ | exact Hid.out (by with_reducible assumption) | refine Below.setCell ?_ (by simp <;> omega) _ | refine below_alloc ?_ _ | refine Below.alloc ?_ (by simp <;> omega) _ | refine Below.drew ?_ | refine below_drewN ?_ _)) (hb.mono (by exact Nat.le_trans N2.out.size (Nat.le_refl _))))
    have X3 := Lib.hid (Box13.below X2.out hb)
    clear x0 x1 x2 x3 x4 x5 x6 x7 x8 x9 x10 x11 x12
    obtain ⟨x0, x1, x2, x3, x4, x5, x6, x7, x8, x9, x10, x11, x12⟩ := X3.out
    clear hb
    go_wp2_with fail
    go_ret
    exact ⟨rfl, N3.out⟩
  have HZ0 := Lib.hid (fun W => szMachine_yes s1 l1 A1 A2 A3 n1 c1 n2 c2 n3 c3 (L) W (by omega) (by omega))
  have d0 : ¬ L - (n1 : Int) - n2 - n3 < 0 := by omega
  have HZ1 := Lib.hid (fun W => szPlain_yes s2 l2 A4 A5 n4 c4 n5 c5 (L - n1 - n2 - n3) W (by omega) (by omega))
  have d1 : ¬ L - (n1 : Int) - n2 - n3 - n4 - n5 < 0 := by omega
  have HZ2 := Lib.hid (fun W => szGrammar_yes s3 l3 A6 n6 c6 (L - n1 - n2 - n3 - n4 - n5) W (by omega) (by omega))
  have d2 : ¬ L - (n1 : Int) - n2 - n3 - n4 - n5 - n6 < 0 := by omega
  have d3 : L - (n1 : Int) - n2 - n3 - n4 - n5 - n6 - n7 < 0 := by omega
  go_enter Try.func6, Try.ntmps6
  go_wp2_with fail
  refine (HZ0.out _).mono ?_
  rintro e w1 ⟨rfl, hb⟩
  have N1 := Lib.hid (show Below w.heap.size w w1 from Below.trans (by repeat (first | with_reducible exact Below.refl _ _ | exact Hid.out (by with_reducible assumption) | refine Below.setCell ?_ (by simp <;> omega) _ | refine below_alloc ?_ _ | refine Below.alloc ?_ (by simp <;> omega) _ | refine Below.drew ?_ | refine below_drewN ?_ _)) (hb.mono (by simp)))
  have X1 := Lib.hid (Box13.below (Box13.new w 33 (.int .i64 s1) (.int .i64 l1) (.slice A1 n1 c1) (.slice A2 n2 c2) (.slice A3 n3 c3) (.int .i64 s2) (.int .i64 l2) (.slice A4 n4 c4) (.slice A5 n5 c5) (.int .i64 s3) (.int .i64 l3) (.slice A6 n6 c6) (.slice A7 n7 c7)) hb)
  obtain ⟨x0, x1, x2, x3, x4, x5, x6, x7, x8, x9, x10, x11, x12⟩ := X1.out
  clear hb
  go_wp2_with fail
  refine (HZ1.out _).mono ?_
  rintro e w2 ⟨rfl, hb⟩
  have N2 := Lib.hid (show Below w.heap.size w w2 from Below.trans (by repeat (first | with_reducible exact Below.refl _ _ | exact Hid.out (by with_reducible assumption) | refine Below.setCell ?_ (by simp <;> omega) _ | refine below_alloc ?_ _ | refine Below.alloc ?_ (by simp <;> omega) _ | refine Below.drew ?_ | refine below_drewN ?_ _)) (hb.mono (by exact Nat.le_trans N1.out.size (Nat.le_refl _))))
  have X2 := Lib.hid (Box13.below X1.out hb)
  clear x0 x1 x2 x3 x4 x5 x6 x7 x8 x9 x10 x11 x12
  obtain ⟨x0, x1, x2, x3, x4, x5, x6, x7, x8, x9, x10, x11, x12⟩ := X2.out
  clear hb
  go_wp2_with fail
  refine (HZ2.out _).mono ?_
  rintro e w3 ⟨rfl, hb⟩
  have N3 := Lib.hid (show Below w.heap.size w w3 from Below.trans (by repeat (first | with_reducible exact Below.refl _ _ | exact Hid.out (by with_reducible assumption) | refine Below.setCell ?_ (by simp <;> omega) _ | refine below_alloc ?_ _ | refine Below.alloc ?_ (by simp <;> omega) _ | refine Below.drew ?_ | refine below_drewN ?_ _)) (hb.mono (by exact Nat.le_trans N2.out.size (Nat.le_refl _))))
  have X3 := Lib.hid (Box13.below X2.out hb)
  clear x0 x1 x2 x3 x4 x5 x6 x7 x8 x9 x10 x11 x12
  obtain ⟨x0, x1, x2, x3, x4, x5, x6, x7, x8, x9, x10, x11, x12⟩ := X3.out
  clear hb
  go_wp2
  go_ret
  exact ⟨rfl, N3.out⟩
set_option maxHeartbeats 16000000 in
theorem toDesk_any (s1 l1 s2 l2 s3 l3 : Int) (A1 A2 A3 A4 A5 A6 A7 : Option Addr) (n1 c1 n2 c2 n3 c3 n4 c4 n5 c5 n6 c6 n7 c7 : Nat) (f1 f2 f3 f4 : Nat → Int) (f5 : Nat → Bool) (f6 f7 : Nat → Int) (w : World) (h1 : n1 ≤ 1048576) (h2 : n2 ≤ 1048576) (h3 : n3 ≤ 1048576) (h4 : n4 ≤ 1048576) (h5 : n5 ≤ 1048576) (h6 : n6 ≤ 1048576) (h7 : n7 ≤ 1048576) (k1 : Cells w A1 (n1 * 4) (fun i => .int .i64 (f1 i))) (k2 : Cells w A2 n2 (fun i => .int .i64 (f2 i))) (k3 : Cells w A3 n3 (fun i => .int .i64 (f3 i))) (k4 : Cells w A4 n4 (fun i => .int .i64 (f4 i))) (k5 : Cells w A5 n5 (fun i => .bool (f5 i))) (k6 : Cells w A6 (n6 * 4) (fun i => .int .i64 (f6 i))) (k7 : Cells w A7 n7 (fun i => .int .i64 (f7 i))) :
    Calls Try.prog 8 #[.agg #[.int .i64 s1, .int .i64 l1, .slice A1 n1 c1, .slice A2 n2 c2, .slice A3 n3 c3, .int .i64 s2, .int .i64 l2, .slice A4 n4 c4, .slice A5 n5 c5, .int .i64 s3, .int .i64 l3, .slice A6 n6 c6, .slice A7 n7 c7]] w fun e w' => ∃ g1 g2 g3 g4 g5 g6 g7, e = .returned (.agg #[.int .i64 s1, .int .i64 l1, .slice (some ⟨g1, 0, none⟩) n1 n1, .slice (some ⟨g2, 0, none⟩) n2 n2, .slice (some ⟨g3, 0, none⟩) n3 n3, .int .i64 s2, .int .i64 l2, .slice (some ⟨g4, 0, none⟩) n4 n4, .slice (some ⟨g5, 0, none⟩) n5 n5, .int .i64 s3, .int .i64 l3, .slice (some ⟨g6, 0, none⟩) n6 n6, .slice (some ⟨g7, 0, none⟩) n7 n7]) ∧
      w.heap.size ≤ g1 ∧ g1 < g2 ∧ g2 < g3 ∧ g3 < g4 ∧ g4 < g5 ∧ g5 < g6 ∧ g6 < g7 ∧ g7 < w'.heap.size ∧ OwnC w' g1 (some ⟨g1, 0, none⟩) (n1 * 4) (fun i => .int .i64 (f1 i)) ∧ OwnC w' g2 (some ⟨g2, 0, none⟩) n2 (fun i => .int .i64 (f2 i)) ∧ OwnC w' g3 (some ⟨g3, 0, none⟩) n3 (fun i => .int .i64 (f3 i)) ∧ OwnC w' g4 (some ⟨g4, 0, none⟩) n4 (fun i => .int .i64 (f4 i)) ∧ OwnC w' g5 (some ⟨g5, 0, none⟩) n5 (fun i => .bool (f5 i)) ∧ OwnC w' g6 (some ⟨g6, 0, none⟩) (n6 * 4) (fun i => .int .i64 (f6 i)) ∧ OwnC w' g7 (some ⟨g7, 0, none⟩) n7 (fun i => .int .i64 (f7 i)) ∧ Below w.heap.size w w' := by
  have k1 := Lib.hid k1
  have k2 := Lib.hid k2
  have k3 := Lib.hid k3
  have k4 := Lib.hid k4
  have k5 := Lib.hid k5
  have k6 := Lib.hid k6
  have k7 := Lib.hid k7
  have HT0 := Lib.hid (fun W y1 y2 y3 => toMachine_any s1 l1 A1 A2 A3 n1 c1 n2 c2 n3 c3 f1 f2 f3 W h1 h2 h3 y1 y2 y3)
  have HT1 := Lib.hid (fun W y1 y2 => toPlain_any s2 l2 A4 A5 n4 c4 n5 c5 f4 f5 W h4 h5 y1 y2)
  have HT2 := Lib.hid (fun W y1 => toGrammar_any s3 l3 A6 n6 c6 f6 W h6 y1)
  have HT3 := Lib.hid (fun W y1 => toI_any A7 n7 c7 f7 W h7 y1)
  go_enter Try.func8, Try.ntmps8
  go_wp2_with fail
  refine (HT0.out _ (k1.out.below (by repeat (first | with_reducible exact Below.refl _ _ | exact Hid.out (by with_reducible assumption) | refine Below.setCell ?_ (by simp <;> omega) _ | refine below_alloc ?_ _ | refine Below.alloc ?_ (by simp <;> omega) _ | refine Below.drew ?_ | refine below_drewN ?_ _))) (k2.out.below (by repeat (first | with_reducible exact Below.refl _ _ | exact Hid.out (by with_reducible assumption) | refine Below.setCell ?_ (by simp <;> omega) _ | refine below_alloc ?_ _ | refine Below.alloc ?_ (by simp <;> omega) _ | refine Below.drew ?_ | refine below_drewN ?_ _))) (k3.out.below (by repeat (first | with_reducible exact Below.refl _ _ | exact Hid.out (by with_reducible assumption) | refine Below.setCell ?_ (by simp <;> omega) _ | refine below_alloc ?_ _ | refine Below.alloc ?_ (by simp <;> omega) _ | refine Below.drew ?_ | refine below_drewN ?_ _)))).mono ?_
  rintro e w1 ⟨g1, g2, g3, rfl, q0, q1, q2, q3, o1, o2, o3, hb⟩
  have HB1 := Lib.hid (show Below w.heap.size w w1 from Below.trans (by repeat (first | with_reducible exact Below.refl _ _ | exact Hid.out (by with_reducible assumption) | refine Below.setCell ?_ (by simp <;> omega) _ | refine below_alloc ?_ _ | refine Below.alloc ?_ (by simp <;> omega) _ | refine Below.drew ?_ | refine below_drewN ?_ _)) (hb.mono (by simp <;> omega)))
  obtain ⟨hc1, hf1⟩ := bcellK hb (w.heap.size + 2) (by simp)
  have z1 : w.heap.size + 2 < g1 ∧ g1 < g2 ∧ g2 < g3 ∧ g3 < w1.heap.size := ⟨by simp at q0; omega, q1, q2, q3⟩
  clear q0 q1 q2 q3
  have HO1_1 := Lib.hid o1
  have HO2_1 := Lib.hid o2
  have HO3_1 := Lib.hid o3
  clear hb o1 o2 o3
  go_wp2_with fail
  refine (HT1.out _ (k4.out.below (by repeat (first | with_reducible exact Below.refl _ _ | exact Hid.out (by with_reducible assumption) | refine Below.setCell ?_ (by simp <;> omega) _ | refine below_alloc ?_ _ | refine Below.alloc ?_ (by simp <;> omega) _ | refine Below.drew ?_ | refine below_drewN ?_ _))) (k5.out.below (by repeat (first | with_reducible exact Below.refl _ _ | exact Hid.out (by with_reducible assumption) | refine Below.setCell ?_ (by simp <;> omega) _ | refine below_alloc ?_ _ | refine Below.alloc ?_ (by simp <;> omega) _ | refine Below.drew ?_ | refine below_drewN ?_ _)))).mono ?_
  rintro e w2 ⟨g4, g5, rfl, q0, q1, q2, o4, o5, hb⟩
  have HB2 := Lib.hid (show Below w.heap.size w w2 from Below.trans (by repeat (first | with_reducible exact Below.refl _ _ | exact Hid.out (by with_reducible assumption) | refine Below.setCell ?_ (by simp <;> omega) _ | refine below_alloc ?_ _ | refine Below.alloc ?_ (by simp <;> omega) _ | refine Below.drew ?_ | refine below_drewN ?_ _)) (hb.mono (by simp <;> omega)))
  obtain ⟨hc2, hf2⟩ := bcellK hb (w.heap.size + 2) (by simp <;> omega)
  have z2 : w1.heap.size ≤ g4 ∧ g4 < g5 ∧ g5 < w2.heap.size := ⟨by simpa using q0, q1, q2⟩
  clear q0 q1 q2
  have HO1_2 := Lib.hid (OwnC.below (OwnC.within HO1_1.out (show Within (w.heap.size + 2) (w.heap.size + 3) w1 _ from (by repeat (first | with_reducible exact Within.refl _ _ _ | refine Within.trans ?_ (Within.setCell _ (by first | (dsimp only; omega) | omega) (by first | (dsimp only; omega) | omega) _)))) (fun _ => .inr (by omega))) hb)
  have HO2_2 := Lib.hid (OwnC.below (OwnC.within HO2_1.out (show Within (w.heap.size + 2) (w.heap.size + 3) w1 _ from (by repeat (first | with_reducible exact Within.refl _ _ _ | refine Within.trans ?_ (Within.setCell _ (by first | (dsimp only; omega) | omega) (by first | (dsimp only; omega) | omega) _)))) (fun _ => .inr (by omega))) hb)
  have HO3_2 := Lib.hid (OwnC.below (OwnC.within HO3_1.out (show Within (w.heap.size + 2) (w.heap.size + 3) w1 _ from (by repeat (first | with_reducible exact Within.refl _ _ _ | refine Within.trans ?_ (Within.setCell _ (by first | (dsimp only; omega) | omega) (by first | (dsimp only; omega) | omega) _)))) (fun _ => .inr (by omega))) hb)
  clear HO1_1 HO2_1 HO3_1
  have HO4_2 := Lib.hid o4
  have HO5_2 := Lib.hid o5
  clear hb o4 o5
  go_wp2_with fail
  refine (HT2.out _ (k6.out.below (by repeat (first | with_reducible exact Below.refl _ _ | exact Hid.out (by with_reducible assumption) | refine Below.setCell ?_ (by simp <;> omega) _ | refine below_alloc ?_ _ | refine Below.alloc ?_ (by simp <;> omega) _ | refine Below.drew ?_ | refine below_drewN ?_ _)))).mono ?_
  rintro e w3 ⟨g6, rfl, q0, q1, o6, hb⟩
  have HB3 := Lib.hid (show Below w.heap.size w w3 from Below.trans (by repeat (first | with_reducible exact Below.refl _ _ | exact Hid.out (by with_reducible assumption) | refine Below.setCell ?_ (by simp <;> omega) _ | refine below_alloc ?_ _ | refine Below.alloc ?_ (by simp <;> omega) _ | refine Below.drew ?_ | refine below_drewN ?_ _)) (hb.mono (by simp <;> omega)))
  obtain ⟨hc3, hf3⟩ := bcellK hb (w.heap.size + 2) (by simp <;> omega)
  have z3 : w2.heap.size ≤ g6 ∧ g6 < w3.heap.size := ⟨by simpa using q0, q1⟩
  clear q0 q1
  have HO1_3 := Lib.hid (OwnC.below (OwnC.within HO1_2.out (show Within (w.heap.size + 2) (w.heap.size + 3) w2 _ from (by repeat (first | with_reducible exact Within.refl _ _ _ | refine Within.trans ?_ (Within.setCell _ (by first | (dsimp only; omega) | omega) (by first | (dsimp only; omega) | omega) _)))) (fun _ => .inr (by omega))) hb)
  have HO2_3 := Lib.hid (OwnC.below (OwnC.within HO2_2.out (show Within (w.heap.size + 2) (w.heap.size + 3) w2 _ from (by repeat (first | with_reducible exact Within.refl _ _ _ | refine Within.trans ?_ (Within.setCell _ (by first | (dsimp only; omega) | omega) (by first | (dsimp only; omega) | omega) _)))) (fun _ => .inr (by omega))) hb)
  have HO3_3 := Lib.hid (OwnC.below (OwnC.within HO3_2.out (show Within (w.heap.size + 2) (w.heap.size + 3) w2 _ from (by repeat (first | with_reducible exact Within.refl _ _ _ | refine Within.trans ?_ (Within.setCell _ (by first | (dsimp only; omega) | omega) (by first | (dsimp only; omega) | omega) _)))) (fun _ => .inr (by omega))) hb)
  have HO4_3 := Lib.hid (OwnC.below (OwnC.within HO4_2.out (show Within (w.heap.size + 2) (w.heap.size + 3) w2 _ from (by repeat (first | with_reducible exact Within.refl _ _ _ | refine Within.trans ?_ (Within.setCell _ (by first | (dsimp only; omega) | omega) (by first | (dsimp only; omega) | omega) _)))) (fun _ => .inr (by omega))) hb)
  have HO5_3 := Lib.hid (OwnC.below (OwnC.within HO5_2.out (show Within (w.heap.size + 2) (w.heap.size + 3) w2 _ from (by repeat (first | with_reducible exact Within.refl _ _ _ | refine Within.trans ?_ (Within.setCell _ (by first | (dsimp only; omega) | omega) (by first | (dsimp only; omega) | omega) _)))) (fun _ => .inr (by omega))) hb)
  clear HO1_2 HO2_2 HO3_2 HO4_2 HO5_2
  have HO6_3 := Lib.hid o6
  clear hb o6
  go_wp2_with fail
  refine (HT3.out _ (k7.out.below (by repeat (first | with_reducible exact Below.refl _ _ | exact Hid.out (by with_reducible assumption) | refine Below.setCell ?_ (by simp <;> omega) _ | refine below_alloc ?_ _ | refine Below.alloc ?_ (by simp <;> omega) _ | refine Below.drew ?_ | refine below_drewN ?_ _)))).mono ?_
  rintro e w4 ⟨rfl, qs, o7, hb⟩
  have HB4 := Lib.hid (show Below w.heap.size w w4 from Below.trans (by repeat (first | with_reducible exact Below.refl _ _ | exact Hid.out (by with_reducible assumption) | refine Below.setCell ?_ (by simp <;> omega) _ | refine below_alloc ?_ _ | refine Below.alloc ?_ (by simp <;> omega) _ | refine Below.drew ?_ | refine below_drewN ?_ _)) (hb.mono (by simp <;> omega)))
  obtain ⟨hc4, hf4⟩ := bcellK hb (w.heap.size + 2) (by simp <;> omega)
  simp only [World.size_setCell] at o7
  have z4 : w3.heap.size < w4.heap.size := by simp at qs; omega
  clear qs
  have HO1_4 := Lib.hid (OwnC.below (OwnC.within HO1_3.out (show Within (w.heap.size + 2) (w.heap.size + 3) w3 _ from (by repeat (first | with_reducible exact Within.refl _ _ _ | refine Within.trans ?_ (Within.setCell _ (by first | (dsimp only; omega) | omega) (by first | (dsimp only; omega) | omega) _)))) (fun _ => .inr (by omega))) hb)
  have HO2_4 := Lib.hid (OwnC.below (OwnC.within HO2_3.out (show Within (w.heap.size + 2) (w.heap.size + 3) w3 _ from (by repeat (first | with_reducible exact Within.refl _ _ _ | refine Within.trans ?_ (Within.setCell _ (by first | (dsimp only; omega) | omega) (by first | (dsimp only; omega) | omega) _)))) (fun _ => .inr (by omega))) hb)
  have HO3_4 := Lib.hid (OwnC.below (OwnC.within HO3_3.out (show Within (w.heap.size + 2) (w.heap.size + 3) w3 _ from (by repeat (first | with_reducible exact Within.refl _ _ _ | refine Within.trans ?_ (Within.setCell _ (by first | (dsimp only; omega) | omega) (by first | (dsimp only; omega) | omega) _)))) (fun _ => .inr (by omega))) hb)
  have HO4_4 := Lib.hid (OwnC.below (OwnC.within HO4_3.out (show Within (w.heap.size + 2) (w.heap.size + 3) w3 _ from (by repeat (first | with_reducible exact Within.refl _ _ _ | refine Within.trans ?_ (Within.setCell _ (by first | (dsimp only; omega) | omega) (by first | (dsimp only; omega) | omega) _)))) (fun _ => .inr (by omega))) hb)
  have HO5_4 := Lib.hid (OwnC.below (OwnC.within HO5_3.out (show Within (w.heap.size + 2) (w.heap.size + 3) w3 _ from (by repeat (first | with_reducible exact Within.refl _ _ _ | refine Within.trans ?_ (Within.setCell _ (by first | (dsimp only; omega) | omega) (by first | (dsimp only; omega) | omega) _)))) (fun _ => .inr (by omega))) hb)
  have HO6_4 := Lib.hid (OwnC.below (OwnC.within HO6_3.out (show Within (w.heap.size + 2) (w.heap.size + 3) w3 _ from (by repeat (first | with_reducible exact Within.refl _ _ _ | refine Within.trans ?_ (Within.setCell _ (by first | (dsimp only; omega) | omega) (by first | (dsimp only; omega) | omega) _)))) (fun _ => .inr (by omega))) hb)
  clear HO1_3 HO2_3 HO3_3 HO4_3 HO5_3 HO6_3
  have HO7_4 := Lib.hid o7
  clear hb o7
  go_wp2_with fail
  have hk : ∀ j, j < 13 → ∃ v, w4.cell? ⟨w.heap.size + 1, j, none⟩ = some v := fun j hj => by
    rw [hc4 _ _ (by omega), World.cell?_setCell_other _ _ _ _ (by simp), World.cell?_setCell_other _ _ _ _ (by simp), World.cell?_setCell_other _ _ _ _ (by simp), hc3 _ _ (by omega), World.cell?_setCell_other _ _ _ _ (by simp), World.cell?_setCell_other _ _ _ _ (by simp), World.cell?_setCell_other _ _ _ _ (by simp), World.cell?_setCell_other _ _ _ _ (by simp), hc2 _ _ (by omega), World.cell?_setCell_other _ _ _ _ (by simp), World.cell?_setCell_other _ _ _ _ (by simp), World.cell?_setCell_other _ _ _ _ (by simp), World.cell?_setCell_other _ _ _ _ (by simp), World.cell?_setCell_other _ _ _ _ (by simp), hc1 _ _ (by omega)]
    have : j = 0 ∨ j = 1 ∨ j = 2 ∨ j = 3 ∨ j = 4 ∨ j = 5 ∨ j = 6 ∨ j = 7 ∨ j = 8 ∨ j = 9 ∨ j = 10 ∨ j = 11 ∨ j = 12 := by omega
    rcases this with rfl | rfl | rfl | rfl | rfl | rfl | rfl | rfl | rfl | rfl | rfl | rfl | rfl <;> simp [go_sem]
  obtain ⟨u0, r0⟩ := hk 0 (by omega)
  obtain ⟨u1, r1⟩ := hk 1 (by omega)
  obtain ⟨u2, r2⟩ := hk 2 (by omega)
  obtain ⟨u3, r3⟩ := hk 3 (by omega)
  obtain ⟨u4, r4⟩ := hk 4 (by omega)
  obtain ⟨u5, r5⟩ := hk 5 (by omega)
  obtain ⟨u6, r6⟩ := hk 6 (by omega)
  obtain ⟨u7, r7⟩ := hk 7 (by omega)
  obtain ⟨u8, r8⟩ := hk 8 (by omega)
  obtain ⟨u9, r9⟩ := hk 9 (by omega)
  obtain ⟨u10, r10⟩ := hk 10 (by omega)
  obtain ⟨u11, r11⟩ := hk 11 (by omega)
  obtain ⟨u12, r12⟩ := hk 12 (by omega)
  clear hk hc1 hf1 hc2 hf2 hc3 hf3 hc4 hf4
  refine bodyPost_ret (v := .agg #[.int .i64 s1, .int .i64 l1, .slice (some ⟨g1, 0, none⟩) n1 n1, .slice (some ⟨g2, 0, none⟩) n2 n2, .slice (some ⟨g3, 0, none⟩) n3 n3, .int .i64 s2, .int .i64 l2, .slice (some ⟨g4, 0, none⟩) n4 n4, .slice (some ⟨g5, 0, none⟩) n5 n5, .int .i64 s3, .int .i64 l3, .slice (some ⟨g6, 0, none⟩) n6 n6, .slice (some ⟨w3.heap.size, 0, none⟩) n7 n7]) ?r1 rfl ?r2
  case r1 => simp [results, Try.results8, go_sem, r0, r1, r2, r3, r4, r5, r6, r7, r8, r9, r10, r11, r12]
  case r2 =>
    have HX : ∀ W : World, Within w.heap.size (w.heap.size + 3) w4 W → w3.heap.size < W.heap.size ∧ OwnC W g1 (some ⟨g1, 0, none⟩) (n1 * 4) (fun i => .int .i64 (f1 i)) ∧ OwnC W g2 (some ⟨g2, 0, none⟩) n2 (fun i => .int .i64 (f2 i)) ∧ OwnC W g3 (some ⟨g3, 0, none⟩) n3 (fun i => .int .i64 (f3 i)) ∧ OwnC W g4 (some ⟨g4, 0, none⟩) n4 (fun i => .int .i64 (f4 i)) ∧ OwnC W g5 (some ⟨g5, 0, none⟩) n5 (fun i => .bool (f5 i)) ∧ OwnC W g6 (some ⟨g6, 0, none⟩) (n6 * 4) (fun i => .int .i64 (f6 i)) ∧ OwnC W w3.heap.size (some ⟨w3.heap.size, 0, none⟩) n7 (fun i => .int .i64 (f7 i)) ∧ Below w.heap.size w W := fun W h =>
      ⟨Nat.lt_of_lt_of_le z4 h.size, HO1_4.out.within h (fun _ => .inr (by omega)), HO2_4.out.within h (fun _ => .inr (by omega)), HO3_4.out.within h (fun _ => .inr (by omega)), HO4_4.out.within h (fun _ => .inr (by omega)), HO5_4.out.within h (fun _ => .inr (by omega)), HO6_4.out.within h (fun _ => .inr (by omega)), HO7_4.out.within h (fun _ => .inr (by omega)), HB4.out.trans (h.below (Nat.le_refl _) HB4.out.size)⟩
    refine ⟨g1, g2, g3, g4, g5, g6, w3.heap.size, rfl, by omega, by omega, by omega, by omega, by omega, by omega, by omega, HX _ ?_⟩
    exact (by repeat (first | with_reducible exact Within.refl _ _ _ | refine Within.trans ?_ (Within.setCell _ (by first | (dsimp only; omega) | omega) (by first | (dsimp only; omega) | omega) _)))
set_option maxHeartbeats 4000000 in
theorem eqDesk_any (s1 l1 s2 l2 s3 l3 : Int) (A1 A2 A3 A4 A5 A6 A7 B1 B2 B3 B4 B5 B6 B7 : Option Addr) (n1 c1 n2 c2 n3 c3 n4 c4 n5 c5 n6 c6 n7 c7 d1 d2 d3 d4 d5 d6 d7 : Nat) (f1 f2 f3 f4 : Nat → Int) (f5 : Nat → Bool) (f6 f7 : Nat → Int) (w : World) (h1 : n1 ≤ 4611686018427387904) (h2 : n2 ≤ 4611686018427387904) (h3 : n3 ≤ 4611686018427387904) (h4 : n4 ≤ 4611686018427387904) (h5 : n5 ≤ 4611686018427387904) (h6 : n6 ≤ 4611686018427387904) (h7 : n7 ≤ 4611686018427387904) (k1 : Cells w A1 (n1 * 4) (fun i => .int .i64 (f1 i))) (k2 : Cells w A2 n2 (fun i => .int .i64 (f2 i))) (k3 : Cells w A3 n3 (fun i => .int .i64 (f3 i))) (k4 : Cells w A4 n4 (fun i => .int .i64 (f4 i))) (k5 : Cells w A5 n5 (fun i => .bool (f5 i))) (k6 : Cells w A6 (n6 * 4) (fun i => .int .i64 (f6 i))) (k7 : Cells w A7 n7 (fun i => .int .i64 (f7 i))) (m1 : Cells w B1 (n1 * 4) (fun i => .int .i64 (f1 i))) (m2 : Cells w B2 n2 (fun i => .int .i64 (f2 i))) (m3 : Cells w B3 n3 (fun i => .int .i64 (f3 i))) (m4 : Cells w B4 n4 (fun i => .int .i64 (f4 i))) (m5 : Cells w B5 n5 (fun i => .bool (f5 i))) (m6 : Cells w B6 (n6 * 4) (fun i => .int .i64 (f6 i))) (m7 : Cells w B7 n7 (fun i => .int .i64 (f7 i))) :
    Calls Try.prog 10 #[.agg #[.int .i64 s1, .int .i64 l1, .slice A1 n1 c1, .slice A2 n2 c2, .slice A3 n3 c3, .int .i64 s2, .int .i64 l2, .slice A4 n4 c4, .slice A5 n5 c5, .int .i64 s3, .int .i64 l3, .slice A6 n6 c6, .slice A7 n7 c7], .agg #[.int .i64 s1, .int .i64 l1, .slice B1 n1 d1, .slice B2 n2 d2, .slice B3 n3 d3, .int .i64 s2, .int .i64 l2, .slice B4 n4 d4, .slice B5 n5 d5, .int .i64 s3, .int .i64 l3, .slice B6 n6 d6, .slice B7 n7 d7]] w fun e w' => e = .returned (.bool true) ∧ Below w.heap.size w w' := by
  have k1 := Lib.hid k1
  have m1 := Lib.hid m1
  have k2 := Lib.hid k2
  have m2 := Lib.hid m2
  have k3 := Lib.hid k3
  have m3 := Lib.hid m3
  have k4 := Lib.hid k4
  have m4 := Lib.hid m4
  have k5 := Lib.hid k5
  have m5 := Lib.hid m5
  have k6 := Lib.hid k6
  have m6 := Lib.hid m6
  have k7 := Lib.hid k7
  have m7 := Lib.hid m7
  have HE0 := Lib.hid (fun W y1 y2 y3 y4 y5 y6 => eqMachine_any s1 l1 A1 A2 A3 B1 B2 B3 n1 c1 n2 c2 n3 c3 d1 d2 d3 f1 f2 f3 W h1 h2 h3 y1 y2 y3 y4 y5 y6)
  have HE1 := Lib.hid (fun W y1 y2 y3 y4 => eqPlain_any s2 l2 A4 A5 B4 B5 n4 c4 n5 c5 d4 d5 f4 f5 W h4 h5 y1 y2 y3 y4)
  have HE2 := Lib.hid (fun W y1 y2 => eqGrammar_any s3 l3 A6 B6 n6 c6 d6 f6 W h6 y1 y2)
  have HE3 := Lib.hid (fun W y1 y2 => eqI_any A7 B7 n7 c7 d7 f7 W h7 y1 y2)
  go_enter Try.func10, Try.ntmps10
  go_wp2_with fail
  refine (HE0.out _ (k1.out.below (by repeat (first | with_reducible exact Below.refl _ _ | exact Hid.out (by with_reducible assumption) | refine Below.setCell ?_ (by simp <;> omega) _ | refine below_alloc ?_ _ | refine Below.alloc ?_ (by simp <;> omega) _ | refine Below.drew ?_ | refine below_drewN ?_ _))) (k2.out.below (by repeat (first | with_reducible exact Below.refl _ _ | exact Hid.out (by with_reducible assumption) | refine Below.setCell ?_ (by simp <;> omega) _ | refine below_alloc ?_ _ | refine Below.alloc ?_ (by simp <;> omega) _ | refine Below.drew ?_ | refine below_drewN ?_ _))) (k3.out.below (by repeat (first | with_reducible exact Below.refl _ _ | exact Hid.out (by with_reducible assumption) | refine Below.setCell ?_ (by simp <;> omega) _ | refine below_alloc ?_ _ | refine Below.alloc ?_ (by simp <;> omega) _ | refine Below.drew ?_ | refine below_drewN ?_ _))) (m1.out.below (by repeat (first | with_reducible exact Below.refl _ _ | exact Hid.out (by with_reducible assumption) | refine Below.setCell ?_ (by simp <;> omega) _ | refine below_alloc ?_ _ | refine Below.alloc ?_ (by simp <;> omega) _ | refine Below.drew ?_ | refine below_drewN ?_ _))) (m2.out.below (by repeat (first | with_reducible exact Below.refl _ _ | exact Hid.out (by with_reducible assumption) | refine Below.setCell ?_ (by simp <;> omega) _ | refine below_alloc ?_ _ | refine Below.alloc ?_ (by simp <;> omega) _ | refine Below.drew ?_ | refine below_drewN ?_ _))) (m3.out.below (by repeat (first | with_reducible exact Below.refl _ _ | exact Hid.out (by with_reducible assumption) | refine Below.setCell ?_ (by simp <;> omega) _ | refine below_alloc ?_ _ | refine Below.alloc ?_ (by simp <;> omega) _ | refine Below.drew ?_ | refine below_drewN ?_ _)))).mono ?_
  rintro e w1 ⟨rfl, hb⟩
  have N1 := Lib.hid (show Below w.heap.size w w1 from Below.trans (by repeat (first | with_reducible exact Below.refl _ _ | exact Hid.out (by with_reducible assumption) | refine Below.setCell ?_ (by simp <;> omega) _ | refine below_alloc ?_ _ | refine Below.alloc ?_ (by simp <;> omega) _ | refine Below.drew ?_ | refine below_drewN ?_ _)) (hb.mono (by simp <;> omega)))
  have X1 := Lib.hid (Box13.below (Box13.alloc (Box13.new w 44 (.int .i64 s1) (.int .i64 l1) (.slice A1 n1 c1) (.slice A2 n2 c2) (.slice A3 n3 c3) (.int .i64 s2) (.int .i64 l2) (.slice A4 n4 c4) (.slice A5 n5 c5) (.int .i64 s3) (.int .i64 l3) (.slice A6 n6 c6) (.slice A7 n7 c7)) _) hb)
  have Y1 := Lib.hid (Box13.below (show Box13 _ (w.heap.size + 1) _ _ _ _ _ _ _ _ _ _ _ _ _ from by simpa using (Box13.new (w.alloc (.cells #[.int .i64 s1, .int .i64 l1, .slice A1 n1 c1, .slice A2 n2 c2, .slice A3 n3 c3, .int .i64 s2, .int .i64 l2, .slice A4 n4 c4, .slice A5 n5 c5, .int .i64 s3, .int .i64 l3, .slice A6 n6 c6, .slice A7 n7 c7] 44)) 44 (.int .i64 s1) (.int .i64 l1) (.slice B1 n1 d1) (.slice B2 n2 d2) (.slice B3 n3 d3) (.int .i64 s2) (.int .i64 l2) (.slice B4 n4 d4) (.slice B5 n5 d5) (.int .i64 s3) (.int .i64 l3) (.slice B6 n6 d6) (.slice B7 n7 d7))) hb)
  obtain ⟨x0, x1, x2, x3, x4, x5, x6, x7, x8, x9, x10, x11, x12⟩ := X1.out
  obtain ⟨y0, y1, y2, y3, y4, y5, y6, y7, y8, y9, y10, y11, y12⟩ := Y1.out
  clear hb
  go_wp2_with fail
  refine (HE1.out _ (k4.out.below (by repeat (first | with_reducible exact Below.refl _ _ | exact Hid.out (by with_reducible assumption) | refine Below.setCell ?_ (by simp <;> omega) _ | refine below_alloc ?_ _ | refine Below.alloc ?_ (by simp <;> omega) _ | refine Below.drew ?_ | refine below_drewN ?_ _))) (k5.out.below (by repeat (first | with_reducible exact Below.refl _ _ | exact Hid.out (by with_reducible assumption) | refine Below.setCell ?_ (by simp <;> omega) _ | refine below_alloc ?_ _ | refine Below.alloc ?_ (by simp <;> omega) _ | refine Below.drew ?_ | refine below_drewN ?_ _))) (m4.out.below (by repeat (first | with_reducible exact Below.refl _ _ | exact Hid.out (by with_reducible assumption) | refine Below.setCell ?_ (by simp <;> omega) _ | refine below_alloc ?_ _ | refine Below.alloc ?_ (by simp <;> omega) _ | refine Below.drew ?_ | refine below_drewN ?_ _))) (m5.out.below (by repeat (first | with_reducible exact Below.refl _ _ | exact Hid.out (by with_reducible assumption) | refine Below.setCell ?_ (by simp <;> omega) _ | refine below_alloc ?_ _ | refine Below.alloc ?_ (by simp <;> omega) _ | refine Below.drew ?_ | refine below_drewN ?_ _)))).mono ?_
  rintro e w2 ⟨rfl, hb⟩
  have N2 := Lib.hid (show Below w.heap.size w w2 from Below.trans (by repeat (first | with_reducible exact Below.refl _ _ | exact Hid.out (by with_reducible assumption) | refine Below.setCell ?_ (by simp <;> omega) _ | refine below_alloc ?_ _ | refine Below.alloc ?_ (by simp <;> omega) _ | refine Below.drew ?_ | refine below_drewN ?_ _)) (hb.mono (by exact N1.out.size)))
  have X2 := Lib.hid (X1.out.below hb)
  have Y2 := Lib.hid (Y1.out.below hb)
  clear x0 y0 x1 y1 x2 y2 x3 y3 x4 y4 x5 y5 x6 y6 x7 y7 x8 y8 x9 y9 x10 y10 x11 y11 x12 y12
  obtain ⟨x0, x1, x2, x3, x4, x5, x6, x7, x8, x9, x10, x11, x12⟩ := X2.out
  obtain ⟨y0, y1, y2, y3, y4, y5, y6, y7, y8, y9, y10, y11, y12⟩ := Y2.out
  clear hb
  go_wp2_with fail
  refine (HE2.out _ (k6.out.below (by repeat (first | with_reducible exact Below.refl _ _ | exact Hid.out (by with_reducible assumption) | refine Below.setCell ?_ (by simp <;> omega) _ | refine below_alloc ?_ _ | refine Below.alloc ?_ (by simp <;> omega) _ | refine Below.drew ?_ | refine below_drewN ?_ _))) (m6.out.below (by repeat (first | with_reducible exact Below.refl _ _ | exact Hid.out (by with_reducible assumption) | refine Below.setCell ?_ (by simp <;> omega) _ | refine below_alloc ?_ _ | refine Below.alloc ?_ (by simp <;> omega) _ | refine Below.drew ?_ | refine below_drewN ?_ _)))).mono ?_
  rintro e w3 ⟨rfl, hb⟩
  have N3 := Lib.hid (show Below w.heap.size w w3 from Below.trans (by repeat (first | with_reducible exact Below.refl _ _ | exact Hid.out (by with_reducible assumption) | refine Below.setCell ?_ (by simp <;> omega) _ | refine below_alloc ?_ _ | refine Below.alloc ?_ (by simp <;> omega) _ | refine Below.drew ?_ | refine below_drewN ?_ _)) (hb.mono (by exact N2.out.size)))
  have X3 := Lib.hid (X2.out.below hb)
  have Y3 := Lib.hid (Y2.out.below hb)
  clear x0 y0 x1 y1 x2 y2 x3 y3 x4 y4 x5 y5 x6 y6 x7 y7 x8 y8 x9 y9 x10 y10 x11 y11 x12 y12
  obtain ⟨x0, x1, x2, x3, x4, x5, x6, x7, x8, x9, x10, x11, x12⟩ := X3.out
  obtain ⟨y0, y1, y2, y3, y4, y5, y6, y7, y8, y9, y10, y11, y12⟩ := Y3.out
  clear hb
  go_wp2_with fail
  refine (HE3.out _ (k7.out.below (by repeat (first | with_reducible exact Below.refl _ _ | exact Hid.out (by with_reducible assumption) | refine Below.setCell ?_ (by simp <;> omega) _ | refine below_alloc ?_ _ | refine Below.alloc ?_ (by simp <;> omega) _ | refine Below.drew ?_ | refine below_drewN ?_ _))) (m7.out.below (by repeat (first | with_reducible exact Below.refl _ _ | exact Hid.out (by with_reducible assumption) | refine Below.setCell ?_ (by simp <;> omega) _ | refine below_alloc ?_ _ | refine Below.alloc ?_ (by simp <;> omega) _ | refine Below.drew ?_ | refine below_drewN ?_ _)))).mono ?_
  rintro e w4 ⟨rfl, mq, rfl⟩
  go_wp2_with fail
  go_ret
  exact ⟨rfl, (by repeat (first | with_reducible exact Below.refl _ _ | exact Hid.out (by with_reducible assumption) | refine Below.setCell ?_ (by simp <;> omega) _ | refine below_alloc ?_ _ | refine Below.alloc ?_ (by simp <;> omega) _ | refine Below.drew ?_ | refine below_drewN ?_ _))⟩
set_option maxHeartbeats 4000000 in
theorem markDesk_any (s1 l1 s2 l2 s3 l3 : Int) (A1 A2 A3 A4 A5 A6 A7 : Option Addr) (n1 c1 n2 c2 n3 c3 n4 c4 n5 c5 n6 c6 n7 c7 : Nat) (g1 g2 g3 g4 g5 g6 g7 b1 b2 b3 b4 : Nat) (U1 U2 U3 U4 U5 U6 U7 : Nat → Value) (k0 : Int) (w : World) (h0 : 0 ≤ k0) (h1 : k0 + 4 * n1 + n2 + n3 + n4 + n5 + 4 * n6 + n7 ≤ 4611686018427387904) (k1 : OwnC w g1 A1 (n1 * 4) U1) (k2 : OwnC w g2 A2 n2 U2) (k3 : OwnC w g3 A3 n3 U3) (k4 : OwnC w g4 A4 n4 U4) (k5 : OwnC w g5 A5 n5 U5) (k6 : OwnC w g6 A6 (n6 * 4) U6) (k7 : OwnC w g7 A7 n7 U7)
    (hd : (g1 ≠ g2 ∧ g1 ≠ g3 ∧ g2 ≠ g3) ∧ g4 ≠ g5) (ho : g1 < b1 ∧ g2 < b1 ∧ g3 < b1 ∧ b1 ≤ g4 ∧ b1 ≤ g5 ∧ g4 < b2 ∧ g5 < b2 ∧ b2 ≤ g6 ∧ g6 < b3 ∧ b3 ≤ g7 ∧ b4 ≤ w.heap.size ∧ g7 < b4) :
    Calls Try.prog 15 #[.agg #[.int .i64 s1, .int .i64 l1, .slice A1 n1 c1, .slice A2 n2 c2, .slice A3 n3 c3, .int .i64 s2, .int .i64 l2, .slice A4 n4 c4, .slice A5 n5 c5, .int .i64 s3, .int .i64 l3, .slice A6 n6 c6, .slice A7 n7 c7], .int .i64 k0] w fun e w' => e = .returned (.int .i64 (k0 + 4 * n1 + n2 + n3 + n4 + n5 + 4 * n6 + n7)) ∧ OwnC w' g1 A1 (n1 * 4) (fun i => .int .i64 (k0 + i)) ∧ OwnC w' g2 A2 n2 (fun i => .int .i64 (k0 + 4 * n1 + i)) ∧ OwnC w' g3 A3 n3 (fun i => .int .i64 (k0 + 4 * n1 + n2 + i)) ∧ OwnC w' g4 A4 n4 (fun i => .int .i64 (k0 + 4 * n1 + n2 + n3 + i)) ∧ OwnC w' g5 A5 n5 (fun i => .bool ((k0 + 4 * n1 + n2 + n3 + n4 + i) % 3 == 0)) ∧ OwnC w' g6 A6 (n6 * 4) (fun i => .int .i64 (k0 + 4 * n1 + n2 + n3 + n4 + n5 + i)) ∧ OwnC w' g7 A7 n7 (fun i => .int .i64 (k0 + 4 * n1 + n2 + n3 + n4 + n5 + 4 * n6 + i)) ∧
      ∀ lo, lo ≤ g1 → lo ≤ g2 → lo ≤ g3 → Within lo b4 w w' := by
  obtain ⟨hd1, hd2⟩ := hd
  obtain ⟨p1, p2, p3, p4, p5, p6, p7, p8, p9, p10, p11, p12⟩ := ho
  have M1_0 := Lib.hid k1
  have M2_0 := Lib.hid k2
  have M3_0 := Lib.hid k3
  have M4_0 := Lib.hid k4
  have M5_0 := Lib.hid k5
  have M6_0 := Lib.hid k6
  have M7_0 := Lib.hid k7
  have HM0 := Lib.hid (fun W y1 y2 y3 => markMachine_any s1 l1 A1 A2 A3 n1 c1 n2 c2 n3 c3 g1 g2 g3 U1 U2 U3 k0 W h0 (by omega) y1 y2 y3 hd1)
  have HM1 := Lib.hid (fun W y1 y2 => markPlain_any s2 l2 A4 A5 n4 c4 n5 c5 g4 g5 U4 U5 (k0 + 4 * n1 + n2 + n3) W (by omega) (by omega) y1 y2 hd2)
  have HM2 := Lib.hid (fun W y1 => markGrammar_any s3 l3 A6 n6 c6 g6 U6 (k0 + 4 * n1 + n2 + n3 + n4 + n5) W (by omega) (by omega) y1)
  have HM3 := Lib.hid (fun W y1 => markI_any A7 n7 c7 g7 U7 (k0 + 4 * n1 + n2 + n3 + n4 + n5 + 4 * n6) W (by omega) (by omega) y1)
  clear k1 k2 k3 k4 k5 k6 k7
  go_enter Try.func15, Try.ntmps15
  go_wp2_with fail
  refine (HM0.out _ (M1_0.out.below (by repeat (first | with_reducible exact Below.refl _ _ | exact Hid.out (by with_reducible assumption) | refine Below.setCell ?_ (by simp <;> omega) _ | refine below_alloc ?_ _ | refine Below.alloc ?_ (by simp <;> omega) _ | refine Below.drew ?_ | refine below_drewN ?_ _))) (M2_0.out.below (by repeat (first | with_reducible exact Below.refl _ _ | exact Hid.out (by with_reducible assumption) | refine Below.setCell ?_ (by simp <;> omega) _ | refine below_alloc ?_ _ | refine Below.alloc ?_ (by simp <;> omega) _ | refine Below.drew ?_ | refine below_drewN ?_ _))) (M3_0.out.below (by repeat (first | with_reducible exact Below.refl _ _ | exact Hid.out (by with_reducible assumption) | refine Below.setCell ?_ (by simp <;> omega) _ | refine below_alloc ?_ _ | refine Below.alloc ?_ (by simp <;> omega) _ | refine Below.drew ?_ | refine below_drewN ?_ _)))).mono ?_
  rintro e w1 ⟨rfl, o1, o2, o3, hw⟩
  have HW1 := Lib.hid (show Within 0 b1 _ w1 from hw 0 b1 (by omega) (by omega) (by omega) (fun _ => by omega) (fun _ => by omega) (fun _ => by omega) (by simp <;> omega))
  have HV := Lib.hid (fun lo (y1 : lo ≤ g1) (y2 : lo ≤ g2) (y3 : lo ≤ g3) => hw lo b1 y1 y2 y3 (fun _ => by omega) (fun _ => by omega) (fun _ => by omega) (by simp <;> omega))
  clear hw
  have SZ1 := Lib.hid (show w.heap.size < w1.heap.size from by have := HW1.out.size; simp at this; omega)
  have M1_1 := Lib.hid o1
  have M2_1 := Lib.hid o2
  have M3_1 := Lib.hid o3
  have M4_1 := Lib.hid (OwnC.within (OwnC.below (w' := w.alloc _) M4_0.out (by repeat (first | with_reducible exact Below.refl _ _ | exact Hid.out (by with_reducible assumption) | refine Below.setCell ?_ (by simp <;> omega) _ | refine below_alloc ?_ _ | refine Below.alloc ?_ (by simp <;> omega) _ | refine Below.drew ?_ | refine below_drewN ?_ _))) HW1.out (fun _ => by omega))
  have M5_1 := Lib.hid (OwnC.within (OwnC.below (w' := w.alloc _) M5_0.out (by repeat (first | with_reducible exact Below.refl _ _ | exact Hid.out (by with_reducible assumption) | refine Below.setCell ?_ (by simp <;> omega) _ | refine below_alloc ?_ _ | refine Below.alloc ?_ (by simp <;> omega) _ | refine Below.drew ?_ | refine below_drewN ?_ _))) HW1.out (fun _ => by omega))
  have M6_1 := Lib.hid (OwnC.within (OwnC.below (w' := w.alloc _) M6_0.out (by repeat (first | with_reducible exact Below.refl _ _ | exact Hid.out (by with_reducible assumption) | refine Below.setCell ?_ (by simp <;> omega) _ | refine below_alloc ?_ _ | refine Below.alloc ?_ (by simp <;> omega) _ | refine Below.drew ?_ | refine below_drewN ?_ _))) HW1.out (fun _ => by omega))
  have M7_1 := Lib.hid (OwnC.within (OwnC.below (w' := w.alloc _) M7_0.out (by repeat (first | with_reducible exact Below.refl _ _ | exact Hid.out (by with_reducible assumption) | refine Below.setCell ?_ (by simp <;> omega) _ | refine below_alloc ?_ _ | refine Below.alloc ?_ (by simp <;> omega) _ | refine Below.drew ?_ | refine below_drewN ?_ _))) HW1.out (fun _ => by omega))
  clear o1 o2 o3 M1_0 M2_0 M3_0 M4_0 M5_0 M6_0 M7_0
  have X1 := Lib.hid (Box13.within (Box13.new w 44 (.int .i64 s1) (.int .i64 l1) (.slice A1 n1 c1) (.slice A2 n2 c2) (.slice A3 n3 c3) (.int .i64 s2) (.int .i64 l2) (.slice A4 n4 c4) (.slice A5 n5 c5) (.int .i64 s3) (.int .i64 l3) (.slice A6 n6 c6) (.slice A7 n7 c7)) HW1.out (.inr (by omega)))
  obtain ⟨x0, x1, x2, x3, x4, x5, x6, x7, x8, x9, x10, x11, x12⟩ := X1.out
  go_wp2_with fail
  refine (HM1.out _ M4_1.out M5_1.out).mono ?_
  rintro e w2 ⟨rfl, o4, o5, hw⟩
  have HW2 := Lib.hid (show Within b1 b2 _ w2 from hw b1 b2 (by omega) (by omega) (fun _ => by omega) (fun _ => by omega) (by have := SZ1.out; omega))
  clear hw
  have SZ2 := Lib.hid (show w.heap.size < w2.heap.size from by have := HW2.out.size; have := SZ1.out; omega)
  have M1_2 := Lib.hid (OwnC.within M1_1.out HW2.out (fun _ => by omega))
  have M2_2 := Lib.hid (OwnC.within M2_1.out HW2.out (fun _ => by omega))
  have M3_2 := Lib.hid (OwnC.within M3_1.out HW2.out (fun _ => by omega))
  have M4_2 := Lib.hid o4
  have M5_2 := Lib.hid o5
  have M6_2 := Lib.hid (OwnC.within M6_1.out HW2.out (fun _ => by omega))
  have M7_2 := Lib.hid (OwnC.within M7_1.out HW2.out (fun _ => by omega))
  clear o4 o5 M1_1 M2_1 M3_1 M4_1 M5_1 M6_1 M7_1
  have X2 := Lib.hid (Box13.within (X1.out) HW2.out (.inr (by omega)))
  clear x0 x1 x2 x3 x4 x5 x6 x7 x8 x9 x10 x11 x12
  obtain ⟨x0, x1, x2, x3, x4, x5, x6, x7, x8, x9, x10, x11, x12⟩ := X2.out
  go_wp2_with fail
  refine (HM2.out _ M6_2.out).mono ?_
  rintro e w3 ⟨rfl, o6, hw⟩
  have HW3 := Lib.hid (show Within b2 b3 _ w3 from hw b2 b3 (by omega) (fun _ => by omega))
  clear hw
  have SZ3 := Lib.hid (show w.heap.size < w3.heap.size from by have := HW3.out.size; have := SZ2.out; omega)
  have M1_3 := Lib.hid (OwnC.within M1_2.out HW3.out (fun _ => by omega))
  have M2_3 := Lib.hid (OwnC.within M2_2.out HW3.out (fun _ => by omega))
  have M3_3 := Lib.hid (OwnC.within M3_2.out HW3.out (fun _ => by omega))
  have M4_3 := Lib.hid (OwnC.within M4_2.out HW3.out (fun _ => by omega))
  have M5_3 := Lib.hid (OwnC.within M5_2.out HW3.out (fun _ => by omega))
  have M6_3 := Lib.hid o6
  have M7_3 := Lib.hid (OwnC.within M7_2.out HW3.out (fun _ => by omega))
  clear o6 M1_2 M2_2 M3_2 M4_2 M5_2 M6_2 M7_2
  have X3 := Lib.hid (Box13.within (X2.out) HW3.out (.inr (by omega)))
  clear x0 x1 x2 x3 x4 x5 x6 x7 x8 x9 x10 x11 x12
  obtain ⟨x0, x1, x2, x3, x4, x5, x6, x7, x8, x9, x10, x11, x12⟩ := X3.out
  go_wp2_with fail
  refine (HM3.out _ M7_3.out).mono ?_
  rintro e w4 ⟨rfl, o7, hw⟩
  have HW4 := Lib.hid (show Within b3 b4 _ w4 from hw b3 b4 (by omega) (fun _ => by omega))
  clear hw
  have SZ4 := Lib.hid (show w.heap.size < w4.heap.size from by have := HW4.out.size; have := SZ3.out; omega)
  have M1_4 := Lib.hid (OwnC.within M1_3.out HW4.out (fun _ => by omega))
  have M2_4 := Lib.hid (OwnC.within M2_3.out HW4.out (fun _ => by omega))
  have M3_4 := Lib.hid (OwnC.within M3_3.out HW4.out (fun _ => by omega))
  have M4_4 := Lib.hid (OwnC.within M4_3.out HW4.out (fun _ => by omega))
  have M5_4 := Lib.hid (OwnC.within M5_3.out HW4.out (fun _ => by omega))
  have M6_4 := Lib.hid (OwnC.within M6_3.out HW4.out (fun _ => by omega))
  have M7_4 := Lib.hid o7
  clear o7 M1_3 M2_3 M3_3 M4_3 M5_3 M6_3 M7_3
  go_wp2_with fail
  go_ret
  refine ⟨rfl, M1_4.out, M2_4.out, M3_4.out, M4_4.out, M5_4.out, M6_4.out, M7_4.out, fun lo y1 y2 y3 => ?_⟩
  have a1 : Within lo b4 w _ := (Within.of_below (Below.alloc (Below.refl _ _) (Nat.le_refl _) _)).trans ((HV.out lo y1 y2 y3).mono (Nat.le_refl _) (by omega))
  exact ((a1.trans (HW2.out.mono (by omega) (by omega))).trans (HW3.out.mono (by omega) (by omega))).trans (HW4.out.mono (by omega) (Nat.le_refl _))
set_option maxHeartbeats 4000000 in
theorem heldDesk_any (s1 l1 s2 l2 s3 l3 : Int) (A1 A2 A3 A4 A5 A6 A7 : Option Addr) (n1 c1 n2 c2 n3 c3 n4 c4 n5 c5 n6 c6 n7 c7 : Nat) (k0 : Int) (w : World) (h0 : 0 ≤ k0) (h1 : k0 + 4 * n1 + n2 + n3 + n4 + n5 + 4 * n6 + n7 ≤ 4611686018427387904) (k1 : Cells w A1 (n1 * 4) (fun i => .int .i64 (k0 + i))) (k2 : Cells w A2 n2 (fun i => .int .i64 (k0 + 4 * n1 + i))) (k3 : Cells w A3 n3 (fun i => .int .i64 (k0 + 4 * n1 + n2 + i))) (k4 : Cells w A4 n4 (fun i => .int .i64 (k0 + 4 * n1 + n2 + n3 + i))) (k5 : Cells w A5 n5 (fun i => .bool ((k0 + 4 * n1 + n2 + n3 + n4 + i) % 3 == 0))) (k6 : Cells w A6 (n6 * 4) (fun i => .int .i64 (k0 + 4 * n1 + n2 + n3 + n4 + n5 + i))) (k7 : Cells w A7 n7 (fun i => .int .i64 (k0 + 4 * n1 + n2 + n3 + n4 + n5 + 4 * n6 + i))) :
    Calls Try.prog 16 #[.agg #[.int .i64 s1, .int .i64 l1, .slice A1 n1 c1, .slice A2 n2 c2, .slice A3 n3 c3, .int .i64 s2, .int .i64 l2, .slice A4 n4 c4, .slice A5 n5 c5, .int .i64 s3, .int .i64 l3, .slice A6 n6 c6, .slice A7 n7 c7], .int .i64 k0] w fun e w' => e = .returned (.int .i64 (k0 + 4 * n1 + n2 + n3 + n4 + n5 + 4 * n6 + n7)) ∧ Below w.heap.size w w' := by
  have k1 := Lib.hid k1
  have k2 := Lib.hid k2
  have k3 := Lib.hid k3
  have k4 := Lib.hid k4
  have k5 := Lib.hid k5
  have k6 := Lib.hid k6
  have k7 := Lib.hid k7
  have HH0 := Lib.hid (fun W y1 y2 y3 => heldMachine_any s1 l1 A1 A2 A3 n1 c1 n2 c2 n3 c3 k0 W h0 (by omega) y1 y2 y3)
  have HH1 := Lib.hid (fun W y1 y2 => heldPlain_any s2 l2 A4 A5 n4 c4 n5 c5 (k0 + 4 * n1 + n2 + n3) W (by omega) (by omega) y1 y2)
  have HH2 := Lib.hid (fun W y1 => heldGrammar_any s3 l3 A6 n6 c6 (k0 + 4 * n1 + n2 + n3 + n4 + n5) W (by omega) (by omega) y1)
  have HH3 := Lib.hid (fun W y1 => heldI_any A7 n7 c7 (k0 + 4 * n1 + n2 + n3 + n4 + n5 + 4 * n6) W (by omega) (by omega) y1)
  have e0 : ¬ k0 + 4 * (n1 : Int) + (n2 : Int) + (n3 : Int) < 0 := by omega
  have e1 : ¬ k0 + 4 * (n1 : Int) + (n2 : Int) + (n3 : Int) + (n4 : Int) + (n5 : Int) < 0 := by omega
  have e2 : ¬ k0 + 4 * (n1 : Int) + (n2 : Int) + (n3 : Int) + (n4 : Int) + (n5 : Int) + 4 * (n6 : Int) < 0 := by omega
  have e3 : ¬ k0 + 4 * (n1 : Int) + (n2 : Int) + (n3 : Int) + (n4 : Int) + (n5 : Int) + 4 * (n6 : Int) + (n7 : Int) < 0 := by omega
  go_enter Try.func16, Try.ntmps16
  go_wp2_with fail
  refine (HH0.out _ (k1.out.below (by repeat (first | with_reducible exact Below.refl _ _ | exact Hid.out (by with_reducible assumption) | refine Below.setCell ?_ (by simp <;> omega) _ | refine below_alloc ?_ _ | refine Below.alloc ?_ (by simp <;> omega) _ | refine Below.drew ?_ | refine below_drewN ?_ _))) (k2.out.below (by repeat (first | with_reducible exact Below.refl _ _ | exact Hid.out (by with_reducible assumption) | refine Below.setCell ?_ (by simp <;> omega) _ | refine below_alloc ?_ _ | refine Below.alloc ?_ (by simp <;> omega) _ | refine Below.drew ?_ | refine below_drewN ?_ _))) (k3.out.below (by repeat (first | with_reducible exact Below.refl _ _ | exact Hid.out (by with_reducible assumption) | refine Below.setCell ?_ (by simp <;> omega) _ | refine below_alloc ?_ _ | refine Below.alloc ?_ (by simp <;> omega) _ | refine Below.drew ?_ | refine below_drewN ?_ _)))).mono ?_
  rintro e w1 ⟨rfl, hb⟩
  have N1 := Lib.hid (show Below w.heap.size w w1 from Below.trans (by repeat (first | with_reducible exact Below.refl _ _ | exact Hid.out (by with_reducible assumption) | refine Below.setCell ?_ (by simp <;> omega) _ | refine below_alloc ?_ _ | refine Below.alloc ?_ (by simp <;> omega) _ | refine Below.drew ?_ | refine below_drewN ?_ _)) (hb.mono (by simp <;> omega)))
  have X1 := Lib.hid (Box13.below (Box13.new w 44 (.int .i64 s1) (.int .i64 l1) (.slice A1 n1 c1) (.slice A2 n2 c2) (.slice A3 n3 c3) (.int .i64 s2) (.int .i64 l2) (.slice A4 n4 c4) (.slice A5 n5 c5) (.int .i64 s3) (.int .i64 l3) (.slice A6 n6 c6) (.slice A7 n7 c7)) hb)
  obtain ⟨x0, x1, x2, x3, x4, x5, x6, x7, x8, x9, x10, x11, x12⟩ := X1.out
  clear hb
  go_wp2_with fail
  refine (HH1.out _ (k4.out.below (by repeat (first | with_reducible exact Below.refl _ _ | exact Hid.out (by with_reducible assumption) | refine Below.setCell ?_ (by simp <;> omega) _ | refine below_alloc ?_ _ | refine Below.alloc ?_ (by simp <;> omega) _ | refine Below.drew ?_ | refine below_drewN ?_ _))) (k5.out.below (by repeat (first | with_reducible exact Below.refl _ _ | exact Hid.out (by with_reducible assumption) | refine Below.setCell ?_ (by simp <;> omega) _ | refine below_alloc ?_ _ | refine Below.alloc ?_ (by simp <;> omega) _ | refine Below.drew ?_ | refine below_drewN ?_ _)))).mono ?_
  rintro e w2 ⟨rfl, hb⟩
  have N2 := Lib.hid (show Below w.heap.size w w2 from Below.trans (by repeat (first | with_reducible exact Below.refl _ _ | exact Hid.out (by with_reducible assumption) | refine Below.setCell ?_ (by simp <;> omega) _ | refine below_alloc ?_ _ | refine Below.alloc ?_ (by simp <;> omega) _ | refine Below.drew ?_ | refine below_drewN ?_ _)) (hb.mono (by exact N1.out.size)))
  have X2 := Lib.hid (Box13.below X1.out hb)
  clear x0 x1 x2 x3 x4 x5 x6 x7 x8 x9 x10 x11 x12
  obtain ⟨x0, x1, x2, x3, x4, x5, x6, x7, x8, x9, x10, x11, x12⟩ := X2.out
  clear hb
  go_wp2_with fail
  refine (HH2.out _ (k6.out.below (by repeat (first | with_reducible exact Below.refl _ _ | exact Hid.out (by with_reducible assumption) | refine Below.setCell ?_ (by simp <;> omega) _ | refine below_alloc ?_ _ | refine Below.alloc ?_ (by simp <;> omega) _ | refine Below.drew ?_ | refine below_drewN ?_ _)))).mono ?_
  rintro e w3 ⟨rfl, hb⟩
  have N3 := Lib.hid (show Below w.heap.size w w3 from Below.trans (by repeat (first | with_reducible exact Below.refl _ _ | exact Hid.out (by with_reducible assumption) | refine Below.setCell ?_ (by simp <;> omega) _ | refine below_alloc ?_ _ | refine Below.alloc ?_ (by simp <;> omega) _ | refine Below.drew ?_ | refine below_drewN ?_ _)) (hb.mono (by exact N2.out.size)))
  have X3 := Lib.hid (Box13.below X2.out hb)
  clear x0 x1 x2 x3 x4 x5 x6 x7 x8 x9 x10 x11 x12
  obtain ⟨x0, x1, x2, x3, x4, x5, x6, x7, x8, x9, x10, x11, x12⟩ := X3.out
  clear hb
  go_wp2_with fail
  refine (HH3.out _ (k7.out.below (by repeat (first | with_reducible exact Below.refl _ _ | exact Hid.out (by with_reducible assumption) | refine Below.setCell ?_ (by simp <;> omega) _ | refine below_alloc ?_ _ | refine Below.alloc ?_ (by simp <;> omega) _ | refine Below.drew ?_ | refine below_drewN ?_ _)))).mono ?_
  rintro e w4 ⟨rfl, mq, rfl⟩
  go_wp2_with fail
  go_ret
  exact ⟨rfl, (by repeat (first | with_reducible exact Below.refl _ _ | exact Hid.out (by with_reducible assumption) | refine Below.setCell ?_ (by simp <;> omega) _ | refine below_alloc ?_ _ | refine Below.alloc ?_ (by simp <;> omega) _ | refine Below.drew ?_ | refine below_drewN ?_ _))⟩
end Go.Proofs.Yteagfbedbbnomaa
