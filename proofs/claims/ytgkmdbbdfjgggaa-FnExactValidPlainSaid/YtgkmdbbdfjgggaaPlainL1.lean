/- The law on plain machines' validity walked. -/
import Derived.Test.YtgkmdbbdfjgggaaPlainV
import Derived.Test.YtgkmdbbdfjgggaaOpenP
import Derived.Test.YtgkmdbbdfjgggaaBoxP
import Derived.Deep.CutRange
set_option linter.unusedVariables false
namespace Go.Proofs.Ytgkmdbbdfjgggaa
open Go.RowKit
set_option maxHeartbeats 1000000 in
theorem fnExactValidPlain.walk (S L : Int) (A : Option Addr) (n c : Nat) (B : Option Addr) (m e : Nat) (f : Nat → Int) (g : Nat → Bool) (w : World) (h : PlainIn w S L A n B m f g) :
    Calls Try.prog 3 #[.agg #[.int .i64 S, .int .i64 L, .slice A n c, .slice B m e]] w fun e w' => e = .returned (.bool true) ∧ Below w.heap.size w w' := by
  have hA := Lib.hid h.ca
  have hB := Lib.hid h.cb
  have na := h.na
  have nb := h.nb
  clear h
  by_cases hbig : (n : Int) + m ≤ 1048576
  · have HZ := Lib.hid (fun W => szPlain_yes S L A B n c m e 1048576 W (by omega) hbig)
    have HT := Lib.hid (fun W h1 h2 => toPlain_any S L A B n c m e f g W (by omega) (by omega) h1 h2)
    have HS := Lib.hid (fun A B c d W h1 => specValidPlain_any S L A B n c m d f W (by omega) (by omega) h1)
    have HI := Lib.hid (fun A B c d W h1 => implValidPlain_any S L A B n c m d f W (by omega) (by omega) h1)
    have HE := Lib.hid (fun A B A2 B2 c d c2 d2 W h1 h2 h3 h4 => eqPlain_any S L A B A2 B2 n c m d c2 d2 f g W (by omega) (by omega) h1 h2 h3 h4)
    generalize validP S L n m f = r at *
    go_enter Try.func3, Try.ntmps3
    go_wp2_with fail
    refine (HZ.out _).mono ?_
    rintro e w1 ⟨rfl, hb1⟩
    have X1 := Lib.hid (Box4.below (Box4.new w 25 (.int .i64 S) (.int .i64 L) (.slice A n c) (.slice B m e)) hb1)
    have B1 := Lib.hid (show Below w.heap.size w w1 from Below.trans (by repeat (first | exact Below.refl _ _ | exact Hid.out (by assumption) | refine Below.setCell ?_ (by simp <;> omega) _ | refine Below.alloc ?_ (by simp <;> omega) _ | refine Below.drew ?_ | refine below_drewN ?_ _)) (hb1.mono (by simp)))
    obtain ⟨c0, c1, c2, c3⟩ := X1.out
    clear hb1
    go_wp2_with fail
    refine (HT.out _ (hA.out.below B1.out) (hB.out.below B1.out)).mono ?_
    rintro e w2 ⟨g1, g2, rfl, -, -, -, ho1, ho2, hb2⟩
    have B2 := Lib.hid (B1.out.trans (hb2.mono B1.out.size))
    have X2 := Lib.hid (X1.out.below hb2)
    have O1 := Lib.hid ho1.cells
    clear ho1 ho2 hb2 c0 c1 c2 c3
    obtain ⟨c0, c1, c2, c3⟩ := X2.out
    go_wp2_with fail
    refine (HS.out _ _ _ _ _ O1.out).mono ?_
    rintro e w3 ⟨rfl, hb3⟩
    have B3 := Lib.hid (B2.out.trans (hb3.mono B2.out.size))
    have X3 := Lib.hid (X2.out.below hb3)
    clear hb3 c0 c1 c2 c3
    obtain ⟨c0, c1, c2, c3⟩ := X3.out
    go_wp2_with fail
    refine (HT.out _ (hA.out.below B3.out) (hB.out.below B3.out)).mono ?_
    rintro e w4 ⟨g3, g4, rfl, -, -, -, ho1, ho2, hb4⟩
    have B4 := Lib.hid (B3.out.trans (hb4.mono B3.out.size))
    have X4 := Lib.hid (X3.out.below hb4)
    have P4 := Lib.hid ho1
    have Q4 := Lib.hid ho2
    clear ho1 ho2 hb4 c0 c1 c2 c3
    go_wp2_with fail
    refine (HI.out _ _ _ _ _ (P4.out.cells.below ((Below.refl _ _).alloc (Nat.le_refl _) _))).mono ?_
    rintro e w5 ⟨rfl, hb5⟩
    have N5 := Lib.hid (show Below w4.heap.size w4 w5 from Below.trans ((Below.refl _ _).alloc (Nat.le_refl _) _) (hb5.mono (by simp)))
    have B5 := Lib.hid (B4.out.trans (N5.out.mono B4.out.size))
    have X5 := Lib.hid (X4.out.below N5.out)
    have Y5 := Lib.hid (Box4.below (Box4.new w4 28 (.int .i64 S) (.int .i64 L) (.slice (some ⟨g3, 0, none⟩) n n) (.slice (some ⟨g4, 0, none⟩) m m)) hb5)
    have P5 := Lib.hid (P4.out.cells.below N5.out)
    have Q5 := Lib.hid (Q4.out.cells.below N5.out)
    clear hb5 O1
    obtain ⟨c0, c1, c2, c3⟩ := X5.out
    obtain ⟨y0, y1, y2, y3⟩ := Y5.out
    have HT5 := Lib.hid (fun nq => HT.out (w5.drewN nq) (hA.out.below (below_drewN B5.out _)) (hB.out.below (below_drewN B5.out _)))
    go_upto_region 10 with fail
    go_cut [26] from 22 to 26 (fun s26 wx => s26 = .bool false ∧ Below w.heap.size w wx)
    case first =>
      go_region_with (first
        | (go_at_call 15
           refine (HT.out _ (hA.out.below (by repeat (first | exact Below.refl _ _ | exact Hid.out (by assumption) | refine Below.setCell ?_ (by simp <;> omega) _ | refine Below.alloc ?_ (by simp <;> omega) _ | refine Below.drew ?_ | refine below_drewN ?_ _))) (hB.out.below (by repeat (first | exact Below.refl _ _ | exact Hid.out (by assumption) | refine Below.setCell ?_ (by simp <;> omega) _ | refine Below.alloc ?_ (by simp <;> omega) _ | refine Below.drew ?_ | refine below_drewN ?_ _)))).mono ?_
           rintro e w6 ⟨g5, g6, rfl, -, -, -, ho1, ho2, hb6⟩
           have N6 := Lib.hid (show Below w5.heap.size w5 w6 from Below.trans (by repeat (first | exact Below.refl _ _ | exact Hid.out (by assumption) | refine Below.setCell ?_ (by simp <;> omega) _ | refine Below.alloc ?_ (by simp <;> omega) _ | refine Below.drew ?_ | refine below_drewN ?_ _)) (hb6.mono (by simp)))
           have R6 := Lib.hid ho1.cells
           have S6 := Lib.hid ho2.cells
           obtain ⟨z0, z1, z2, z3⟩ := Y5.out.below N6.out
           clear ho1 ho2 hb6)
        | (go_at_call 17
           refine (HE.out _ _ _ _ _ _ _ _ _ (P5.out.below (by repeat (first | exact Below.refl _ _ | exact Hid.out (by assumption) | refine Below.setCell ?_ (by simp <;> omega) _ | refine Below.alloc ?_ (by simp <;> omega) _ | refine Below.drew ?_ | refine below_drewN ?_ _))) (Q5.out.below (by repeat (first | exact Below.refl _ _ | exact Hid.out (by assumption) | refine Below.setCell ?_ (by simp <;> omega) _ | refine Below.alloc ?_ (by simp <;> omega) _ | refine Below.drew ?_ | refine below_drewN ?_ _))) (R6.out.below (by repeat (first | exact Below.refl _ _ | exact Hid.out (by assumption) | refine Below.setCell ?_ (by simp <;> omega) _ | refine Below.alloc ?_ (by simp <;> omega) _ | refine Below.drew ?_ | refine below_drewN ?_ _))) (S6.out.below (by repeat (first | exact Below.refl _ _ | exact Hid.out (by assumption) | refine Below.setCell ?_ (by simp <;> omega) _ | refine Below.alloc ?_ (by simp <;> omega) _ | refine Below.drew ?_ | refine below_drewN ?_ _)))).mono ?_
           rintro e w7 ⟨rfl, hb7⟩
           have B7 := Lib.hid (show Below w.heap.size w w7 from B5.out.trans (Below.mono (show Below w5.heap.size w5 w7 from Below.trans (by repeat (first | exact Below.refl _ _ | exact Hid.out (by assumption) | refine Below.setCell ?_ (by simp <;> omega) _ | refine Below.alloc ?_ (by simp <;> omega) _ | refine Below.drew ?_ | refine below_drewN ?_ _)) (hb7.mono (by first | exact N6.out.size | simp [N6.out.size]))) B5.out.size))
           clear hb7))
      all_goals (go_wp2_with fail; go_meet; exact ⟨rfl, B7.out⟩)
    case rest =>
      obtain ⟨rfl, hb⟩ := hcut
      have HB6 := Lib.hid hb
      clear hb
      go_wp2_with fail
      go_ret
      exact ⟨rfl, HB6.out⟩
  · have HZ := Lib.hid (fun W => szPlain_no S L A B n c m e 1048576 W (by omega) (by omega) na nb hbig)
    go_enter Try.func3, Try.ntmps3
    go_wp2_with fail
    refine (HZ.out _).mono ?_
    rintro e w1 ⟨rfl, hb1⟩
    have HB1 := Lib.hid (show Below w.heap.size w w1 from Below.trans (by repeat (first | exact Below.refl _ _ | exact Hid.out (by assumption) | refine Below.setCell ?_ (by simp <;> omega) _ | refine Below.alloc ?_ (by simp <;> omega) _ | refine Below.drew ?_ | refine below_drewN ?_ _)) (hb1.mono (by simp)))
    clear hb1
    go_wp2_with fail
    go_ret
    exact ⟨rfl, HB1.out⟩
end Go.Proofs.Ytgkmdbbdfjgggaa
