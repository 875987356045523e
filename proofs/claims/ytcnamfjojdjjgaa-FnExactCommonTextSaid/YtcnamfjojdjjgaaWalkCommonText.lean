/- The law on CommonText walked. -/
import Derived.Test.YtcnamfjojdjjgaaComI
set_option linter.unusedVariables false
namespace Go.Proofs.Ytcnamfjojdjjgaa
open Go.RowKit
theorem fnExactCommonText.walk (a0 : ByteArray) (a1 : ByteArray) (w : World) (w0 : a0.size ≤ maxLen) (w1 : a1.size ≤ maxLen) :
    Calls Try.prog 10 #[.string a0, .string a1] w fun e w' => e = .returned (.bool true) ∧ Below w.heap.size w w' := by
  unfold maxLen at w0
  unfold maxLen at w1
  by_cases hl0 : 1048576 < a0.size
  · have hm : (1048576 : Int) < (a0.size : Int) := by omega
    go_enter Try.func10, Try.ntmps10
    go_wp2_with fail
    go_ret
    exact ⟨rfl, Below.refl _ _⟩
  · have hm0 : ¬ (1048576 : Int) < (a0.size : Int) := by omega
    by_cases hl1 : 1048576 < a1.size
    · have hm : (1048576 : Int) < (a1.size : Int) := by omega
      go_enter Try.func10, Try.ntmps10
      go_wp2_with fail
      go_ret
      exact ⟨rfl, Below.refl _ _⟩
    · have hm1 : ¬ (1048576 : Int) < (a1.size : Int) := by omega
      have HS := Lib.hid (fun W => specCommonText_law a0 a1 W (by omega) (by omega))
      have HI := Lib.hid (fun W => implCommonText_law a0 a1 W (by omega) (by omega))
      generalize vCommonText0 a0 a1 = r0 at *
      generalize vCommonText1 a0 a1 = r1 at *
      go_enter Try.func10, Try.ntmps10
      go_wp2_with fail
      refine (HS.out _).mono ?_
      rintro e w1 ⟨rfl, hb1⟩
      have B1 := Lib.hid hb1
      clear hb1
      go_wp2_with fail
      refine (HI.out _).mono ?_
      rintro e w2 ⟨rfl, hb2⟩
      have B2 := Lib.hid (B1.out.trans (hb2.mono B1.out.size))
      clear hb2
      go_wp2_with fail
      go_ret
      exact ⟨rfl, B2.out⟩
end Go.Proofs.Ytcnamfjojdjjgaa
