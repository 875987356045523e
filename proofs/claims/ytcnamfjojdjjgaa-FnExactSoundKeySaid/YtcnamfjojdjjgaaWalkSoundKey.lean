/- The law on SoundKey walked. -/
import Derived.Test.YtcnamfjojdjjgaaSndI
set_option linter.unusedVariables false
namespace Go.Proofs.Ytcnamfjojdjjgaa
open Go.RowKit
theorem fnExactSoundKey.walk (a0 : ByteArray) (w : World) (w0 : a0.size ≤ maxLen) :
    Calls Try.prog 12 #[.string a0] w fun e w' => e = .returned (.bool true) ∧ Below w.heap.size w w' := by
  unfold maxLen at w0
  by_cases hl0 : 1048576 < a0.size
  · have hm : (1048576 : Int) < (a0.size : Int) := by omega
    go_enter Try.func12, Try.ntmps12
    go_wp2_with fail
    go_ret
    exact ⟨rfl, Below.refl _ _⟩
  · have hm0 : ¬ (1048576 : Int) < (a0.size : Int) := by omega
    have HS := Lib.hid (fun W => specSoundKey_law a0 W (by omega))
    have HI := Lib.hid (fun W => implSoundKey_law a0 W (by omega))
    generalize vSoundKey0 a0 = r0 at *
    generalize vSoundKey1 a0 = r1 at *
    go_enter Try.func12, Try.ntmps12
    go_wp2_with fail
    refine (HS.out _).mono ?_
    rintro e w1 ⟨rfl, hb1⟩
    have B1 := Lib.hid hb1
    clear hb1
    go_wp2_with fail
    refine (HI.out _).mono ?_
    rintro e w2 ⟨rfl, hb2⟩
    have B2 := Lib.hid (B1.out.trans (hb2.mono B1.out.size))
    clear hb2
    go_wp2_with fail
    go_ret
    exact ⟨rfl, B2.out⟩
end Go.Proofs.Ytcnamfjojdjjgaa
