/- Contracts of the small functions on bits of floats. -/
import Derived.Test.YtikgnpajjbjkcaaChecked
import Derived.Test.YtikgnpajjbjkcaaPlainA
set_option linter.unusedVariables false
namespace Go.Proofs.Ytikgnpajjbjkcaa
open Go.RowKit

@[go_sem] theorem ext_Float32bits (x : Nat) (w : World) : (callFunc 134 #[.float .f32 x]).run Try.prog w = .ok (.value (.int .u32 x)) w := by kernel_rfl
@[go_sem] theorem ext_Float32frombits (x : Int) (w : World) : (callFunc 141 #[.int .u32 x]).run Try.prog w = .ok (.value (.float .f32 x.toNat)) w := by kernel_rfl
@[go_sem] theorem ext_Float64bits (x : Nat) (w : World) : (callFunc 144 #[.float .f64 x]).run Try.prog w = .ok (.value (.int .u64 x)) w := by kernel_rfl
@[go_sem] theorem ext_Float64frombits (x : Int) (w : World) : (callFunc 139 #[.int .u64 x]).run Try.prog w = .ok (.value (.float .f64 x.toNat)) w := by kernel_rfl

theorem cv_some {x : Nat} (h : nanB .f32 x = false) (w : World) : (convert 36 51 (.float .f32 x)).run Try.prog w = .ok (.float .f64 (wide x)) w :=
  run_convert_float_float w _ _ _ _ _ _ (by rw [Try.underlying36]; rfl) Try.underlying51 (wide_some h).1
theorem cv_nan {x : Nat} (h : nanB .f32 x = true) (w : World) : (convert 36 51 (.float .f32 x)).run Try.prog w = .ok (.float .f64 (nanOf (.nanConv .f64 x) w)) w.drew :=
  run_conv_nan _ _ _ _ _ (by rw [Try.underlying36]; rfl) Try.underlying51 (by decide) h w

/-- What BitsOf gives. -/
def bitsV (x : Nat) : Int := if nanB .f32 x then 2143289344 else x

theorem l01Bits_any (x : Nat) (w : World) (wx : (Lit.float .f32 x).wf = true) : Calls Try.prog 132 #[.float .f32 x] w fun e w' => e = .returned (.int .i64 (bitsV x)) ∧ w = w' := by
  have hx : (x : Int) < 4294967296 := by simp [Lit.wf] at wx; omega
  have hx0 : (0 : Int) ≤ x := by omega
  have ho := ne_self .f32 x
  have HB := Lib.hid (show bitsV x = (if nanB .f32 x then (2143289344 : Int) else (x : Int)) from rfl)
  cases hn : nanB .f32 x
  · rw [hn] at ho
    have HN := Lib.hid hn
    clear hn
    go_enter Try.func132, Try.ntmps132
    go_wp2
    go_ret
    exact ⟨ret_int (by rw [HB.out, HN.out]; rfl), rfl⟩
  · rw [hn] at ho
    have HN := Lib.hid hn
    clear hn
    go_enter Try.func132, Try.ntmps132
    go_wp2
    go_ret
    exact ⟨ret_int (by rw [HB.out, HN.out]; rfl), rfl⟩
theorem IsNaN_any (y : Nat) (w : World) : Calls Try.prog 133 #[.float .f64 y] w fun e w' => e = .returned (.bool (nanB .f64 y)) ∧ w = w' := by
  have ho := ne_self .f64 y
  go_enter Try.func133, Try.ntmps133
  go_wp2
  go_ret
  exact ⟨rfl, rfl⟩
theorem BitsOf_any (x : Nat) (w : World) (wx : (Lit.float .f32 x).wf = true) : Calls Try.prog 105 #[.float .f32 x] w fun e w' => e = .returned (.int .i64 (bitsV x)) ∧ ∃ n, w' = w.drewN n := by
  have hx : (x : Int) < 4294967296 := by simp [Lit.wf] at wx; omega
  have hx0 : (0 : Int) ≤ x := by omega
  have HB := Lib.hid (show bitsV x = (if nanB .f32 x then (2143289344 : Int) else (x : Int)) from rfl)
  cases hn : nanB .f32 x
  · have hc := cv_some hn
    have h2 := (wide_some hn).2
    have HN := Lib.hid hn
    clear hn
    go_enter Try.func105, Try.ntmps105
    go_wp2_with (go_at_call 133; refine (IsNaN_any _ _).mono ?_; rintro e w' ⟨rfl, rfl⟩)
    go_ret
    exact ⟨ret_int (by rw [HB.out, HN.out]; rfl), 0, rfl⟩
  · have hc := cv_nan hn
    have h2 := fun W => nanOf_conv .f64 x W
    have HN := Lib.hid hn
    clear hn
    go_enter Try.func105, Try.ntmps105
    go_wp2_with (go_at_call 133; refine (IsNaN_any _ _).mono ?_; rintro e w' ⟨rfl, rfl⟩)
    go_ret
    exact ⟨ret_int (by rw [HB.out, HN.out]; rfl), 1, rfl⟩
/-- The same number? -/
def sameV (a b : Nat) : Bool := bitsV a == bitsV b
theorem l01Same_any (a b : Nat) (w : World) (wa : (Lit.float .f32 a).wf = true) (wb : (Lit.float .f32 b).wf = true) : Calls Try.prog 104 #[.float .f32 a, .float .f32 b] w fun e w' => e = .returned (.bool (sameV a b)) ∧ w = w' := by
  go_enter Try.func104, Try.ntmps104
  go_wp2_with fail
  refine (l01Bits_any a _ wa).mono ?_
  rintro e w' ⟨rfl, rfl⟩
  go_wp2_with fail
  refine (l01Bits_any b _ wb).mono ?_
  rintro e w' ⟨rfl, rfl⟩
  go_wp2_with fail
  go_ret
  exact ⟨rfl, rfl⟩


end Go.Proofs.Ytikgnpajjbjkcaa
