/- Models: whether they are valid, on both sides: chances, rows, sums. -/
import Derived.Test.YtikgnpajjbjkcaaShare
import Derived.Test.YtikgnpajjbjkcaaIn
import Derived.Test.YtikgnpajjbjkcaaBoxP
import Derived.Test.YtikgnpajjbjkcaaBits
import Derived.Test.YtikgnpajjbjkcaaOwn
set_option linter.unusedVariables false
namespace Go.Proofs.Ytikgnpajjbjkcaa
open Go.RowKit

theorem l02Share_any (x : Nat) (w : World) : Calls Try.prog 67 #[.float .f32 x] w fun e w' => e = .returned (.bool (shareB x)) ∧ w = w' := by
  cases h1 : geZ x
  · have HR := Lib.hid (show shareB x = false by unfold shareB; rw [h1]; rfl)
    have k1 : (FloatKind.f32.format.order x 0 == some .gt || FloatKind.f32.format.order x 0 == some .eq) = false := h1
    clear h1
    go_enter Try.func67, Try.ntmps67
    go_wp2_with fail
    go_ret
    exact ⟨ret_bool HR.out.symm, rfl⟩
  · have k1 : (FloatKind.f32.format.order x 0 == some .gt || FloatKind.f32.format.order x 0 == some .eq) = true := h1
    cases h2 : leO x
    · have HR := Lib.hid (show shareB x = false by unfold shareB; rw [h1, h2]; rfl)
      have k2 : (FloatKind.f32.format.order x 1065353216 == some .lt || FloatKind.f32.format.order x 1065353216 == some .eq) = false := h2
      clear h1 h2
      go_enter Try.func67, Try.ntmps67
      go_wp2_with fail
      go_ret
      exact ⟨ret_bool HR.out.symm, rfl⟩
    · have HR := Lib.hid (show shareB x = true by unfold shareB; rw [h1, h2]; rfl)
      have k2 : (FloatKind.f32.format.order x 1065353216 == some .lt || FloatKind.f32.format.order x 1065353216 == some .eq) = true := h2
      clear h1 h2
      go_enter Try.func67, Try.ntmps67
      go_wp2_with fail
      go_ret
      exact ⟨ret_bool HR.out.symm, rfl⟩
theorem isShare_any (x : Nat) (w : World) : Calls Try.prog 68 #[.float .f32 x] w fun e w' => e = .returned (.bool (shareB x)) ∧ w = w' := by
  cases h1 : geZ x
  · have HR := Lib.hid (show shareB x = false by unfold shareB; rw [h1]; rfl)
    have k1 : (FloatKind.f32.format.order x 0 == some .gt || FloatKind.f32.format.order x 0 == some .eq) = false := h1
    clear h1
    go_enter Try.func68, Try.ntmps68
    go_wp2_with fail
    go_ret
    exact ⟨ret_bool HR.out.symm, rfl⟩
  · have k1 : (FloatKind.f32.format.order x 0 == some .gt || FloatKind.f32.format.order x 0 == some .eq) = true := h1
    cases h2 : leO x
    · have HR := Lib.hid (show shareB x = false by unfold shareB; rw [h1, h2]; rfl)
      have k2 : (FloatKind.f32.format.order x 1065353216 == some .lt || FloatKind.f32.format.order x 1065353216 == some .eq) = false := h2
      clear h1 h2
      go_enter Try.func68, Try.ntmps68
      go_wp2_with fail
      go_ret
      exact ⟨ret_bool HR.out.symm, rfl⟩
    · have HR := Lib.hid (show shareB x = true by unfold shareB; rw [h1, h2]; rfl)
      have k2 : (FloatKind.f32.format.order x 1065353216 == some .lt || FloatKind.f32.format.order x 1065353216 == some .eq) = true := h2
      clear h1 h2
      go_enter Try.func68, Try.ntmps68
      go_wp2_with fail
      go_ret
      exact ⟨ret_bool HR.out.symm, rfl⟩
theorem l02Share_is {x : Nat} {r : Bool} (h : shareB x = r) (w : World) : Calls Try.prog 67 #[.float .f32 x] w fun e w' => e = .returned (.bool r) ∧ w = w' := by
  rw [← h]; exact l02Share_any x w
theorem isShare_is {x : Nat} {r : Bool} (h : shareB x = r) (w : World) : Calls Try.prog 68 #[.float .f32 x] w fun e w' => e = .returned (.bool r) ∧ w = w' := by
  rw [← h]; exact isShare_any x w

/-- All of the first n numbers are chances. -/
def sharesB (f : Nat → Nat) (n : Nat) : Bool := (List.range n).all fun i => shareB (f i)
theorem sharesB_iff {f : Nat → Nat} {n : Nat} : sharesB f n = true ↔ ∀ i, i < n → shareB (f i) = true := by
  unfold sharesB
  rw [List.all_eq_true]
  exact ⟨fun h i hi => h i (List.mem_range.2 hi), fun h i hi => h i (List.mem_range.1 hi)⟩
theorem sharesB_no {f : Nat → Nat} {n k : Nat} (hk : k < n) (h : shareB (f k) = false) : sharesB f n = false := by
  cases e : sharesB f n
  · rfl
  · have := sharesB_iff.1 e k hk
    rw [h] at this
    cases this
/-- A row of chances with a sum near 1. -/
def rowB (f : Nat → Nat) (n : Nat) : Bool := sharesB f n && nearB (sumF f n)
theorem rowB_iff {f : Nat → Nat} {n : Nat} : rowB f n = true ↔ (∀ i, i < n → shareB (f i) = true) ∧ nearB (sumF f n) = true := by
  unfold rowB; rw [Bool.and_eq_true, sharesB_iff]

set_option maxHeartbeats 1000000 in
theorem l03Row_any (A : Option Addr) (n c : Nat) (f : Nat → Nat) (w : World) (hn : n ≤ 100) (hA : Cells w A n (fun i => .float .f32 (f i))) :
    Calls Try.prog 101 #[.slice A n c] w fun e w' => e = .returned (.bool (rowB f n)) ∧ w = w' := by
  have HA := Lib.hid hA
  have HNO := Lib.hid (fun k (hk : k < n) h => show rowB f n = false by unfold rowB; rw [sharesB_no hk h]; rfl)
  have HYES := Lib.hid (fun (h : ∀ i, i < n → shareB (f i) = true) => show rowB f n = nearB (sumF f n) by unfold rowB; rw [sharesB_iff.2 h]; rfl)
  clear hA
  generalize rowB f n = r at *
  go_enter Try.func101, Try.ntmps101
  go_wp2_with fail
  go_loop [3, 4, 7] (fun t _ i => ∃ k : Nat, k ≤ n ∧ i = .int .i64 k ∧ t = .float .f32 (sumF f k) ∧ Hid (∀ j, j < k → shareB (f j) = true)) (fun _ _ i => n - (intOf i).toNat)
  case atStart => exact ⟨0, Nat.zero_le _, rfl, rfl, fun j hj => by omega⟩
  case round =>
    obtain ⟨k, hk, rfl, rfl, HS⟩ := hrel
    by_cases hlt : k < n
    · have d1 : (k : Int) < n := by omega
      obtain ⟨x, rfl, hx0⟩ := HA.out k hlt
      have hx : w.cell? (x.add k) = some (.float .f32 (f k)) := hx0
      clear hx0
      cases hs : shareB (f k)
      · have HR := Lib.hid (HNO.out k hlt hs)
        have HC := Lib.hid (l02Share_is hs)
        clear hs
        generalize f k = u at *
        go_wp2_with fail
        refine (HC.out _).mono ?_
        rintro e w' ⟨rfl, rfl⟩
        go_wp2_with fail
        go_ret
        exact ⟨ret_bool HR.out.symm, rfl⟩
      · have HC := Lib.hid (l02Share_is hs)
        have HN := Lib.hid (show ∀ j, j < k + 1 → shareB (f j) = true from fun j hj => by
          rcases Nat.lt_or_ge j k with h | h
          · exact HS.out j h
          · have : j = k := by omega
            subst this
            exact hs)
        have hadd : floatBits .add .f32 (sumF f k) (f k) = some (sumF f (k + 1)) := sumF_ok (n := k + 1) (E := 149) (fun i hi => (share_S (HN.out i hi)).1) (by omega) (Nat.lt_succ_self k)
        have hr := fun W => run_float_arith (P := Try.prog) W .add 36 .f32 _ _ _ hadd
        clear hs hadd
        generalize hs1 : sumF f (k + 1) = s1 at *
        have HS1 := Lib.hid hs1
        clear hs1
        generalize sumF f k = s0 at *
        generalize f k = u at *
        go_wp2_with fail
        refine (HC.out _).mono ?_
        rintro e w' ⟨rfl, rfl⟩
        go_wp2_with fail
        go_round
        case rel => exact ⟨k + 1, by omega, by go_num, by rw [HS1.out], HN.out⟩
        case measure => simp [intOf]; omega
    · have d1 : ¬ (k : Int) < n := by omega
      have e : k = n := by omega
      subst e
      have HR := Lib.hid (HYES.out HS.out)
      have hS := sumF_S (n := k) (E := 149) (fun i hi => (share_S (HS.out i hi)).1) (by omega) k (Nat.le_refl _)
      have hsub := (sub32_ok hS S_one (by omega)).1
      have hr := fun W => run_float_arith (P := Try.prog) W .sub 36 .f32 _ _ _ hsub
      have HNB := Lib.hid (show nearB (sumF f k) = ((Ieee.single.order (sub32 (sumF f k) one32) c001 == some .lt || Ieee.single.order (sub32 (sumF f k) one32) c001 == some .eq) && (Ieee.single.order (sub32 (sumF f k) one32) n001 == some .gt || Ieee.single.order (sub32 (sumF f k) one32) n001 == some .eq)) from rfl)
      unfold one32 at hr
      clear hS hsub
      generalize nearB (sumF f k) = nb at *
      rw [show one32 = 1065353216 from rfl] at HNB
      generalize sub32 (sumF f k) 1065353216 = d at *
      generalize sumF f k = s0 at *
      have HNB2 := Lib.hid HNB.out
      cases h1 : (FloatKind.f32.format.order d 981668463 == some .lt || FloatKind.f32.format.order d 981668463 == some .eq)
      · have HF := Lib.hid (show nb = false by rw [HNB2.out]; show (_ && _) = false; rw [show (Ieee.single.order d c001 == some .lt || Ieee.single.order d c001 == some .eq) = false from h1]; rfl)
        go_wp2_with fail
        go_ret
        exact ⟨ret_bool (by rw [HR.out, HF.out]), rfl⟩
      · cases h2 : (FloatKind.f32.format.order d 3129152111 == some .gt || FloatKind.f32.format.order d 3129152111 == some .eq)
        · have HF := Lib.hid (show nb = false by rw [HNB2.out]; show (_ && _) = false; rw [show (Ieee.single.order d n001 == some .gt || Ieee.single.order d n001 == some .eq) = false from h2, Bool.and_false])
          go_wp2_with fail
          go_ret
          exact ⟨ret_bool (by rw [HR.out, HF.out]), rfl⟩
        · have HF := Lib.hid (show nb = true by rw [HNB2.out]; show (_ && _) = true; rw [show (Ieee.single.order d c001 == some .lt || Ieee.single.order d c001 == some .eq) = true from h1, show (Ieee.single.order d n001 == some .gt || Ieee.single.order d n001 == some .eq) = true from h2]; rfl)
          go_wp2_with fail
          go_ret
          exact ⟨ret_bool (by rw [HR.out, HF.out]), rfl⟩

set_option maxRecDepth 100000 in
theorem Abs_is (y : Nat) (w : World) (wy : y < 2 ^ 64) : Calls Try.prog 130 #[.float .f64 y] w fun e w' => e = .returned (.float .f64 (y % 2 ^ 63)) ∧ w = w' := by
  have HY := Lib.hid (bits_abs wy)
  clear wy
  go_enter Try.func130, Try.ntmps130
  go_wp2
  go_ret
  exact ⟨ret_float HY.out, rfl⟩
theorem wide_lt {x : Nat} (h : nanB .f32 x = false) (hx : x < 2 ^ 32) : wide x < 2 ^ 64 := lt_of_wf64 (wide_wf h (by simpa [Lit.wf] using hx))
theorem nearest_lt (f : Ieee.Format) (neg : Bool) (mag : Nat) (place : Int) : f.nearest neg mag place < 2 * f.signWeight := by
  have h := Fl.nearest_sign f neg mag place
  have hs : 0 < f.signWeight := Nat.two_pow_pos _
  have h1 : f.nearest neg mag place / f.signWeight < 2 := by rw [h]; cases neg <;> decide
  rwa [Nat.div_lt_iff_lt_mul hs] at h1
theorem cvn_abs {d E : Nat} (hE : E ≤ 276) (hS : S E d) (w : World) : (convert 51 36 (.float .f64 (wide d % 2 ^ 63))).run Try.prog w = .ok (.float .f32 (abs32 d)) w :=
  run_convert_float_float w _ _ _ _ _ _ (by rw [Try.underlying51]; rfl) Try.underlying36 (abs32_num hE hS).1
/-- The distance of two bounded numbers. -/
theorem distance_any (a b E : Nat) (w : World) (hb : floatBits .sub .f32 a b = some (sub32 a b)) (hS : S E (sub32 a b)) (hE : E ≤ 276) (hlt : sub32 a b < 2 ^ 32) :
    Calls Try.prog 102 #[.float .f32 a, .float .f32 b] w fun e w' => e = .returned (.float .f32 (abs32 (sub32 a b))) ∧ w = w' := by
  have hr := fun W => run_float_arith (P := Try.prog) W .sub 36 .f32 _ _ _ hb
  have c1 := cv_some (S_nan hS)
  have c2 := cvn_abs hE hS
  have HA := Lib.hid (fun W => Abs_is (wide (sub32 a b)) W (wide_lt (S_nan hS) hlt))
  clear hb hS hlt
  generalize wide (sub32 a b) = y at *
  generalize abs32 (sub32 a b) = z at *
  generalize sub32 a b = d at *
  go_enter Try.func102, Try.ntmps102
  go_wp2_with fail
  refine (HA.out _).mono ?_
  rintro e w' ⟨rfl, rfl⟩
  go_wp2_with fail
  go_ret
  exact ⟨rfl, rfl⟩

theorem rowOf_any (x : Addr) (n c r z : Nat) (w : World) (h : r * z + z ≤ c) (hz : 0 < z) (hc : r * z + z ≤ 1048576) :
    Calls Try.prog 69 #[.slice (some x) n c, .int .i64 r, .int .i64 z] w fun e w' => e = .returned (.slice (some (x.add (r * z))) z z) ∧ w = w' := by
  have e1 : ((r : Int) * z) = ((r * z : Nat) : Int) := (Int.natCast_mul r z).symm
  have e2 : ((r : Int) + 1) * z = ((r * z + z : Nat) : Int) := by rw [Int.add_mul, e1, Int.one_mul]; omega
  have hr : r ≤ 1048576 := Nat.le_trans (Nat.le_mul_of_pos_right r hz) (by omega)
  generalize hp : r * z = p at *
  have w1 : IntKind.i64.wrap ((r : Int) * z) = (p : Int) := by rw [e1, IntKind.wrap_i64]; omega
  have w2 : IntKind.i64.wrap (((r : Int) + 1) * z) = ((p + z : Nat) : Int) := by rw [e2, IntKind.wrap_i64]; omega
  have w3 : IntKind.i64.wrap ((r : Int) + 1) = (r : Int) + 1 := by rw [IntKind.wrap_i64]; omega
  clear e1 e2
  go_enter Try.func69, Try.ntmps69
  go_wp2_with fail
  go_ret
  exact ⟨by show Ending.returned (.slice (some (x.add p)) (p + z - p) (p + z - p)) = _; rw [Nat.add_sub_cancel_left], rfl⟩

set_option maxHeartbeats 1000000 in
/-- A sum of what a function value tells. -/
theorem sumOverRow_any (p : Nat) (n : Nat) (t : Nat → Nat) (w : World) (hn : n ≤ 1048576) (hadd : ∀ k, k < n → floatBits .add .f32 (sumF t k) (t k) = some (sumF t (k + 1)))
    (HT : ∀ k, k < n → ∀ W, Below w.heap.size w W → Calls Try.prog 131 #[.int .i64 k, .pointer (some ⟨p, 0, none⟩)] W fun e w' => e = .returned (.float .f32 (t k)) ∧ Below W.heap.size W w') :
    Calls Try.prog 111 #[.int .i64 n, .func (.func 131) #[] #[.pointer (some ⟨p, 0, none⟩)]] w fun e w' => e = .returned (.float .f32 (sumF t n)) ∧ Below w.heap.size w w' := by
  have HA := Lib.hid hadd
  have HC := Lib.hid HT
  clear hadd HT
  go_enter Try.func111, Try.ntmps111
  go_wp2_with fail
  go_loopw [5, 6, 8] (fun s _ i wr => ∃ k : Nat, k ≤ n ∧ i = .int .i64 k ∧ s = .float .f32 (sumF t k) ∧ Hid (Below w.heap.size w wr)) (fun _ _ i _ => n - (intOf i).toNat)
  case atStart => exact ⟨0, Nat.zero_le _, rfl, rfl, Below.refl _ _⟩
  case round =>
    obtain ⟨k, hk, rfl, rfl, HB⟩ := hrel
    by_cases hlt : k < n
    · have d1 : (k : Int) < n := by omega
      have HK := Lib.hid (HC.out k hlt wr HB.out)
      have hr := fun W => run_float_arith (P := Try.prog) W .add 36 .f32 _ _ _ (HA.out k hlt)
      generalize hs1 : sumF t (k + 1) = s1 at *
      have HS1 := Lib.hid hs1
      clear hs1
      generalize sumF t k = s0 at *
      generalize t k = u at *
      go_wp2_with fail
      refine HK.out.mono ?_
      rintro e w2 ⟨rfl, hb⟩
      have N2 := Lib.hid (HB.out.trans (hb.mono HB.out.size))
      clear hb
      go_wp2_with fail
      exact ⟨⟨k + 1, by omega, by simp, by rw [HS1.out], N2.out⟩, by simp [intOf]; omega⟩
    · have d1 : ¬ (k : Int) < n := by omega
      have e : k = n := by omega
      subst e
      go_wp2_with fail
      go_ret
      exact ⟨rfl, HB.out⟩
theorem sumRow1_any (p : Nat) (x : Addr) (n c k : Nat) (u : Nat) (w : World) (hk : k < n) (hn : n ≤ 1048576) (h : w.cell? ⟨p, 0, none⟩ = some (.slice (some x) n c)) (hx : w.cell? (x.add k) = some (.float .f32 u)) :
    Calls Try.prog 131 #[.int .i64 k, .pointer (some ⟨p, 0, none⟩)] w fun e w' => e = .returned (.float .f32 u) ∧ Below w.heap.size w w' := by
  have d1 : (k : Int) < n := by omega
  go_enter Try.func131, Try.ntmps131
  go_wp2_with fail
  go_ret
  exact ⟨rfl, Below.refl _ _⟩
theorem sumOfRow_any (A : Option Addr) (n c : Nat) (f : Nat → Nat) (w : World) (hn : n ≤ 1048576) (hA : Cells w A n (fun i => .float .f32 (f i))) (hadd : ∀ k, k < n → floatBits .add .f32 (sumF f k) (f k) = some (sumF f (k + 1))) :
    Calls Try.prog 103 #[.slice A n c] w fun e w' => e = .returned (.float .f32 (sumF f n)) ∧ Below w.heap.size w w' := by
  have HA := Lib.hid hA
  have HS := Lib.hid (fun p W HT => sumOverRow_any p n f W hn hadd HT)
  clear hA hadd
  have hmf : ∀ (fn : Fn) (first cap : Array Value) (w : World), (Instr.makeFunc fn first cap).run Try.prog w = .ok (.func fn first cap) w := fun _ _ _ _ => rfl
  go_enter Try.func103, Try.ntmps103
  go_wp2_with fail
  refine (HS.out _ _ (fun k hk W hb => ?_)).mono ?_
  · obtain ⟨x, rfl, hx⟩ := HA.out k hk
    have hx2 : W.cell? (x.add k) = some (.float .f32 (f k)) := by
      rw [(Below.trans (Below.alloc (Below.refl w.heap.size w) (Nat.le_refl _) _) (hb.mono (by simp))).cell (World.block_lt_of_cell? _ _ hx)]; exact hx
    exact sumRow1_any w.heap.size x n c k (f k) W hk hn (by rw [hb.cell (by simp)]; simp [go_sem]) hx2
  · rintro e w2 ⟨rfl, hb⟩
    go_wp2_with fail
    go_ret
    exact ⟨rfl, Below.trans (Below.alloc (Below.refl w.heap.size w) (Nat.le_refl _) _) (hb.mono (by simp))⟩
end Go.Proofs.Ytikgnpajjbjkcaa
