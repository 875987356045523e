/- The chance of a word with states: the program's, whole. -/
import Derived.Test.YtikgnpajjbjkcaaHidI
import Derived.Deep.RegionHeld3
set_option linter.unusedVariables false
namespace Go.Proofs.Ytikgnpajjbjkcaa
open Go.RowKit
theorem Below.step {B : Nat} {w W u : World} (h : Below B w W) (hB : B ≤ w.heap.size) (k : Below W.heap.size W u) : Below B w u := h.trans (k.mono (Nat.le_trans hB h.size))
theorem product2_any (x y z b i : Nat) (w : World) (h0 : w.cell? ⟨b, 0, none⟩ = some (.float .f32 y)) (h1 : w.cell? ⟨b, 1, none⟩ = some (.float .f32 z)) (m1 : floatBits .mul .f32 x y = some (mul32 x y)) (m2 : floatBits .mul .f32 (mul32 x y) z = some (mul32 (mul32 x y) z)) :
    Calls Try.prog 93 #[.float .f32 x, .slice (some ⟨b, 0, none⟩) 2 i] w fun e w' => e = .returned (.float .f32 (mul32 (mul32 x y) z)) ∧ w = w' := by
  refine product_any x (some ⟨b, 0, none⟩) 2 i (fun j => if j = 0 then y else z) w (by omega) (fun k hk => ⟨_, rfl, ?_⟩) (fun k hk => ?_)
  · rw [add0]
    have : k = 0 ∨ k = 1 := by omega
    rcases this with rfl | rfl
    · exact h0
    · exact h1
  · have : k = 0 ∨ k = 1 := by omega
    rcases this with rfl | rfl
    · exact m1
    · exact m2

set_option maxRecDepth 20000 in
set_option maxHeartbeats 8000000 in
theorem implHiddenChance_any
  (s l : Int) (A B C : Option Addr) (n c m d o q : Nat) (f g h : Nat → Nat)
  (D : Option Addr) (p e : Nat) (v : Nat → Int) (E : Option Addr) (r i : Nat) (u : Nat → Int) (w : World)
  (hn : n ≤ 1048576) (hm : m ≤ 1048576) (ho : o ≤ 1048576) (hc : n ≤ c ∧ c ≤ 1048576) (hd : m ≤ d ∧ d ≤ 1048576) (hq : o ≤ q ∧ q ≤ 1048576) (hA : Cells w A n (fun i => .float .f32 (f i))) (hB : Cells w B m (fun i => .float .f32 (g i))) (hC : Cells w C o (fun i => .float .f32 (h i)))
  (hp : p ≤ 1048576) (hD : Cells w D p (fun i => .int .i64 (v i))) (hr : r ≤ 1048576) (hE : Cells w E r (fun i => .int .i64 (u i)))
  : Calls Try.prog 51 #[.agg #[.int .i64 s, .int .i64 l, .slice A n c, .slice B m d, .slice C o q], .slice D p e, .slice E r i] w fun e w' => e = .returned (.tuple #[.float .f32 (hidV s l n m o f g h v p u r), .bool (hidOk s l n m o f g h v p u r)]) ∧ Below w.heap.size w w' := by
  have HWd := Lib.hid (fun W k1 k2 k3 k4 => canShow_any s l A B C n c m d o q f g h D p e v W hn hm ho hc hd hq k1 k2 k3 hp k4)
  have HA := Lib.hid hA
  have HB := Lib.hid hB
  have HC := Lib.hid hC
  have HD := Lib.hid hD
  have HE := Lib.hid hE
  have HO := Lib.hid (show hidOk s l n m o f g h v p u r = ((validMod s l n m o f g h && wordB v p (l - 1)) && statesB u r p s) from rfl)
  have HV := Lib.hid (show hidOk s l n m o f g h v p u r = false → hidV s l n m o f g h v p u r = 0 from fun k => by unfold hidV; rw [k]; rfl)
  have HV2 := Lib.hid (show hidOk s l n m o f g h v p u r = true → hidV s l n m o f g h v p u r = hidF f g h s l v u p from fun k => by unfold hidV; rw [k]; rfl)
  clear hA hB hC hD hE
  cases h1 : (validMod s l n m o f g h && wordB v p (l - 1))
  · have k1 : hidOk s l n m o f g h v p u r = false := by rw [HO.out, h1]; rfl
    rw [k1, HV.out k1]
    rw [h1] at HWd
    clear k1 h1 HO HV HV2
    go_enter Try.func51, Try.ntmps51
    go_wp2_with fail
    refine (HWd.out _ (HA.out.below (by repeat (first | exact Below.refl _ _ | exact Hid.out (by assumption) | refine below_alloc ?_ _ | refine Below.setCell ?_ (by simp <;> omega) _ | refine Below.alloc ?_ (by simp <;> omega) _ | refine Below.drew ?_ | refine below_drewN ?_ _))) (HB.out.below (by repeat (first | exact Below.refl _ _ | exact Hid.out (by assumption) | refine below_alloc ?_ _ | refine Below.setCell ?_ (by simp <;> omega) _ | refine Below.alloc ?_ (by simp <;> omega) _ | refine Below.drew ?_ | refine below_drewN ?_ _))) (HC.out.below (by repeat (first | exact Below.refl _ _ | exact Hid.out (by assumption) | refine below_alloc ?_ _ | refine Below.setCell ?_ (by simp <;> omega) _ | refine Below.alloc ?_ (by simp <;> omega) _ | refine Below.drew ?_ | refine below_drewN ?_ _))) (HD.out.below (by repeat (first | exact Below.refl _ _ | exact Hid.out (by assumption) | refine below_alloc ?_ _ | refine Below.setCell ?_ (by simp <;> omega) _ | refine Below.alloc ?_ (by simp <;> omega) _ | refine Below.drew ?_ | refine below_drewN ?_ _)))).mono ?_
    rintro e w1 ⟨rfl, hb⟩
    have N1 := Lib.hid (show Below w.heap.size w w1 from Below.trans (by repeat (first | exact Below.refl _ _ | exact Hid.out (by assumption) | refine below_alloc ?_ _ | refine Below.setCell ?_ (by simp <;> omega) _ | refine Below.alloc ?_ (by simp <;> omega) _ | refine Below.drew ?_ | refine below_drewN ?_ _)) (hb.mono (by simp)))
    clear hb
    go_wp2_with fail
    refine bodyPost_ret (v := .tuple #[.float .f32 0, .bool false]) (by simp [results, Try.results51, go_sem]) rfl ⟨rfl, N1.out⟩
  · have h1' := h1
    rw [Bool.and_eq_true] at h1'
    obtain ⟨hv, hw⟩ := h1'
    obtain ⟨N, L, rfl, rfl, N1, N2, L1, L2, rfl, rfl, rfl, hf, hg, hh⟩ := validMod_nat hv
    rw [h1] at HWd
    have HSt := Lib.hid (fun W k => areHidden_any n (.int .i64 L) (.slice A n c) (.slice B (n * n) d) (.slice C (n * L) q) D p e E r i u W ⟨N1, N2⟩ hp hr k)
    cases h2 : statesB u r p n
    · have k1 : hidOk n L n (n * n) (n * L) f g h v p u r = false := by rw [HO.out, h1, h2]; rfl
      rw [k1, HV.out k1]
      rw [h2] at HSt
      clear k1 h1 h2 HO HV HV2 hv hw hf hg hh
      go_enter Try.func51, Try.ntmps51
      go_wp2_with fail
      refine (HWd.out _ (HA.out.below (by repeat (first | exact Below.refl _ _ | exact Hid.out (by assumption) | refine below_alloc ?_ _ | refine Below.setCell ?_ (by simp <;> omega) _ | refine Below.alloc ?_ (by simp <;> omega) _ | refine Below.drew ?_ | refine below_drewN ?_ _))) (HB.out.below (by repeat (first | exact Below.refl _ _ | exact Hid.out (by assumption) | refine below_alloc ?_ _ | refine Below.setCell ?_ (by simp <;> omega) _ | refine Below.alloc ?_ (by simp <;> omega) _ | refine Below.drew ?_ | refine below_drewN ?_ _))) (HC.out.below (by repeat (first | exact Below.refl _ _ | exact Hid.out (by assumption) | refine below_alloc ?_ _ | refine Below.setCell ?_ (by simp <;> omega) _ | refine Below.alloc ?_ (by simp <;> omega) _ | refine Below.drew ?_ | refine below_drewN ?_ _))) (HD.out.below (by repeat (first | exact Below.refl _ _ | exact Hid.out (by assumption) | refine below_alloc ?_ _ | refine Below.setCell ?_ (by simp <;> omega) _ | refine Below.alloc ?_ (by simp <;> omega) _ | refine Below.drew ?_ | refine below_drewN ?_ _)))).mono ?_
      rintro e w1 ⟨rfl, hb⟩
      have NN1 := Lib.hid (show Below w.heap.size w w1 from Below.trans (by repeat (first | exact Below.refl _ _ | exact Hid.out (by assumption) | refine below_alloc ?_ _ | refine Below.setCell ?_ (by simp <;> omega) _ | refine Below.alloc ?_ (by simp <;> omega) _ | refine Below.drew ?_ | refine below_drewN ?_ _)) (hb.mono (by simp)))
      have X1 := Lib.hid (Box5.below (Box5.new w 27 (.int .i64 n) (.int .i64 L) (.slice A n c) (.slice B (n * n) d) (.slice C (n * L) q)) hb)
      obtain ⟨x0, x1, x2, x3, x4⟩ := X1.out
      clear hb
      go_wp2_with fail
      refine (HSt.out _ (HE.out.below NN1.out)).mono ?_
      rintro e w2 ⟨rfl, hb⟩
      have NN2 := Lib.hid (NN1.out.trans (hb.mono NN1.out.size))
      clear hb x0 x1 x2 x3 x4
      go_wp2_with fail
      refine bodyPost_ret (v := .tuple #[.float .f32 0, .bool false]) (by simp [results, Try.results51, go_sem]) rfl ⟨rfl, NN2.out⟩
    · have k1 : hidOk n L n (n * n) (n * L) f g h v p u r = true := by rw [HO.out, h1, h2]; rfl
      rw [k1, HV2.out k1]
      rw [h2] at HSt
      have HAt := Lib.hid (fun k (hk : k < p) => hid_at (k := k) hw h2 hk)
      have HFS := Lib.hid (hidF_S hw h2 hf hg hh)
      have HG := Lib.hid hg
      have HH := Lib.hid hh
      have hr1 : r = p + 1 ∧ 0 ≤ u 0 ∧ u 0 ≤ (n : Int) - 1 := by
        unfold statesB at h2
        rw [Bool.and_eq_true, decide_eq_true_eq] at h2
        exact ⟨h2.2, allIn_iff.1 h2.1 0 (by omega)⟩
      obtain ⟨hr1, u1, u2⟩ := hr1
      obtain ⟨U, hU⟩ : ∃ U : Nat, u 0 = U := ⟨(u 0).toNat, by omega⟩
      have HF0 := Lib.hid (show hidF f g h n L v u 0 = f U by show f (u 0).toNat = _; rw [hU]; rfl)
      have dU : (U : Int) < n := by omega
      have dr : (0 : Int) < r := by omega
      have HU := Lib.hid hU
      have HR1 := Lib.hid hr1
      clear hU hr1 u1 u2
      have bS : n * n ≤ 25 := Nat.mul_le_mul N2 N2
      have bL : n * L ≤ 20 := Nat.mul_le_mul N2 L2
      clear k1 h1 h2 HO HV HV2 hv hw hf hg hh
      go_enter Try.func51, Try.ntmps51
      go_wp2_with fail
      refine (HWd.out _ (HA.out.below (by repeat (first | exact Below.refl _ _ | exact Hid.out (by assumption) | refine below_alloc ?_ _ | refine Below.setCell ?_ (by simp <;> omega) _ | refine Below.alloc ?_ (by simp <;> omega) _ | refine Below.drew ?_ | refine below_drewN ?_ _))) (HB.out.below (by repeat (first | exact Below.refl _ _ | exact Hid.out (by assumption) | refine below_alloc ?_ _ | refine Below.setCell ?_ (by simp <;> omega) _ | refine Below.alloc ?_ (by simp <;> omega) _ | refine Below.drew ?_ | refine below_drewN ?_ _))) (HC.out.below (by repeat (first | exact Below.refl _ _ | exact Hid.out (by assumption) | refine below_alloc ?_ _ | refine Below.setCell ?_ (by simp <;> omega) _ | refine Below.alloc ?_ (by simp <;> omega) _ | refine Below.drew ?_ | refine below_drewN ?_ _))) (HD.out.below (by repeat (first | exact Below.refl _ _ | exact Hid.out (by assumption) | refine below_alloc ?_ _ | refine Below.setCell ?_ (by simp <;> omega) _ | refine Below.alloc ?_ (by simp <;> omega) _ | refine Below.drew ?_ | refine below_drewN ?_ _)))).mono ?_
      rintro e w1 ⟨rfl, hb⟩
      have NN1 := Lib.hid (show Below w.heap.size w w1 from Below.trans (by repeat (first | exact Below.refl _ _ | exact Hid.out (by assumption) | refine below_alloc ?_ _ | refine Below.setCell ?_ (by simp <;> omega) _ | refine Below.alloc ?_ (by simp <;> omega) _ | refine Below.drew ?_ | refine below_drewN ?_ _)) (hb.mono (by simp)))
      have X1 := Lib.hid (Box5.below (Box5.new w 27 (.int .i64 n) (.int .i64 L) (.slice A n c) (.slice B (n * n) d) (.slice C (n * L) q)) hb)
      obtain ⟨x0, x1, x2, x3, x4⟩ := X1.out
      clear hb
      go_wp2_with fail
      refine (HSt.out _ (HE.out.below NN1.out)).mono ?_
      rintro e wb ⟨rfl, hb⟩
      have NB := Lib.hid (NN1.out.trans (hb.mono NN1.out.size))
      have XB := Lib.hid (X1.out.below hb)
      clear hb x0 x1 x2 x3 x4 HWd HSt
      obtain ⟨x0, x1, x2, x3, x4⟩ := XB.out
      obtain ⟨y, rfl, hy0⟩ := HE.out 0 (by have := HR1.out; omega)
      have hy : wb.cell? y = some (.int .i64 U) := by
        have := (HE.out.below NB.out) 0 (by have := HR1.out; omega)
        obtain ⟨y', e', h'⟩ := this
        cases e'
        rw [← HU.out, show y = y.add 0 from (by unfold Addr.add; rw [if_pos rfl])]
        exact h'
      obtain ⟨z, rfl, hz0⟩ := HA.out U (by omega)
      have hz : wb.cell? (z.add U) = some (.float .f32 (f U)) := by rw [NB.out.cell (World.block_lt_of_cell? _ _ hz0)]; exact hz0
      clear hy0 hz0
      generalize f U = F0 at *
      go_wp2_with fail
      go_quiet (fail)
      go_wp2_with fail
      go_loopw [8, 9, 10, 31] (fun x _ _ j wr => ∃ k : Nat, k ≤ p ∧ j = .int .i64 k ∧ x = .float .f32 (hidF f g h n L v u k) ∧ Hid (Below wb.heap.size wb wr)) (fun _ _ _ j _ => p - (intOf j).toNat)
      case atStart => exact ⟨0, Nat.zero_le _, rfl, by rw [HF0.out], (by repeat (first | exact Below.refl _ _ | exact Hid.out (by assumption) | refine below_alloc ?_ _ | refine Below.setCell ?_ (by simp <;> omega) _ | refine Below.alloc ?_ (by simp <;> omega) _ | refine Below.drew ?_ | refine below_drewN ?_ _))⟩
      case round =>
        obtain ⟨k, hk, rfl, rfl, HW⟩ := hrel
        clear x0 x1 x2 x3 x4 hy hz
        have XR := Lib.hid (XB.out.below HW.out)
        obtain ⟨x0, x1, x2, x3, x4⟩ := XR.out
        have NR := Lib.hid (show Below w.heap.size w wr from NB.out.trans (HW.out.mono NB.out.size))
        by_cases hlt : k < p
        · have d1 : (k : Int) < p := by omega
          obtain ⟨a, b, zz, e1, e2, e3, ha, hb, hzz, i1, i2⟩ := HAt.out k hlt
          have hrr := HR1.out
          have d2 : (k : Int) < r := by omega
          have d3 : (k : Int) + 1 < r := by omega
          obtain ⟨y1, q1, hy1⟩ := HE.out k (by omega)
          cases q1
          obtain ⟨y2, q2, hy2⟩ := HE.out (k + 1) (by omega)
          cases q2
          obtain ⟨y3, rfl, hy3⟩ := HD.out k hlt
          have k1 : wr.cell? (y.add k) = some (.int .i64 a) := by rw [NR.out.cell (World.block_lt_of_cell? _ _ hy1), hy1, ← e1]
          have k2 : wr.cell? ⟨y.block, y.off + (k + 1), none⟩ = some (.int .i64 b) := by rw [← add_succ', NR.out.cell (World.block_lt_of_cell? _ _ hy2), hy2, ← e2]
          have k3 : wr.cell? (y3.add k) = some (.int .i64 zz) := by rw [NR.out.cell (World.block_lt_of_cell? _ _ hy3), hy3, ← e3]
          have HSh := Lib.hid (fun W t => showOf_any n L (some z) B C n c (n * n) d (n * L) q h a zz W (by omega) i1 t)
          have HSe := Lib.hid (fun W t => stepOf_any n L (some z) B C n c (n * n) d (n * L) q g a b W (by omega) i2 t)
          have HCr := Lib.hid (HC.out.below NR.out)
          have HBr := Lib.hid (HB.out.below NR.out)
          have m1 := mul_149 (HFS.out k hk) (HH.out _ i1)
          have m2 := mul_149 m1.2 (HG.out _ i2)
          have HPr := Lib.hid (fun bb ii W t1 t2 => product2_any (hidF f g h n L v u k) (h (a * L + zz)) (g (a * n + b)) bb ii W t1 t2 m1.1 m2.1)
          have HS := Lib.hid (hidF_step (f := f) (g := g) (h := h) (N := n) (L := L) e1 e2 e3)
          clear m1 m2 hy1 hy2 hy3 e1 e2 e3 hrr i1 i2 ha hb hzz
          generalize hidF f g h n L v u k = x at *
          generalize h (a * L + zz) = hx at *
          generalize g (a * n + b) = gx at *
          generalize mul32 (mul32 x hx) gx = r2 at *
          have w3 : IntKind.i64.wrap ((k : Int) + 1) = (k : Int) + 1 := by rw [IntKind.wrap_i64]; omega
          have t3 : ((k : Int) + 1).toNat = k + 1 := by omega
          have t4 : (0 : Int) ≤ (k : Int) + 1 := by omega
          go_wp2_with fail
          have HKeep := Lib.hid (show ∀ W, Below wr.heap.size wr W → (W.cell? ⟨w.heap.size, 0, none⟩ = some (.int .i64 n) ∧ W.cell? ⟨w.heap.size, 1, none⟩ = some (.int .i64 L) ∧ W.cell? ⟨w.heap.size, 2, none⟩ = some (.slice (some z) n c) ∧ W.cell? ⟨w.heap.size, 3, none⟩ = some (.slice B (n * n) d) ∧ W.cell? ⟨w.heap.size, 4, none⟩ = some (.slice C (n * L) q) ∧ W.cell? (y.add k) = some (.int .i64 a) ∧ W.cell? ⟨y.block, y.off + (k + 1), none⟩ = some (.int .i64 b)) from fun W hW => by
            have X := XR.out.below hW
            exact ⟨X.c0, X.c1, X.c2, X.c3, X.c4, (hW.cell (World.block_lt_of_cell? _ _ k1)).trans k1, (hW.cell (World.block_lt_of_cell? _ _ k2)).trans k2⟩)
          go_region_held3 (fun W => W.cell? ⟨w.heap.size, 0, none⟩ = some (.int .i64 n) ∧ W.cell? ⟨w.heap.size, 1, none⟩ = some (.int .i64 L) ∧ W.cell? ⟨w.heap.size, 2, none⟩ = some (.slice (some z) n c) ∧ W.cell? ⟨w.heap.size, 3, none⟩ = some (.slice B (n * n) d) ∧ W.cell? ⟨w.heap.size, 4, none⟩ = some (.slice C (n * L) q) ∧ W.cell? (y.add k) = some (.int .i64 a) ∧ W.cell? ⟨y.block, y.off + (k + 1), none⟩ = some (.int .i64 b))
            (exact HKeep.out _ (by repeat (first | exact Below.refl _ _ | exact Hid.out (by assumption) | refine below_alloc ?_ _ | refine Below.setCell ?_ (by simp <;> omega) _ | refine Below.alloc ?_ (by simp <;> omega) _ | refine Below.drew ?_ | refine below_drewN ?_ _)))
            (first
              | (go_at_call 94
                 refine (HSh.out _ (HCr.out.below (by repeat (first | exact Below.refl _ _ | exact Hid.out (by assumption) | refine below_alloc ?_ _ | refine Below.setCell ?_ (by simp <;> omega) _ | refine Below.alloc ?_ (by simp <;> omega) _ | refine Below.drew ?_ | refine below_drewN ?_ _)))).mono ?_
                 rintro e ua ⟨rfl, hb⟩
                 have P := Lib.hid (Below.step (w := wr) (by repeat (first | exact Below.refl _ _ | exact Hid.out (by assumption) | refine below_alloc ?_ _ | refine Below.setCell ?_ (by simp <;> omega) _ | refine Below.alloc ?_ (by simp <;> omega) _ | refine Below.drew ?_ | refine below_drewN ?_ _)) (Nat.le_refl _) hb)
                 clear hb)
              | (go_at_call 95
                 refine (HSe.out _ (HBr.out.below (by repeat (first | exact Below.refl _ _ | exact Hid.out (by assumption) | refine below_alloc ?_ _ | refine Below.setCell ?_ (by simp <;> omega) _ | refine Below.alloc ?_ (by simp <;> omega) _ | refine Below.drew ?_ | refine below_drewN ?_ _)))).mono ?_
                 rintro e ub ⟨rfl, hb⟩
                 have Q := Lib.hid (Below.step (w := wr) (by repeat (first | exact Below.refl _ _ | exact Hid.out (by assumption) | refine below_alloc ?_ _ | refine Below.setCell ?_ (by simp <;> omega) _ | refine Below.alloc ?_ (by simp <;> omega) _ | refine Below.drew ?_ | refine below_drewN ?_ _)) (Nat.le_refl _) hb)
                 clear hb)
              | (go_at_call 93
                 refine (HPr.out _ _ _ (by simp [go_sem]) (by simp [go_sem])).mono ?_
                 rintro e w' ⟨rfl, rfl⟩))
          all_goals (
            go_wp2_with fail
            clear w3 t3
            exact ⟨⟨k + 1, by omega, by simp, by rw [HS.out], HW.out.trans (Below.mono (show Below wr.heap.size wr _ from (by repeat (first | exact Below.refl _ _ | exact Hid.out (by assumption) | refine below_alloc ?_ _ | refine Below.setCell ?_ (by simp <;> omega) _ | refine Below.alloc ?_ (by simp <;> omega) _ | refine Below.drew ?_ | refine below_drewN ?_ _))) HW.out.size)⟩, by simp [intOf]; omega⟩)
        · have d1 : ¬ (k : Int) < p := by omega
          obtain rfl : p = k := by omega
          go_wp2_with fail
          refine bodyPost_ret (v := .tuple #[.float .f32 (hidF f g h n L v u p), .bool true]) (by simp [results, Try.results51, go_sem]) rfl ⟨rfl, NR.out⟩
end Go.Proofs.Ytikgnpajjbjkcaa
