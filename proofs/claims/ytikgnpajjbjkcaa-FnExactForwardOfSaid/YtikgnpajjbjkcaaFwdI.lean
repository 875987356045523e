/- A forward look: the program's next row. -/
import Derived.Test.YtikgnpajjbjkcaaFwdS
import Derived.Test.YtikgnpajjbjkcaaHidI2
set_option linter.unusedVariables false
namespace Go.Proofs.Ytikgnpajjbjkcaa
open Go.RowKit

set_option maxRecDepth 20000 in
set_option maxHeartbeats 4000000 in
theorem next1_any (pr pm pl pk : Nat) (N L : Nat) (A B C R : Option Addr) (n c d q rc z j i E : Nat) (g h row : Nat → Nat) (wr : World) (N2 : N ≤ 5) (L2 : L ≤ 4) (hz : z < L) (hj : j < N) (hi : i < N) (hE : E + 5 ≤ 276)
    (hr : ∀ i, i < N → S E (row i)) (hg : ∀ i, i < N * N → S 149 (g i)) (hh : ∀ i, i < N * L → S 149 (h i))
    (hR : Cells wr R N (fun i => .float .f32 (row i))) (hB : Cells wr B (N * N) (fun i => .float .f32 (g i))) (hC : Cells wr C (N * L) (fun i => .float .f32 (h i)))
    (b : Box5 wr pm (.int .i64 N) (.int .i64 L) (.slice A n c) (.slice B (N * N) d) (.slice C (N * L) q)) (c1 : wr.cell? ⟨pr, 0, none⟩ = some (.slice R N rc)) (c2 : wr.cell? ⟨pl, 0, none⟩ = some (.int .i64 z)) (c3 : wr.cell? ⟨pk, 0, none⟩ = some (.int .i64 j)) :
    Calls Try.prog 119 #[.int .i64 i, .pointer (some ⟨pr, 0, none⟩), .pointer (some ⟨pm, 0, none⟩), .pointer (some ⟨pl, 0, none⟩), .pointer (some ⟨pk, 0, none⟩)] wr fun e w' => e = .returned (.float .f32 (termR g h N L row z j i)) ∧ Below wr.heap.size wr w' := by
  have HB := Lib.hid hB
  have HC := Lib.hid hC
  have X := Lib.hid b
  have bS : N * N ≤ 25 := Nat.mul_le_mul N2 N2
  have bL : N * L ≤ 20 := Nat.mul_le_mul N2 L2
  have i1 := idx_lt hi hz
  have i2 := idx_lt hi hj
  obtain ⟨y, rfl, hy0⟩ := hR i hi
  have hy : wr.cell? (y.add i) = some (.float .f32 (row i)) := hy0
  have HSh := Lib.hid (fun W t => showOf_any N L A B C n c (N * N) d (N * L) q h i z W (by omega) i1 t)
  have HSe := Lib.hid (fun W t => stepOf_any N L A B C n c (N * N) d (N * L) q g i j W (by omega) i2 t)
  obtain ⟨m1, m2, -⟩ := term_ok (by omega) hr hg hh hz hj hi
  have HPr := Lib.hid (fun bb ii W t1 t2 => product2_any (row i) (h (i * L + z)) (g (i * N + j)) bb ii W t1 t2 m1 m2)
  have HTm := Lib.hid (show mul32 (mul32 (row i) (h (i * L + z))) (g (i * N + j)) = termR g h N L row z j i from rfl)
  have d1 : (i : Int) < N := by omega
  clear m1 m2 hR hB hC b hr hg hh hy0 i1 i2
  have HKeep := Lib.hid (show ∀ W, Below wr.heap.size wr W → (W.cell? ⟨pr, 0, none⟩ = some (.slice (some y) N rc) ∧ W.cell? ⟨pm, 0, none⟩ = some (.int .i64 N) ∧ W.cell? ⟨pm, 1, none⟩ = some (.int .i64 L) ∧ W.cell? ⟨pm, 2, none⟩ = some (.slice A n c) ∧ W.cell? ⟨pm, 3, none⟩ = some (.slice B (N * N) d) ∧ W.cell? ⟨pm, 4, none⟩ = some (.slice C (N * L) q) ∧ W.cell? ⟨pl, 0, none⟩ = some (.int .i64 z) ∧ W.cell? ⟨pk, 0, none⟩ = some (.int .i64 j) ∧ W.cell? (y.add i) = some (.float .f32 (row i))) from fun W hW => by
    have Y := X.out.below hW
    exact ⟨(hW.cell (World.block_lt_of_cell? _ _ c1)).trans c1, Y.c0, Y.c1, Y.c2, Y.c3, Y.c4, (hW.cell (World.block_lt_of_cell? _ _ c2)).trans c2, (hW.cell (World.block_lt_of_cell? _ _ c3)).trans c3, (hW.cell (World.block_lt_of_cell? _ _ hy)).trans hy⟩)
  obtain ⟨x0, x1, x2, x3, x4⟩ := X.out
  generalize mul32 (mul32 (row i) (h (i * L + z))) (g (i * N + j)) = r2 at *
  generalize h (i * L + z) = hx at *
  generalize g (i * N + j) = gx at *
  go_enter Try.func119, Try.ntmps119
  go_wp2_with fail
  go_region_held3 (fun W => W.cell? ⟨pr, 0, none⟩ = some (.slice (some y) N rc) ∧ W.cell? ⟨pm, 0, none⟩ = some (.int .i64 N) ∧ W.cell? ⟨pm, 1, none⟩ = some (.int .i64 L) ∧ W.cell? ⟨pm, 2, none⟩ = some (.slice A n c) ∧ W.cell? ⟨pm, 3, none⟩ = some (.slice B (N * N) d) ∧ W.cell? ⟨pm, 4, none⟩ = some (.slice C (N * L) q) ∧ W.cell? ⟨pl, 0, none⟩ = some (.int .i64 z) ∧ W.cell? ⟨pk, 0, none⟩ = some (.int .i64 j) ∧ W.cell? (y.add i) = some (.float .f32 (row i)))
    (exact HKeep.out _ (by repeat (first | exact Below.refl _ _ | exact Hid.out (by assumption) | refine below_alloc ?_ _ | refine Below.setCell ?_ (by simp <;> omega) _ | refine Below.alloc ?_ (by simp <;> omega) _ | refine Below.drew ?_ | refine below_drewN ?_ _)))
    (first
      | (go_at_call 94
         refine (HSh.out _ (HC.out.below (by repeat (first | exact Below.refl _ _ | exact Hid.out (by assumption) | refine below_alloc ?_ _ | refine Below.setCell ?_ (by simp <;> omega) _ | refine Below.alloc ?_ (by simp <;> omega) _ | refine Below.drew ?_ | refine below_drewN ?_ _)))).mono ?_
         rintro e ua ⟨rfl, hb⟩
         have P := Lib.hid (Below.step (w := wr) (by repeat (first | exact Below.refl _ _ | exact Hid.out (by assumption) | refine below_alloc ?_ _ | refine Below.setCell ?_ (by simp <;> omega) _ | refine Below.alloc ?_ (by simp <;> omega) _ | refine Below.drew ?_ | refine below_drewN ?_ _)) (Nat.le_refl _) hb)
         clear hb)
      | (go_at_call 95
         refine (HSe.out _ (HB.out.below (by repeat (first | exact Below.refl _ _ | exact Hid.out (by assumption) | refine below_alloc ?_ _ | refine Below.setCell ?_ (by simp <;> omega) _ | refine Below.alloc ?_ (by simp <;> omega) _ | refine Below.drew ?_ | refine below_drewN ?_ _)))).mono ?_
         rintro e ub ⟨rfl, hb⟩
         have Q := Lib.hid (Below.step (w := wr) (by repeat (first | exact Below.refl _ _ | exact Hid.out (by assumption) | refine below_alloc ?_ _ | refine Below.setCell ?_ (by simp <;> omega) _ | refine Below.alloc ?_ (by simp <;> omega) _ | refine Below.drew ?_ | refine below_drewN ?_ _)) (Nat.le_refl _) hb)
         clear hb)
      | (go_at_call 93
         refine (HPr.out _ _ _ (by simp [go_sem]) (by simp [go_sem])).mono ?_
         rintro e w' ⟨rfl, rfl⟩))
  all_goals (
    go_wp2_with fail
    go_ret
    exact ⟨by rw [← HTm.out]; rfl, show Below wr.heap.size wr _ from (by repeat (first | exact Below.refl _ _ | exact Hid.out (by assumption) | refine below_alloc ?_ _ | refine Below.setCell ?_ (by simp <;> omega) _ | refine Below.alloc ?_ (by simp <;> omega) _ | refine Below.drew ?_ | refine below_drewN ?_ _))⟩)

set_option maxHeartbeats 1000000 in
/-- A sum of what a function value tells. -/
theorem sumOverNext_any (pr pm pl pk : Nat) (n : Nat) (t : Nat → Nat) (w : World) (hn : n ≤ 1048576) (hadd : ∀ k, k < n → floatBits .add .f32 (sumF t k) (t k) = some (sumF t (k + 1)))
    (HT : ∀ k, k < n → ∀ W, Below w.heap.size w W → Calls Try.prog 119 #[.int .i64 k, .pointer (some ⟨pr, 0, none⟩), .pointer (some ⟨pm, 0, none⟩), .pointer (some ⟨pl, 0, none⟩), .pointer (some ⟨pk, 0, none⟩)] W fun e w' => e = .returned (.float .f32 (t k)) ∧ Below W.heap.size W w') :
    Calls Try.prog 111 #[.int .i64 n, .func (.func 119) #[] #[.pointer (some ⟨pr, 0, none⟩), .pointer (some ⟨pm, 0, none⟩), .pointer (some ⟨pl, 0, none⟩), .pointer (some ⟨pk, 0, none⟩)]] w fun e w' => e = .returned (.float .f32 (sumF t n)) ∧ Below w.heap.size w w' := by
  have HA := Lib.hid hadd
  have HC := Lib.hid HT
  clear hadd HT
  go_enter Try.func111, Try.ntmps111
  go_wp2_with fail
  go_loopw [5, 6, 8] (fun s _ i wr => ∃ k : Nat, k ≤ n ∧ i = .int .i64 k ∧ s = .float .f32 (sumF t k) ∧ Hid (Below w.heap.size w wr)) (fun _ _ i _ => n - (intOf i).toNat)
  case atStart => exact ⟨0, Nat.zero_le _, rfl, rfl, Below.refl _ _⟩
  case round =>
    obtain ⟨k, hk, rfl, rfl, HB⟩ := hrel
    by_cases hlt : k < n
    · have d1 : (k : Int) < n := by omega
      have HK := Lib.hid (HC.out k hlt wr HB.out)
      have hr := fun W => run_float_arith (P := Try.prog) W .add 36 .f32 _ _ _ (HA.out k hlt)
      generalize hs1 : sumF t (k + 1) = s1 at *
      have HS1 := Lib.hid hs1
      clear hs1
      generalize sumF t k = s0 at *
      generalize t k = u at *
      go_wp2_with fail
      refine HK.out.mono ?_
      rintro e w2 ⟨rfl, hb⟩
      have N2 := Lib.hid (HB.out.trans (hb.mono HB.out.size))
      clear hb
      go_wp2_with fail
      exact ⟨⟨k + 1, by omega, by simp, by rw [HS1.out], N2.out⟩, by simp [intOf]; omega⟩
    · have d1 : ¬ (k : Int) < n := by omega
      have e : k = n := by omega
      subst e
      go_wp2_with fail
      go_ret
      exact ⟨rfl, HB.out⟩

/-- The row as far as it is told. -/
def fillF (V : Nat → Nat) (k j : Nat) : Nat := if j < k then V j else 0
theorem made_zerosF {w : World} {base : Nat} {e : TypeId} {g c n : Nat} (h : w.ownsRow base e 1 (.slice (some ⟨g, 0, none⟩) n c) n (madeCells (Value.float .f32 0).cells (n * 1)).toList) :
    g < w.heap.size ∧ OwnC w g (some ⟨g, 0, none⟩) n (fun _ => .float .f32 0) := by
  obtain ⟨h1, h2⟩ := OwnC.made h
  rw [Nat.mul_one] at h2
  refine ⟨h1, h2.congr fun k hk => ?_⟩
  simp [madeCells, Value.cells, List.getD, hk, Nat.mod_one]
theorem OwnC.at0 {w : World} {g n k : Nat} {V : Nat → Value} (h : OwnC w g (some ⟨g, 0, none⟩) n V) (hk : k < n) : w.frozen? ⟨g, k, none⟩ = false ∧ w.cell? ⟨g, k, none⟩ = some (V k) := by
  obtain ⟨x, hx, _, h3, h4⟩ := h k hk
  cases hx
  rw [add0] at h3 h4
  exact ⟨h3, h4⟩
theorem OwnC.set0 {w : World} {g n k : Nat} {V : Nat → Value} (h : OwnC w g (some ⟨g, 0, none⟩) n V) (hk : k < n) (v : Value) : OwnC (w.setCell ⟨g, k, none⟩ v) g (some ⟨g, 0, none⟩) n (fun i => if i = k then v else V i) := by
  have := h.set rfl hk v
  rw [add0] at this
  exact this
set_option maxRecDepth 20000 in
set_option maxHeartbeats 4000000 in
theorem rowBehind_any (N L : Nat) (A B C R : Option Addr) (n c d q rc z E : Nat) (g h row : Nat → Nat) (w : World) (N1 : 1 ≤ N) (N2 : N ≤ 5) (L2 : L ≤ 4) (hz : z < L) (hE : E + 5 ≤ 276)
    (hr : ∀ i, i < N → S E (row i)) (hg : ∀ i, i < N * N → S 149 (g i)) (hh : ∀ i, i < N * L → S 149 (h i))
    (hR : Cells w R N (fun i => .float .f32 (row i))) (hB : Cells w B (N * N) (fun i => .float .f32 (g i))) (hC : Cells w C (N * L) (fun i => .float .f32 (h i))) :
    Calls Try.prog 83 #[.agg #[.int .i64 N, .int .i64 L, .slice A n c, .slice B (N * N) d, .slice C (N * L) q], .slice R N rc, .int .i64 z] w fun e w' => FRow w w' e N (nextR g h N L row z) := by
  obtain ⟨fi, hfi, hfz, hfs, hfb⟩ := info_parts infoF1
  have HR := Lib.hid hR
  have HB := Lib.hid hB
  have HC := Lib.hid hC
  have HSum := Lib.hid (fun pr pm pl pk j (hj : j < N) W HT => sumOverNext_any pr pm pl pk N (termR g h N L row z j) W (by omega) (fun i hi => nextR_add hE N2 hr hg hh hz hj hi) HT)
  have HClo := Lib.hid (fun pr pm pl pk j (hj : j < N) i (hi : i < N) W t1 t2 t3 b k1 k2 k3 => next1_any pr pm pl pk N L A B C R n c d q rc z j i E g h row W N2 L2 hz hj hi hE hr hg hh t1 t2 t3 b k1 k2 k3)
  have hmf : ∀ (fn : Fn) (first cap : Array Value) (w : World), (Instr.makeFunc fn first cap).run Try.prog w = .ok (.func fn first cap) w := fun _ _ _ _ => rfl
  clear hR hB hC hr hg hh
  go_enter Try.func83, Try.ntmps83
  go_wp2_with (first
    | (at_make; refine wpList_make_full _ rfl _ _ 22 rfl w.heap.size 36 fi (.float .f32 0) 1 Try.underlying22 hfi hfz hfs .i64 .i64 _ _ N rfl rfl rfl rfl (by rw [hfb]; omega) (by unfold maxLen; omega) (by simp <;> omega) ?_
       intro w0 hown0 hgrow0
       obtain ⟨hz0, ho0⟩ := made_zerosF hown0
       have HO0 := Lib.hid ho0
       have NB0 := Lib.hid (show Below w.heap.size w w0 from Below.grown (by repeat (first | exact Below.refl _ _ | exact Hid.out (by assumption) | refine below_alloc ?_ _ | refine Below.setCell ?_ (by simp <;> omega) _ | refine Below.alloc ?_ (by simp <;> omega) _ | refine Below.drew ?_ | refine below_drewN ?_ _)) hgrow0 (by simp <;> omega) (fun j hj => by cases hj))
       have X0 := Lib.hid (show Box5 w0 w.heap.size (.int .i64 N) (.int .i64 L) (.slice A n c) (.slice B (N * N) d) (.slice C (N * L) q) from Box5.below (((Box5.new w 27 _ _ _ _ _).alloc _).alloc _) ((Below.refl _ _).grown hgrow0 (Nat.le_refl _) (fun j hj => by cases hj)))
       have C1 := Lib.hid (show w0.cell? ⟨w.heap.size + 1, 0, none⟩ = some (.slice R N rc) by
         rw [((Below.refl _ _).grown hgrow0 (Nat.le_refl _) (fun j hj => by cases hj) : Below _ _ w0).cell (by simp)]; simp [go_sem])
       have C2 := Lib.hid (show w0.cell? ⟨w.heap.size + 1 + 1, 0, none⟩ = some (.int .i64 z) by
         rw [((Below.refl _ _).grown hgrow0 (Nat.le_refl _) (fun j hj => by cases hj) : Below _ _ w0).cell (by simp)]; simp [go_sem])
       obtain ⟨x0, x1, x2, x3, x4⟩ := X0.out
       have hz3 : w.heap.size + 3 < w0.heap.size := by simp at hz0; omega
       clear hown0 hgrow0 ho0)
    | go_in)
  clear x0 x1 x2 x3 x4
  obtain ⟨G, hG⟩ : ∃ G, G = w.heap.size + 1 + 1 + 1 := ⟨_, rfl⟩
  have HG := Lib.hid hG
  have HO1 := Lib.hid (show OwnC w0 G (some ⟨G, 0, none⟩) N (fun _ => .float .f32 0) by rw [hG]; simpa using HO0.out)
  have hG2 : w.heap.size + 1 + 1 + 1 = G := hG.symm
  try rw [hG2]
  clear hG hG2 HO0
  go_loopw [8, 14] (fun _ kk wr => ∃ k : Nat, k ≤ N ∧ kk = .int .i64 k ∧ Hid (Below (w.heap.size + 3) w0 wr) ∧ Hid (OwnC wr G (some ⟨G, 0, none⟩) N (fun j => .float .f32 (fillF (nextR g h N L row z) k j)))) (fun _ kk _ => N - (intOf kk).toNat)
  case atStart => exact ⟨0, Nat.zero_le _, rfl, Below.refl _ _, HO1.out.congr fun j _ => by unfold fillF; rw [if_neg (by omega)]⟩
  case round =>
    obtain ⟨k, hk, rfl, HW, HO⟩ := hrel
    have hzw : w.heap.size + 3 < wr.heap.size := by have := HW.out.size; omega
    by_cases hlt : k < N
    · have d1 : (k : Int) < N := by omega
      have XR := Lib.hid (show Box5 wr w.heap.size (.int .i64 N) (.int .i64 L) (.slice A n c) (.slice B (N * N) d) (.slice C (N * L) q) from
        ⟨by rw [HW.out.cell (by simp <;> omega)]; exact X0.out.c0, by rw [HW.out.cell (by simp <;> omega)]; exact X0.out.c1, by rw [HW.out.cell (by simp <;> omega)]; exact X0.out.c2, by rw [HW.out.cell (by simp <;> omega)]; exact X0.out.c3, by rw [HW.out.cell (by simp <;> omega)]; exact X0.out.c4⟩)
      have CR1 := Lib.hid (show wr.cell? ⟨w.heap.size + 1, 0, none⟩ = some (.slice R N rc) by rw [HW.out.cell (by simp <;> omega)]; exact C1.out)
      have CR2 := Lib.hid (show wr.cell? ⟨w.heap.size + 1 + 1, 0, none⟩ = some (.int .i64 z) by rw [HW.out.cell (by simp <;> omega)]; exact C2.out)
      have NWr := Lib.hid (show Below w.heap.size w wr from NB0.out.trans (HW.out.mono (by omega)))
      have HLG := Lib.hid (HO.out.lt (show 0 < N by omega))
      obtain ⟨hf0, hc0⟩ := HO.out.at0 hlt
      have HST := Lib.hid (fun u => OwnC.set0 HO.out hlt u)
      have HSk := Lib.hid (fun W (hW : Below (wr.heap.size + 1) (wr.alloc (.cells #[.int .i64 k] 2)) W) => HSum.out (w.heap.size + 1) w.heap.size (w.heap.size + 1 + 1) wr.heap.size k hlt W (fun i hi V hV => by
        have hb : Below wr.heap.size wr W := ((Below.refl _ _).alloc (Nat.le_refl _) _).trans (hW.mono (by omega))
        have hb2 : Below wr.heap.size wr V := hb.trans (hV.mono hb.size)
        have hb3 : Below (wr.heap.size + 1) (wr.alloc (.cells #[.int .i64 k] 2)) V := hW.trans (hV.mono (by have := hW.size; simp at this; exact this))
        exact HClo.out (w.heap.size + 1) w.heap.size (w.heap.size + 1 + 1) wr.heap.size k hlt i hi V ((HR.out.below NWr.out).below hb2) ((HB.out.below NWr.out).below hb2) ((HC.out.below NWr.out).below hb2) (XR.out.below hb2)
          ((hb2.cell (World.block_lt_of_cell? _ _ CR1.out)).trans CR1.out) ((hb2.cell (World.block_lt_of_cell? _ _ CR2.out)).trans CR2.out) (by rw [hb3.cell (by simp)]; simp [go_sem])))
      have HNx := Lib.hid (show sumF (termR g h N L row z k) N = nextR g h N L row z k from rfl)
      generalize hold : fillF (nextR g h N L row z) k k = old at *
      clear hold
      generalize sumF (termR g h N L row z k) N = sx at *
      have HKeep := Lib.hid (show ∀ W, Below (wr.heap.size + 1) (wr.alloc (.cells #[.int .i64 k] 2)) W → (W.cell? ⟨wr.heap.size, 0, none⟩ = some (.int .i64 k) ∧ W.cell? ⟨w.heap.size, 0, none⟩ = some (.int .i64 N) ∧ W.frozen? ⟨G, k, none⟩ = false ∧ W.cell? ⟨G, k, none⟩ = some (.float .f32 old)) from fun W hW => by
        have hb : Below wr.heap.size wr W := ((Below.refl _ _).alloc (Nat.le_refl _) _).trans (hW.mono (by omega))
        exact ⟨by rw [hW.cell (by simp)]; simp [go_sem], (XR.out.below hb).c0, (hb.frozen (p := ⟨G, k, none⟩) HLG.out).trans hf0, (hb.cell (p := ⟨G, k, none⟩) HLG.out).trans hc0⟩)
      have HK2 := Lib.hid (show ∀ W, Below (wr.heap.size + 1) (wr.alloc (.cells #[.int .i64 k] 2)) W → (W.cell? ⟨wr.heap.size, 0, none⟩ = some (.int .i64 k) ∧ W.cell? ⟨w.heap.size, 0, none⟩ = some (.int .i64 N)) from fun W hW => ⟨(HKeep.out W hW).1, (HKeep.out W hW).2.1⟩)
      have hgn := HG.out
      have hlg := HLG.out
      have HK3 := Lib.hid (show ∀ W' x, Below (wr.heap.size + 1) (wr.alloc (.cells #[.int .i64 k] 2)) W' → ∀ W, W = W'.setCell ⟨G, k, none⟩ x → (W.cell? ⟨wr.heap.size, 0, none⟩ = some (.int .i64 k) ∧ W.cell? ⟨w.heap.size, 0, none⟩ = some (.int .i64 N)) from fun W' x hW W e => by
        subst e
        exact ⟨by rw [World.cell?_setCell_other _ _ _ _ (fun e => by have := congrArg Addr.block e; simp at this; omega)]; exact (HKeep.out W' hW).1, by rw [World.cell?_setCell_other _ _ _ _ (fun e => by have := congrArg Addr.block e; simp at this; omega)]; exact (HKeep.out W' hW).2.1⟩)
      clear hgn hlg
      obtain ⟨x0, x1, x2, x3, x4⟩ := XR.out
      have a0 := XR.out.a0
      go_wp2_with fail
      go_region_held3 (fun W => W.cell? ⟨wr.heap.size, 0, none⟩ = some (.int .i64 k) ∧ W.cell? ⟨w.heap.size, 0, none⟩ = some (.int .i64 N))
        (first
          | (exact HK3.out _ _ P.out _ rfl)
          | (exact HK2.out _ (by repeat (first | exact Below.refl _ _ | exact Hid.out (by assumption) | refine below_alloc ?_ _ | refine Below.setCell ?_ (by simp <;> omega) _ | refine Below.alloc ?_ (by simp <;> omega) _ | refine Below.drew ?_ | refine below_drewN ?_ _))))
        (first
          | (go_at_call 111
             refine (HSk.out _ (by repeat (first | exact Below.refl _ _ | exact Hid.out (by assumption) | refine below_alloc ?_ _ | refine Below.setCell ?_ (by simp <;> omega) _ | refine Below.alloc ?_ (by simp <;> omega) _ | refine Below.drew ?_ | refine below_drewN ?_ _))).mono ?_
             rintro e u1 ⟨rfl, hb⟩
             have P := Lib.hid (show Below (wr.heap.size + 1) (wr.alloc (.cells #[.int .i64 k] 2)) u1 from Below.step (by repeat (first | exact Below.refl _ _ | exact Hid.out (by assumption) | refine below_alloc ?_ _ | refine Below.setCell ?_ (by simp <;> omega) _ | refine Below.alloc ?_ (by simp <;> omega) _ | refine Below.drew ?_ | refine below_drewN ?_ _)) (by simp) hb)
             have hsf := store_f32 (x := sx) (HKeep.out u1 P.out).2.2.2 (HKeep.out u1 P.out).2.2.1
             clear hb))
      all_goals (
        go_wp2_with fail
        have hb : Below wr.heap.size wr u1 := ((Below.refl _ _).alloc (Nat.le_refl _) _).trans (P.out.mono (by omega))
        refine ⟨⟨k + 1, by omega, by simp, Below.setCell (HW.out.trans (hb.mono (by omega))) (by have := HG.out; simp; omega) _, OwnC.congr (OwnC.set0 (HO.out.below hb) hlt (.float .f32 sx)) fun j hj => ?_⟩, by simp [intOf]; omega⟩
        show _ = Value.float .f32 (fillF (nextR g h N L row z) (k + 1) j)
        by_cases e : j = k
        · rw [if_pos e]
          unfold fillF
          rw [if_pos (by omega), e, ← HNx.out]
        · rw [if_neg e]
          unfold fillF
          by_cases e2 : j < k
          · rw [if_pos e2, if_pos (by omega)]
          · rw [if_neg e2, if_neg (by omega)])
    · have d1 : ¬ (k : Int) < N := by omega
      obtain rfl : N = k := by omega
      have HF := Lib.hid (show FRow w wr (.returned (.slice (some ⟨G, 0, none⟩) N N)) N (nextR g h N L row z) from ⟨_, _, G, rfl, Nat.le_refl _, by have := HG.out; omega, HO.out.congr fun j hj => by unfold fillF; rw [if_pos hj], NB0.out.trans (HW.out.mono (by omega))⟩)
      go_wp2_with fail
      go_ret
      exact HF.out
end Go.Proofs.Ytikgnpajjbjkcaa
