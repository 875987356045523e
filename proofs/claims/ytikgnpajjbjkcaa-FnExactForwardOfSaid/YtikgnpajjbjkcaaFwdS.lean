/- A forward look: the reference's rows. -/
import Derived.Test.YtikgnpajjbjkcaaFwdM
import Derived.Test.YtikgnpajjbjkcaaClone
import Derived.Deep.RegionHeld3
set_option linter.unusedVariables false
namespace Go.Proofs.Ytikgnpajjbjkcaa
open Go.RowKit

theorem infoF1 : (Try.prog.info? 36).map (fun i => (i.zero, i.size, i.bytes)) = some (some (.float .f32 0), 1, 4) := by kernel_rfl
/-- One element behind a row. -/
def litOne (x : Value) (_ : Nat) : Value := x
theorem cells_lit1 {w : World} {b : Nat} {x : Value} {t : TypeId} (h : w.heap.size = b) : Cells (w.alloc (.cells #[x] t)) (some ⟨b, 0, none⟩) (1 * 1) (litOne x) := fun k hk => by
  subst h
  obtain rfl : k = 0 := by omega
  exact ⟨_, rfl, by rw [add0]; simp [go_sem, litOne]⟩
theorem list_lit1 (n : Nat) (V : Nat → Value) (x : Value) (h : V n = x) : listV (n * 1) V ++ listV (1 * 1) (litOne x) = listV ((n + 1) * 1) V := by
  have e : listV (1 * 1) (litOne x) = [x] := rfl
  rw [e, Nat.mul_one, Nat.mul_one, ← h, listV_snoc]
/-- A row of the call's own as cells. -/
theorem own_cells {w : World} {base : Nat} {e : TypeId} {v : Value} {n : Nat} {V : Nat → Value} (h : w.ownsRow base e 1 v n (listV (n * 1) V)) :
    ∃ (A : Option Addr) (c g : Nat), v = .slice A n c ∧ n ≤ c ∧ base ≤ g ∧ OwnC w g A n V := by
  rcases h.2 with ⟨hv, h0⟩ | ⟨g, cap, cur, hv, hb, hh, h1, h2, h3, h4⟩
  · subst h0 hv
    exact ⟨none, 0, base, rfl, Nat.le_refl _, Nat.le_refl _, OwnC.zero⟩
  · subst hv
    refine ⟨_, cap, g, rfl, h1, hb, fun k hk => ⟨_, rfl, rfl, ?_, ?_⟩⟩
    · rw [add0]; exact h.frozenAt k
    · rw [add0, h.cellAt k (by omega)]
      exact listV_get V (by omega)
/-- A call's result is a row of floats of its own. -/
def FRow (w w' : World) (e : Ending) (n : Nat) (V : Nat → Nat) : Prop :=
  ∃ (A : Option Addr) (d g : Nat), e = .returned (.slice A n d) ∧ n ≤ d ∧ w.heap.size ≤ g ∧ OwnC w' g A n (fun i => .float .f32 (V i)) ∧ Below w.heap.size w w'

set_option maxRecDepth 20000 in
set_option maxHeartbeats 4000000 in
theorem l03Next_any (P N L : Nat) (A B C R : Option Addr) (n c m d o q rc z E : Nat) (g h row : Nat → Nat) (w : World) (N1 : 1 ≤ N) (N2 : N ≤ 5) (L2 : L ≤ 4) (hz : z < L) (hE : E + 5 ≤ 276)
    (hr : ∀ i, i < N → S E (row i)) (hg : ∀ i, i < N * N → S 149 (g i)) (hh : ∀ i, i < N * L → S 149 (h i))
    (hR : Cells w R N (fun i => .float .f32 (row i))) (hB : Cells w B (N * N) (fun i => .float .f32 (g i))) (hC : Cells w C (N * L) (fun i => .float .f32 (h i)))
    (b : Box5 w P (.int .i64 N) (.int .i64 L) (.slice A n c) (.slice B (N * N) d) (.slice C (N * L) q)) :
    Calls Try.prog 79 #[.pointer (some ⟨P, 0, none⟩), .slice R N rc, .int .i64 z] w fun e w' => FRow w w' e N (nextR g h N L row z) := by
  obtain ⟨fi, hfi, hfz, hfs, hfb⟩ := info_parts infoF1
  have HR := Lib.hid hR
  have HB := Lib.hid hB
  have HC := Lib.hid hC
  have X := Lib.hid b
  have bS : N * N ≤ 25 := Nat.mul_le_mul N2 N2
  have bL : N * L ≤ 20 := Nat.mul_le_mul N2 L2
  have HT := Lib.hid (fun j (hj : j < N) i (hi : i < N) => term_ok (by omega) hr hg hh hz hj hi)
  have HAd := Lib.hid (fun j (hj : j < N) i (hi : i < N) => nextR_add hE N2 hr hg hh hz hj hi)
  clear hR hB hC b hr hg hh
  go_enter Try.func79, Try.ntmps79
  go_wp2_with fail
  go_loopw [7, 8, 9, 10] (fun out kk _ _ wr => ∃ k : Nat, k ≤ N ∧ kk = .int .i64 k ∧ Hid (wr.ownsRow w.heap.size 36 1 out k (listV (k * 1) (fun j => .float .f32 (nextR g h N L row z j)))) ∧ Hid (Below w.heap.size w wr)) (fun _ kk _ _ _ => N - (intOf kk).toNat)
  case atStart => exact ⟨0, Nat.zero_le _, rfl, World.ownsRow_lit w #[] 0 (Nat.le_refl _) (by unfold maxLen; omega) rfl, (by repeat (first | exact Below.refl _ _ | exact Hid.out (by assumption) | refine below_alloc ?_ _ | refine Below.setCell ?_ (by simp <;> omega) _ | refine Below.alloc ?_ (by simp <;> omega) _ | refine Below.drew ?_ | refine below_drewN ?_ _))⟩
  case round =>
    obtain ⟨k, hk, rfl, HO, HW⟩ := hrel
    obtain ⟨wo, rfl⟩ : ∃ wo : World, wo = wr := ⟨_, rfl⟩
    have XR := Lib.hid (X.out.below HW.out)
    obtain ⟨x0, x1, x2, x3, x4⟩ := XR.out
    by_cases hlt : k < N
    · have d1 : (k : Int) < N := by omega
      go_wp2_with fail
      go_loopw [9, 10] (fun s i wr => ∃ t u : Nat, t ≤ N ∧ i = .int .i64 t ∧ s = .float .f32 (sumF (termR g h N L row z k) t) ∧ Hid (wr = wo.drewN u)) (fun _ i _ => N - (intOf i).toNat)
      case atStart => exact ⟨0, 0, Nat.zero_le _, rfl, rfl, rfl⟩
      case round =>
        obtain ⟨t, u, ht, rfl, rfl, hw⟩ := hrel
        clear x0 x1 x2 x3 x4
        have XT := Lib.hid (show Box5 wr P (.int .i64 N) (.int .i64 L) (.slice A n c) (.slice B (N * N) d) (.slice C (N * L) q) by rw [hw.out]; exact XR.out.drewN u)
        obtain ⟨x0, x1, x2, x3, x4⟩ := XT.out
        have NT := Lib.hid (show Below w.heap.size w wr by rw [hw.out]; exact below_drewN HW.out u)
        by_cases hlt2 : t < N
        · have d2 : (t : Int) < N := by omega
          have i1 := idx_lt hlt2 hz
          have i2 := idx_lt hlt2 hlt
          obtain ⟨y1, rfl, hy1⟩ := HR.out t hlt2
          obtain ⟨y2, rfl, hy2⟩ := HC.out (t * L + z) i1
          obtain ⟨y3, rfl, hy3⟩ := HB.out (t * N + k) i2
          have k1 : wr.cell? (y1.add t) = some (.float .f32 (row t)) := by rw [NT.out.cell (World.block_lt_of_cell? _ _ hy1)]; exact hy1
          have k2 : wr.cell? (y2.add (t * L + z)) = some (.float .f32 (h (t * L + z))) := by rw [NT.out.cell (World.block_lt_of_cell? _ _ hy2)]; exact hy2
          have k3 : wr.cell? (y3.add (t * N + k)) = some (.float .f32 (g (t * N + k))) := by rw [NT.out.cell (World.block_lt_of_cell? _ _ hy3)]; exact hy3
          obtain ⟨m1, m2, -⟩ := HT.out k hlt t hlt2
          have hm1 := fun W => run_float_arith (P := Try.prog) W .mul 36 .f32 _ _ _ m1
          have hm2 := fun W => run_float_arith (P := Try.prog) W .mul 36 .f32 _ _ _ m2
          have ha := fun W => run_float_arith (P := Try.prog) W .add 36 .f32 _ _ _ (HAd.out k hlt t hlt2)
          have w1 : IntKind.i64.wrap ((t : Int) * L) = ((t * L : Nat) : Int) := by rw [← Int.natCast_mul, IntKind.wrap_i64]; omega
          have w2 : IntKind.i64.wrap ((t : Int) * N) = ((t * N : Nat) : Int) := by rw [← Int.natCast_mul, IntKind.wrap_i64]; omega
          have d4 : ((t * L : Nat) : Int) + z < (N : Int) * L := by rw [← Int.natCast_mul]; omega
          have d5 : ((t * N : Nat) : Int) + k < (N : Int) * N := by rw [← Int.natCast_mul]; omega
          have b1 : t * L ≤ 1048576 := by omega
          have b2 : t * N ≤ 1048576 := by omega
          clear m1 m2 hy1 hy2 hy3 i1 i2
          generalize hs1 : sumF (termR g h N L row z k) (t + 1) = s1 at *
          have HS1 := Lib.hid hs1
          clear hs1
          generalize sumF (termR g h N L row z k) t = s0 at *
          generalize termR g h N L row z k t = tt at *
          generalize h (t * L + z) = hx at *
          generalize g (t * N + k) = gx at *
          generalize mul32 (row t) hx = r1 at *
          generalize row t = rx at *
          generalize t * L = tl at *
          generalize t * N = tn at *
          go_wp2_with fail
          go_quiet (fail)
          go_wp2_with fail
          exact ⟨⟨t + 1, u + nq, by omega, by simp, by rw [HS1.out], by rw [hw.out]; exact World.drewN_drewN ..⟩, by simp [intOf]; omega⟩
        · have d2 : ¬ (t : Int) < N := by omega
          obtain rfl : N = t := by omega
          have HOr := Lib.hid (show wr.ownsRow w.heap.size 36 1 _ k _ by rw [hw.out]; exact HO.out)
          have HNx := Lib.hid (show sumF (termR g h N L row z k) N = nextR g h N L row z k from rfl)
          have hsz := NT.out.size
          generalize sumF (termR g h N L row z k) N = sx at *
          go_wp2_with (first
            | (at_builtin
               refine wpList_append_cells _ rfl _ _ 22 rfl w.heap.size 36 fi (.float .f32 0) 1 4 Try.underlying22 hfi hfz hfs hfb rfl (by decide) _ k _ rfl (HOr.out.alloc _)
                 (some ⟨wr.heap.size, 0, none⟩) 1 1 (litOne (.float .f32 sx)) rfl (cells_lit1 rfl) (fun _ _ => rfl) (by unfold maxLen; omega) (by omega) (by simp <;> omega) ?_
               intro v1 w2 hown hgrow hwhere
               rw [list_lit1 k (fun j => .float .f32 (nextR g h N L row z j)) _ (by rw [HNx.out])] at hown
               have HO2 := Lib.hid hown
               have HW2 := Lib.hid (show Below w.heap.size w w2 from Below.grown (Below.alloc NT.out NT.out.size _) hgrow (by simp <;> omega) (fun j hj => (HOr.out.lt j hj).1))
               clear hown hgrow hwhere)
            | go_in)
          exact ⟨⟨k + 1, by omega, by simp, HO2.out, HW2.out⟩, by simp [intOf]; omega⟩
    · have d1 : ¬ (k : Int) < N := by omega
      obtain rfl : N = k := by omega
      obtain ⟨A2, c2, g2, rfl, h1, h2, h3⟩ := own_cells HO.out
      have HF := Lib.hid (show FRow w wo (.returned (.slice A2 N c2)) N (nextR g h N L row z) from ⟨A2, c2, g2, rfl, h1, h2, h3, HW.out⟩)
      clear h1 h2 h3 HO
      go_wp2_with fail
      go_ret
      exact HF.out

theorem l03Sum_any (A : Option Addr) (n c : Nat) (f : Nat → Nat) (w : World) (hn : n ≤ 1048576) (hA : Cells w A n (fun i => .float .f32 (f i))) (hadd : ∀ k, k < n → floatBits .add .f32 (sumF f k) (f k) = some (sumF f (k + 1))) :
    Calls Try.prog 113 #[.slice A n c] w fun e w' => e = .returned (.float .f32 (sumF f n)) ∧ w = w' := by
  have HA := Lib.hid hA
  have HM := Lib.hid hadd
  clear hA hadd
  go_enter Try.func113, Try.ntmps113
  go_wp2_with fail
  go_loop [3, 4, 7] (fun a _ j => ∃ k : Nat, k ≤ n ∧ j = .int .i64 k ∧ a = .float .f32 (sumF f k)) (fun _ _ j => n - (intOf j).toNat)
  case atStart => exact ⟨0, Nat.zero_le _, rfl, rfl⟩
  case round =>
    obtain ⟨k, hk, rfl, rfl⟩ := hrel
    by_cases hlt : k < n
    · have d1 : (k : Int) < n := by omega
      obtain ⟨y, rfl, hy0⟩ := HA.out k hlt
      have hy : w.cell? (y.add k) = some (.float .f32 (f k)) := hy0
      have hm := fun W => run_float_arith (P := Try.prog) W .add 36 .f32 _ _ _ (HM.out k hlt)
      clear hy0
      generalize hs1 : sumF f (k + 1) = s1 at *
      have HS1 := Lib.hid hs1
      clear hs1
      generalize sumF f k = s0 at *
      generalize f k = z at *
      go_wp2_with fail
      go_round
      case rel => exact ⟨k + 1, by omega, by go_num, by rw [HS1.out]⟩
      case measure => simp [intOf]; omega
    · have d1 : ¬ (k : Int) < n := by omega
      obtain rfl : n = k := by omega
      go_wp2_with fail
      go_ret
      exact ⟨rfl, rfl⟩
end Go.Proofs.Ytikgnpajjbjkcaa
