/- Changes with what they look for: impl.findersOf. -/
import Derived.Test.YtehemjcpdblonaaPad
import Derived.Test.YtehemjcpdblonaaQuad
import Derived.Test.YtehemjcpdblonaaChgV
import Derived.Test.YtehemjcpdblonaaIRes
import Derived.Test.YtehemjcpdblonaaStep
import Derived.Deep.RegionLaw
import Derived.Deep.CutRange
import Derived.Laws.Cover3
set_option linter.unusedVariables false
namespace Go.Proofs.Ytehemjcpdblonaa
open Go.RowKit
theorem infoFinder : (Try.prog.info? 72).map (fun i => (i.zero, i.size, i.bytes)) = some (some (.agg #[.slice none 0 0, .slice none 0 0, .slice none 0 0, .slice none 0 0, .int .i64 0, .int .i64 0, .int .i64 0, .int .i64 0, .int .i64 0, .int .i64 0, .int .i64 0, .int .i64 0, .int .i64 0, .int .i64 0, .int .i64 0, .int .i64 0, .int .i64 0]), 17, 200) := by kernel_rfl

/-- What a change looks for. -/
def soughtF (n m : Nat) (f g u : Nat → Int) (x : Nat) : Int := if x < n then f x else if x < n + m then g (x - n) else u (x - (n + m))
/-- The cells of a finder. -/
def finderV (A B C D : Option Addr) (n c m d o q p t : Nat) (f g u : Nat → Int) (j : Nat) : Value :=
  if j = 0 then .slice A n c else if j = 1 then .slice B m d else if j = 2 then .slice C o q else if j = 3 then .slice D p t else if j = 16 then .int .i64 ((n + m + p : Nat) : Int) else .int .i64 (padF (soughtF n m f g u) (n + m + p) (j - 4))
/-- All cells of finders of r changes. -/
def findersV (A : Nat → Nat → Option Addr) (n c : Nat → Nat → Nat) (f : Nat → Nat → Nat → Int) (i : Nat) : Value :=
  finderV (A (i / 17) 0) (A (i / 17) 1) (A (i / 17) 2) (A (i / 17) 3) (n (i / 17) 0) (c (i / 17) 0) (n (i / 17) 1) (c (i / 17) 1) (n (i / 17) 2) (c (i / 17) 2) (n (i / 17) 3) (c (i / 17) 3) (f (i / 17) 0) (f (i / 17) 1) (f (i / 17) 3) (i % 17)
theorem own_below {w w' : World} {base size n : Nat} {e : TypeId} {v : Value} {xs : List Value} (h : w.ownsRow base e size v n xs) (b : Below w.heap.size w w') : w'.ownsRow base e size v n xs := by
  refine ⟨h.1, ?_⟩
  rcases h.2 with hv | ⟨g, cap, cur, hv, hb, hh, h1, h2, h3, h4⟩
  · exact .inl hv
  · exact .inr ⟨g, cap, cur, hv, hb, by rw [b.block g (Array.getElem?_eq_some_iff.1 hh).1]; exact hh, h1, h2, h3, h4⟩
theorem sought_list (n m p : Nat) (f g u : Nat → Int) (i : Nat) (h : i < n + m + p) : (listV n (fun i => .int .i64 (f i)) ++ listV m (fun i => .int .i64 (g i)) ++ listV p (fun i => .int .i64 (u i))).getD i undef = .int .i64 (soughtF n m f g u i) := by
  unfold soughtF
  by_cases h1 : i < n
  · rw [if_pos h1, List.getD, List.getElem?_append_left (by rw [List.length_append, listV_len]; omega), List.getElem?_append_left (by rw [listV_len]; omega), listV_get _ h1]; rfl
  · rw [if_neg h1]
    by_cases h2 : i < n + m
    · rw [if_pos h2, List.getD, List.getElem?_append_left (by rw [List.length_append, listV_len, listV_len]; omega), List.getElem?_append_right (by rw [listV_len]; omega), listV_len, listV_get _ (show i - n < m by omega)]; rfl
    · rw [if_neg h2, List.getD, List.getElem?_append_right (by rw [List.length_append, listV_len, listV_len]; omega), List.length_append, listV_len, listV_len, listV_get _ (show i - (n + m) < p by omega)]; rfl
theorem fin_cells {w : World} {t : TypeId} {A B C D : Option Addr} {n c m d o q p e : Nat} {f g u : Nat → Int} {N : Nat} (h : w.heap.size = N) :
    Cells (w.alloc (.cells #[.slice A n c, .slice B m d, .slice C o q, .slice D p e, .int .i64 (padF (soughtF n m f g u) (n + m + p) 0), .int .i64 (padF (soughtF n m f g u) (n + m + p) 1), .int .i64 (padF (soughtF n m f g u) (n + m + p) 2), .int .i64 (padF (soughtF n m f g u) (n + m + p) 3), .int .i64 (padF (soughtF n m f g u) (n + m + p) 4), .int .i64 (padF (soughtF n m f g u) (n + m + p) 5), .int .i64 (padF (soughtF n m f g u) (n + m + p) 6), .int .i64 (padF (soughtF n m f g u) (n + m + p) 7), .int .i64 (padF (soughtF n m f g u) (n + m + p) 8), .int .i64 (padF (soughtF n m f g u) (n + m + p) 9), .int .i64 (padF (soughtF n m f g u) (n + m + p) 10), .int .i64 (padF (soughtF n m f g u) (n + m + p) 11), .int .i64 ((n : Int) + m + p)] t)) (some ⟨N, 0, none⟩) (1 * 17) (finderV A B C D n c m d o q p e f g u) := by
  subst h
  intro k hk
  refine ⟨_, rfl, ?_⟩
  rw [add0, World.cell?_alloc_new]
  have : k = 0 ∨ k = 1 ∨ k = 2 ∨ k = 3 ∨ k = 4 ∨ k = 5 ∨ k = 6 ∨ k = 7 ∨ k = 8 ∨ k = 9 ∨ k = 10 ∨ k = 11 ∨ k = 12 ∨ k = 13 ∨ k = 14 ∨ k = 15 ∨ k = 16 := by omega
  rcases this with rfl | rfl | rfl | rfl | rfl | rfl | rfl | rfl | rfl | rfl | rfl | rfl | rfl | rfl | rfl | rfl | rfl <;> simp [finderV]
theorem fin_one {A B C D : Option Addr} {n c m d o q p e : Nat} {f g u : Nat → Int} (j : Nat) : (finderV A B C D n c m d o q p e f g u j).oneCell' = true := by
  unfold finderV
  repeat' split
  all_goals rfl
theorem fin_list (k : Nat) (V U : Nat → Value) (h : ∀ j, j < 17 → V (k * 17 + j) = U j) : listV (k * 17) V ++ listV (1 * 17) U = listV ((k + 1) * 17) V := by
  unfold listV
  rw [show (k + 1) * 17 = k * 17 + 1 * 17 by omega, List.range_add, List.map_append, List.map_map]
  congr 1
  apply List.map_congr_left
  intro j hj
  exact (h j (by have := List.mem_range.1 hj; omega)).symm

set_option maxRecDepth 20000 in
set_option maxHeartbeats 2000000 in
theorem findersOf_any (B : Option Addr) (r c : Nat) (A : Nat → Nat → Option Addr) (n cp : Nat → Nat → Nat) (f : Nat → Nat → Nat → Int) (w : World) (hr : r ≤ 64)
    (hB : ∀ k, k < r → ∀ j, j < 4 → ∃ x, B = some x ∧ w.cell? (x.add (k * 4 + j)) = some (.slice (A k j) (n k j) (cp k j)))
    (hn : ∀ k, k < r → ∀ j, j < 4 → n k j ≤ 4) (hA : ∀ k, k < r → ∀ j, j < 4 → Cells w (A k j) (n k j) (fun i => .int .i64 (f k j i))) :
    Calls Try.prog 61 #[.slice B r c] w fun e w' => (∃ v, e = .returned v ∧ w'.ownsRow w.heap.size 72 17 v r (listV (r * 17) (findersV A n cp f))) ∧ Below w.heap.size w w' := by
  obtain ⟨ii, hii, hzi, hsi, hbi⟩ := info_parts infoFinder
  have HB := Lib.hid hB
  have HN := Lib.hid hn
  have HA := Lib.hid hA
  have HC := Lib.hid (fun a0 a1 a2 n0 n1 n2 c0 c1 c2 (f0 f1 f2 : Nat → Int) W b k1 k2 k3 k4 k5 => concat3_any a0 a1 a2 n0 n1 n2 c0 c1 c2 b (fun i => .int .i64 (f0 i)) (fun i => .int .i64 (f1 i)) (fun i => .int .i64 (f2 i)) W k1 k2 k3 k4 k5 (fun _ _ => rfl) (fun _ _ => rfl) (fun _ _ => rfl))
  clear hB hn hA
  go_enter Try.func61, Try.ntmps61
  go_wp2_with fail
  go_loopw [3, 5, 6, 10] (fun row _ _ j wr => ∃ (k : Nat) (y : Value), k ≤ r ∧ y = row ∧ j = .int .i64 k ∧ Hid (wr.ownsRow w.heap.size 72 17 y k (listV (k * 17) (findersV A n cp f))) ∧ Hid (Below w.heap.size w wr)) (fun _ _ _ j _ => r - (intOf j).toNat)
  case atStart => exact ⟨0, _, Nat.zero_le _, rfl, rfl, (by unfold Hid; simp only [Nat.zero_mul, listV, List.range_zero, List.map_nil]; exact World.ownsRow_lit w #[] (base := w.heap.size) 0 (Nat.le_refl _) (by unfold maxLen; omega) rfl), (by repeat (first | exact Below.refl _ _ | exact Hid.out (by assumption) | refine below_alloc ?_ _ | refine Below.setCell ?_ (by simp <;> omega) _ | refine Below.alloc ?_ (by simp <;> omega) _ | refine Below.drew ?_ | refine below_drewN ?_ _))⟩
  case round =>
    obtain ⟨k, y, hk, rfl, rfl, HO, HB0⟩ := hrel
    by_cases hlt : k < r
    · have d1 : (k : Int) < r := by omega
      obtain ⟨x, rfl, hx0⟩ := HB.out k hlt 0 (by omega)
      obtain ⟨x1, e1, hx1⟩ := HB.out k hlt 1 (by omega)
      cases e1
      obtain ⟨x2, e2, hx2⟩ := HB.out k hlt 2 (by omega)
      cases e2
      obtain ⟨x3, e3, hx3⟩ := HB.out k hlt 3 (by omega)
      cases e3
      rw [Nat.add_zero] at hx0
      have y0 := (HB0.out.cell (World.block_lt_of_cell? _ _ hx0)).trans hx0
      have y1 := (HB0.out.cell (World.block_lt_of_cell? _ _ hx1)).trans hx1
      have y2 := (HB0.out.cell (World.block_lt_of_cell? _ _ hx2)).trans hx2
      have y3 := (HB0.out.cell (World.block_lt_of_cell? _ _ hx3)).trans hx3
      rw [← add_add', add_pos (by omega)] at y1 y2 y3
      have n0 := HN.out k hlt 0 (by omega)
      have n1 := HN.out k hlt 1 (by omega)
      have n3 := HN.out k hlt 3 (by omega)
      have A0 := Lib.hid (HA.out k hlt 0 (by omega))
      have A1 := Lib.hid (HA.out k hlt 1 (by omega))
      have A3 := Lib.hid (HA.out k hlt 3 (by omega))
      have HFV := Lib.hid (show ∀ j, j < 17 → findersV A n cp f (k * 17 + j) = finderV (A k 0) (A k 1) (A k 2) (A k 3) (n k 0) (cp k 0) (n k 1) (cp k 1) (n k 2) (cp k 2) (n k 3) (cp k 3) (f k 0) (f k 1) (f k 3) j from fun j hj => by
        unfold findersV
        rw [show (k * 17 + j) / 17 = k by omega, show (k * 17 + j) % 17 = j by omega])
      clear hx0 hx1 hx2 hx3
      generalize A k 0 = a0 at *
      generalize A k 1 = a1 at *
      generalize A k 2 = a2 at *
      generalize A k 3 = a3 at *
      generalize n k 0 = m0 at *
      generalize n k 1 = m1 at *
      generalize n k 2 = m2 at *
      generalize n k 3 = m3 at *
      generalize cp k 0 = c0 at *
      generalize cp k 1 = c1 at *
      generalize cp k 2 = c2 at *
      generalize cp k 3 = c3 at *
      generalize f k 0 = f0 at *
      generalize f k 1 = f1 at *
      generalize f k 3 = f3 at *
      go_wp2_with fail
      refine (HC.out a0 a1 a3 m0 m1 m3 c0 c1 c3 f0 f1 f3 (wr.alloc _) (wr.heap.size + 1) (by omega) (by simp) (A0.out.below (by repeat (first | exact Below.refl _ _ | exact Hid.out (by assumption) | refine below_alloc ?_ _ | refine Below.setCell ?_ (by simp <;> omega) _ | refine Below.alloc ?_ (by simp <;> omega) _ | refine Below.drew ?_ | refine below_drewN ?_ _))) (A1.out.below (by repeat (first | exact Below.refl _ _ | exact Hid.out (by assumption) | refine below_alloc ?_ _ | refine Below.setCell ?_ (by simp <;> omega) _ | refine Below.alloc ?_ (by simp <;> omega) _ | refine Below.drew ?_ | refine below_drewN ?_ _))) (A3.out.below (by repeat (first | exact Below.refl _ _ | exact Hid.out (by assumption) | refine below_alloc ?_ _ | refine Below.setCell ?_ (by simp <;> omega) _ | refine Below.alloc ?_ (by simp <;> omega) _ | refine Below.drew ?_ | refine below_drewN ?_ _)))).mono ?_
      rintro e w1 ⟨⟨z, rfl, ho⟩, hb⟩
      obtain ⟨S, sc, sg, rfl, hsg, hso⟩ := OwnC.of_rowV ho
      have N1 := Lib.hid (show Below w.heap.size w w1 from Below.trans (show Below w.heap.size w (wr.alloc _) from (by repeat (first | exact Below.refl _ _ | exact Hid.out (by assumption) | refine below_alloc ?_ _ | refine Below.setCell ?_ (by simp <;> omega) _ | refine Below.alloc ?_ (by simp <;> omega) _ | refine Below.drew ?_ | refine below_drewN ?_ _))) (hb.mono (by have := HB0.out.size; simp; omega)))
      have R1 := Lib.hid (show Below wr.heap.size wr w1 from Below.trans (show Below wr.heap.size wr (wr.alloc _) from (Below.refl _ _).alloc (Nat.le_refl _) _) (hb.mono (by simp)))
      have X1 := Lib.hid (Box4.below (Box4.new wr 30 (.slice a0 m0 c0) (.slice a1 m1 c1) (.slice a2 m2 c2) (.slice a3 m3 c3)) hb)
      have SO := Lib.hid (show Cells w1 S (m0 + m1 + m3) (fun i => .int .i64 (soughtF m0 m1 f0 f1 f3 i)) from (by rw [Nat.mul_one] at hso; exact (hso.congr fun i hi => sought_list m0 m1 m3 f0 f1 f3 i hi).cells))
      have HP := Lib.hid (fun W k => padded_any S (m0 + m1 + m3) sc (soughtF m0 m1 f0 f1 f3) W (by omega) k)
      have HO1 := Lib.hid (show w1.ownsRow w.heap.size 72 17 y k (listV (k * 17) (findersV A n cp f)) from own_below HO.out R1.out)
      clear ho hb hsg hso
      obtain ⟨b0, b1, b2, b3⟩ := X1.out
      have hat : ∀ W g cap, (Instr.arrayAt 70 (.slice (some ⟨g, 0, none⟩) (m0 + m1 + m3 + 12) cap)).run Try.prog W = .ok (.pointer (some ⟨g, 0, none⟩)) W := fun W g cap => run_arrayAt W _ _ 12 _ _ cap Try.underlying70 (by omega)
      go_upto_region 6 with fail
      go_region_law (first
        | (rw [if_pos (by simp [Region.wanted])]
           go_simp
           go_at_call 89
           refine (HP.out _ (SO.out.below (by repeat (first | exact Below.refl _ _ | exact Hid.out (by assumption) | refine below_alloc ?_ _ | refine Below.setCell ?_ (by simp <;> omega) _ | refine Below.alloc ?_ (by simp <;> omega) _ | refine Below.drew ?_ | refine below_drewN ?_ _)))).mono ?_
           rintro e u1 ⟨⟨g2, cap2, rfl, q1, q2, q3, q4⟩, hb⟩
           have R2 := Lib.hid (show Below w1.heap.size w1 u1 from Below.trans (by repeat (first | exact Below.refl _ _ | exact Hid.out (by assumption) | refine below_alloc ?_ _ | refine Below.setCell ?_ (by simp <;> omega) _ | refine Below.alloc ?_ (by simp <;> omega) _ | refine Below.drew ?_ | refine below_drewN ?_ _)) (hb.mono (by first | exact Nat.le_refl _ | simp)))
           have X2 := Lib.hid (X1.out.below R2.out)
           obtain ⟨d0, d1', d2, d3⟩ := X2.out
           have HPC := Lib.hid (show ∀ j, j < 12 → u1.cell? ⟨g2, j, none⟩ = some (.int .i64 (padF (soughtF m0 m1 f0 f1 f3) (m0 + m1 + m3) j)) from fun j hj => by
             obtain ⟨xx, e1, -, -, e4⟩ := q4 j (by omega)
             cases e1
             rw [add0] at e4
             exact e4)
           have p0 := HPC.out 0 (by omega)
           have p1 := HPC.out 1 (by omega)
           have p2 := HPC.out 2 (by omega)
           have p3 := HPC.out 3 (by omega)
           have p4 := HPC.out 4 (by omega)
           have p5 := HPC.out 5 (by omega)
           have p6 := HPC.out 6 (by omega)
           have p7 := HPC.out 7 (by omega)
           have p8 := HPC.out 8 (by omega)
           have p9 := HPC.out 9 (by omega)
           have p10 := HPC.out 10 (by omega)
           have p11 := HPC.out 11 (by omega)
           have s12 : ¬ (m0 + m1 + m3 + 12 < 12) := by omega
           have HO2 := Lib.hid (own_below HO1.out R2.out)
           have N2 := Lib.hid (show Below w.heap.size w u1 from N1.out.trans (R2.out.mono N1.out.size))
           clear hb q1 q2 q3 q4)
        | (refine step_append_cells _ rfl (.tmp 22) (.tmp 31) 73 rfl w.heap.size 72 ii (.agg #[.slice none 0 0, .slice none 0 0, .slice none 0 0, .slice none 0 0, .int .i64 0, .int .i64 0, .int .i64 0, .int .i64 0, .int .i64 0, .int .i64 0, .int .i64 0, .int .i64 0, .int .i64 0, .int .i64 0, .int .i64 0, .int .i64 0, .int .i64 0]) 17 200 Try.underlying73 hii hzi hsi hbi rfl (by decide) y k _ rfl (own_below HO2.out ((Below.refl _ _).alloc (Nat.le_refl _) _))
             (some ⟨u1.heap.size, 0, none⟩) 1 1 (finderV a0 a1 a2 a3 m0 c0 m1 c1 m2 c2 m3 c3 f0 f1 f3) rfl (fin_cells rfl) (fun j _ => fin_one j) (by unfold maxLen; omega) (by omega) (by have := N2.out.size; simp; omega) ?_
           intro v2 w2 hown hgrow hwhere
           have N3 := Lib.hid (show Below w.heap.size w w2 from Below.grown (Below.alloc N2.out N2.out.size _) hgrow (by have := N2.out.size; simp; omega) (fun j hj => (HO2.out.lt j hj).1))
           rw [fin_list k _ _ HFV.out] at hown
           have HO3 := Lib.hid hown
           clear hown hgrow hwhere)
        | fail)
      all_goals (
        go_wp2_with fail
        exact ⟨⟨k + 1, v2, by omega, rfl, by simp, HO3, N3⟩, by simp [intOf]; omega⟩)
    · have d1 : ¬ (k : Int) < r := by omega
      obtain rfl : r = k := by omega
      go_wp2_with fail
      go_ret
      exact ⟨⟨_, rfl, HO.out⟩, HB0.out⟩
end Go.Proofs.Ytehemjcpdblonaa
