/- Changes done in order, at one change: impl's. -/
import Derived.Test.YtehemjcpdblonaaAllI
import Derived.Test.YtehemjcpdblonaaClone
set_option linter.unusedVariables false
namespace Go.Proofs.Ytehemjcpdblonaa
open Go.RowKit
set_option maxRecDepth 20000 in
set_option maxHeartbeats 4000000 in
theorem doneInOrder_one (gX cX : Nat) (A B C D : Option Addr) (n c m d o q p t : Nat) (h : Nat → Int) (S : Nat → Int) (L : Nat) (E : Option Addr) (r i : Nat) (v : Nat → Int) (w : World) (hcX : 1 ≤ cX)
    (hn : n ≤ 4) (hm : m ≤ 4) (ho : o ≤ 4) (hL : L ≤ 12) (hr : r ≤ 1000) (h1 : 0 < m) (hC : Cells w C o (fun i => .int .i64 (h i))) (hE : Cells w E r (fun i => .int .i64 (v i)))
    (hX : ∀ j, j < 17 → w.cell? ⟨gX, 0 + j, none⟩ = some (finV A B C D n c m d o q p t S L j))
    (L0 : List Int) (hL0 : L0 = allOf (fitsI n r L v S) ((List.range o).map h) m v r 0) :
    Calls Try.prog 72 #[.slice (some ⟨gX, 0, none⟩) 1 cX, .slice E r i] w fun e w' => IRes w w' e (decide (L0.length ≤ 24)) (ifN (decide (L0.length ≤ 24)) L0.length) (fun i => L0.getD i 0) := by
  have HCl := Lib.hid (fun W (k : Cells W E r (fun i => .int .i64 (v i))) => cloneI_any E r i v W (by omega) (by rw [Nat.mul_one]; exact k))
  have HD := Lib.hid (fun cZ (Am : Option Addr) dm W k1 k2 k3 => doneAtAll_one gX 0 cZ A B C D n c m d o q p t h S L Am r dm v W hn hm ho hL hr h1 k1 k2 k3 L0 hL0)
  have HC := Lib.hid hC
  have HE := Lib.hid hE
  have HX := Lib.hid hX
  clear hC hE hX hL0
  have e1 : ((1 : Int) ≤ cX) := by omega
  go_enter Try.func72, Try.ntmps72
  go_wp2_with fail
  refine (HCl.out _ (HE.out.below (by repeat (first | exact Below.refl _ _ | exact Hid.out (by assumption) | refine below_alloc ?_ _ | refine Below.setCell ?_ (by simp <;> omega) _ | refine Below.alloc ?_ (by simp <;> omega) _ | refine Below.drew ?_ | refine below_drewN ?_ _)))).mono ?_
  rintro e w1 ⟨Am, dm, g, rfl, hg, hoc, hb⟩
  have HCM := Lib.hid (show Cells w1 Am r (fun i => .int .i64 (v i)) by rw [Nat.mul_one] at hoc; exact hoc.cells)
  have N1 := Lib.hid hb
  clear hg hoc hb
  go_wp2_with fail
  go_loopg [6, 12] 1 (fun gg s6 s12 wr => ∃ (j : Nat), j + gg = 1 ∧ s12 = .int .i64 j ∧ Hid (j = 0 → s6 = .slice Am r dm ∧ Cells wr Am r (fun i => .int .i64 (v i))) ∧ Hid (j = 1 → L0.length ≤ 24 ∧ ∃ A1 c1 g1, s6 = .slice A1 L0.length c1 ∧ w.heap.size ≤ g1 ∧ OwnC wr g1 A1 L0.length (fun i => .int .i64 (L0.getD i 0))) ∧ Hid (Below w.heap.size w wr))
  case atStart => exact ⟨0, rfl, rfl, fun _ => ⟨rfl, HCM.out⟩, fun e => absurd e (by omega), N1⟩
  case round =>
    obtain ⟨j, hj, rfl, HA0, HA1, HB0⟩ := hrel
    cases gk with
    | zero =>
      obtain rfl : j = 1 := by omega
      obtain ⟨h24, A1, c1, g1, rfl, hg1, ho1⟩ := HA1.out rfl
      have HR := Lib.hid (show IRes w wr (.returned (.tuple #[.slice A1 L0.length c1, .bool true])) true (ifN true L0.length) (fun i => L0.getD i 0) from ⟨A1, c1, g1, rfl, hg1, trivial, ho1, HB0.out⟩)
      have H24 := Lib.hid h24
      clear ho1 h24 hg1 hj
      go_wp2_with fail
      refine bodyPost_ret (v := .tuple #[.slice A1 L0.length c1, .bool true]) ?r1 rfl ?r2
      case r1 => simp [results, Try.results72, go_sem]
      case r2 => rw [decide_eq_true H24.out]; exact HR.out
    | succ g2 =>
      obtain rfl : j = 0 := by omega
      obtain ⟨rfl, hcm⟩ := HA0.out rfl
      have HQ := Lib.hid (fun cZ => HD.out cZ Am dm wr (HC.out.below HB0.out) hcm (fun j hj => (HB0.out.cell (World.block_lt_of_cell? _ _ (HX.out j hj))).trans (HX.out j hj)))
      clear hcm hj
      go_wp2_with fail
      refine (HQ.out _).mono ?_
      rintro e w2 ⟨⟨y, rfl, ho2⟩, hb2⟩
      obtain ⟨A1, c1, g1, rfl, hg1, ho1⟩ := own_valsI ho2 rfl
      have N2 := Lib.hid (show Below w.heap.size w w2 from HB0.out.trans (hb2.mono HB0.out.size))
      have HO := Lib.hid ho1
      have HG := Lib.hid (show w.heap.size ≤ g1 from Nat.le_trans HB0.out.size hg1)
      clear ho2 hb2 hg1 ho1
      by_cases h24 : L0.length ≤ 24
      · have d1 : ¬ (24 : Int) < L0.length := by omega
        have H24 := Lib.hid h24
        clear h24
        go_wp2_with fail
        go_roundg 0
        case measure => omega
        case rel => exact ⟨1, by first | rfl | trivial, by first | rfl | trivial, (fun e => absurd e (by omega)), (fun _ => ⟨H24.out, A1, c1, g1, rfl, HG.out, HO.out⟩), N2⟩
      · have d1 : (24 : Int) < L0.length := by omega
        have H24 := Lib.hid h24
        clear h24
        go_wp2_with fail
        refine bodyPost_ret (v := .tuple #[.slice none 0 0, .bool false]) ?r1 rfl ?r2
        case r1 => simp [results, Try.results72, go_sem]
        case r2 => rw [decide_eq_false H24.out]; exact IRes.none_ rfl N2.out
end Go.Proofs.Ytehemjcpdblonaa
