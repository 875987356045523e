/- Whether changes are changes, at one: impl's. -/
import Derived.Test.YtehemjcpdblonaaChgV
import Derived.Test.YtehemjcpdblonaaQuad
import Derived.Deep.LoopGhost
set_option linter.unusedVariables false
namespace Go.Proofs.Ytehemjcpdblonaa
open Go.RowKit
set_option maxHeartbeats 1000000 in
theorem areChanges1_any
  (A B C D : Option Addr) (n c m d o q p t : Nat) (f g h u : Nat → Int)
  (l : Int) (b : Nat) (w : World)
  (hn : n ≤ 1048576) (hm : m ≤ 1048576) (ho : o ≤ 1048576) (hp : p ≤ 1048576) (hA : Cells w A n (fun i => .int .i64 (f i))) (hB : Cells w B m (fun i => .int .i64 (g i))) (hC : Cells w C o (fun i => .int .i64 (h i))) (hD : Cells w D p (fun i => .int .i64 (u i)))
  (hl : w.cell? ⟨b, 0, none⟩ = some (.int .i64 l))
  : Calls Try.prog 93 #[.agg #[.slice A n c, .slice B m d, .slice C o q, .slice D p t], .pointer (some ⟨b, 0, none⟩)] w fun e w' => e = .returned (.bool (!validC l n m o p f g h u)) ∧ Below w.heap.size w w' := by
  have HV := Lib.hid (fun W h1 h2 h3 h4 => implValidChange_any A B C D n c m d o q p t f g h u l W hn hm ho hp h1 h2 h3 h4)
  have HA := Lib.hid hA
  have HB := Lib.hid hB
  have HC := Lib.hid hC
  have HD := Lib.hid hD
  have hlb : b ≠ w.heap.size := fun e => by have := World.block_lt_of_cell? _ _ hl; simp [e] at this
  have hl2 : ∀ o', (w.alloc o').cell? ⟨b, 0, none⟩ = some (.int .i64 l) := fun o' => (World.cell?_alloc_old _ _ _ hlb).trans hl
  clear hA hB hC hD hlb
  generalize validC l n m o p f g h u = R at *
  go_enter Try.func93, Try.ntmps93
  go_wp2_with fail
  refine (HV.out _ (HA.out.below (by repeat (first | exact Below.refl _ _ | exact Hid.out (by assumption) | refine below_alloc ?_ _ | refine Below.setCell ?_ (by simp <;> omega) _ | refine Below.alloc ?_ (by simp <;> omega) _ | refine Below.drew ?_ | refine below_drewN ?_ _))) (HB.out.below (by repeat (first | exact Below.refl _ _ | exact Hid.out (by assumption) | refine below_alloc ?_ _ | refine Below.setCell ?_ (by simp <;> omega) _ | refine Below.alloc ?_ (by simp <;> omega) _ | refine Below.drew ?_ | refine below_drewN ?_ _))) (HC.out.below (by repeat (first | exact Below.refl _ _ | exact Hid.out (by assumption) | refine below_alloc ?_ _ | refine Below.setCell ?_ (by simp <;> omega) _ | refine Below.alloc ?_ (by simp <;> omega) _ | refine Below.drew ?_ | refine below_drewN ?_ _))) (HD.out.below (by repeat (first | exact Below.refl _ _ | exact Hid.out (by assumption) | refine below_alloc ?_ _ | refine Below.setCell ?_ (by simp <;> omega) _ | refine Below.alloc ?_ (by simp <;> omega) _ | refine Below.drew ?_ | refine below_drewN ?_ _)))).mono ?_
  rintro e w' ⟨rfl, hb⟩
  have N1 := Lib.hid (show Below w.heap.size w w' from Below.trans (show Below w.heap.size w (w.alloc _) from (by repeat (first | exact Below.refl _ _ | exact Hid.out (by assumption) | refine below_alloc ?_ _ | refine Below.setCell ?_ (by simp <;> omega) _ | refine Below.alloc ?_ (by simp <;> omega) _ | refine Below.drew ?_ | refine below_drewN ?_ _))) (hb.mono (by simp)))
  clear hb
  go_wp2_with fail
  go_ret
  exact ⟨rfl, N1.out⟩
set_option maxHeartbeats 1000000 in
theorem indexChange_one (X cX : Nat)
  (A B C D : Option Addr) (n c m d o q p t : Nat) (f g h u : Nat → Int)
  (l : Int) (b : Nat) (w : World)
  (hn : n ≤ 1048576) (hm : m ≤ 1048576) (ho : o ≤ 1048576) (hp : p ≤ 1048576) (hA : Cells w A n (fun i => .int .i64 (f i))) (hB : Cells w B m (fun i => .int .i64 (g i))) (hC : Cells w C o (fun i => .int .i64 (h i))) (hD : Cells w D p (fun i => .int .i64 (u i)))
  (hl : w.cell? ⟨b, 0, none⟩ = some (.int .i64 l)) (hx : Box4 w X (.slice A n c) (.slice B m d) (.slice C o q) (.slice D p t)) (hcX : 1 ≤ cX)
  : Calls Try.prog 105 #[.slice (some ⟨X, 0, none⟩) 1 cX, .func (.func 93) #[] #[.pointer (some ⟨b, 0, none⟩)]] w fun e w' => e = .returned (.int .i64 (if validC l n m o p f g h u = true then -1 else 0)) ∧ Below w.heap.size w w' := by
  have HV := Lib.hid (fun W h1 h2 h3 h4 k => areChanges1_any A B C D n c m d o q p t f g h u l b W hn hm ho hp h1 h2 h3 h4 k)
  have HA := Lib.hid hA
  have HB := Lib.hid hB
  have HC := Lib.hid hC
  have HD := Lib.hid hD
  have HL := Lib.hid hl
  have HX := Lib.hid hx
  clear hA hB hC hD hl hx
  generalize validC l n m o p f g h u = R at *
  go_enter Try.func105, Try.ntmps105
  go_wp2_with fail
  go_loopg [5, 8] 1 (fun gg s5 s8 wr => ∃ (j : Nat), j + gg = 1 ∧ s8 = .int .i64 j ∧ Hid (j = 1 → R = true) ∧ Hid (Below w.heap.size w wr))
  case atStart => exact ⟨0, rfl, rfl, fun e => absurd e (by omega), Below.refl _ _⟩
  case round =>
    obtain ⟨j, hj, rfl, HR, HB0⟩ := hrel
    cases gk with
    | zero =>
      obtain rfl : j = 1 := by omega
      obtain rfl : R = true := HR.out rfl
      clear hj
      go_wp2_with fail
      go_ret
      exact ⟨by first | rfl | simp, HB0.out⟩
    | succ g2 =>
      obtain rfl : j = 0 := by omega
      have HX1 := Lib.hid (HX.out.below HB0.out)
      obtain ⟨b0, b1, b2, b3⟩ := HX1.out
      have HVV := Lib.hid (HV.out wr (HA.out.below HB0.out) (HB.out.below HB0.out) (HC.out.below HB0.out) (HD.out.below HB0.out) ((HB0.out.cell (World.block_lt_of_cell? _ _ HL.out)).trans HL.out))
      clear hj
      go_wp2_with fail
      refine HVV.out.mono ?_
      rintro e w2 ⟨rfl, hb2⟩
      have N2 := Lib.hid (show Below w.heap.size w w2 from HB0.out.trans (hb2.mono HB0.out.size))
      clear hb2 HVV
      cases R
      · go_wp2_with fail
        go_ret
        exact ⟨by first | rfl | simp, N2.out⟩
      · go_wp2_with fail
        go_roundg 0
        case measure => omega
        case rel => exact ⟨1, by first | rfl | trivial, by first | rfl | trivial, (by first | exact fun _ => rfl | exact fun _ => trivial), N2⟩
theorem containsChange_one (X cX : Nat)
  (A B C D : Option Addr) (n c m d o q p t : Nat) (f g h u : Nat → Int)
  (l : Int) (b : Nat) (w : World)
  (hn : n ≤ 1048576) (hm : m ≤ 1048576) (ho : o ≤ 1048576) (hp : p ≤ 1048576) (hA : Cells w A n (fun i => .int .i64 (f i))) (hB : Cells w B m (fun i => .int .i64 (g i))) (hC : Cells w C o (fun i => .int .i64 (h i))) (hD : Cells w D p (fun i => .int .i64 (u i)))
  (hl : w.cell? ⟨b, 0, none⟩ = some (.int .i64 l)) (hx : Box4 w X (.slice A n c) (.slice B m d) (.slice C o q) (.slice D p t)) (hcX : 1 ≤ cX)
  : Calls Try.prog 94 #[.slice (some ⟨X, 0, none⟩) 1 cX, .func (.func 93) #[] #[.pointer (some ⟨b, 0, none⟩)]] w fun e w' => e = .returned (.bool (!validC l n m o p f g h u)) ∧ Below w.heap.size w w' := by
  have HI := Lib.hid (indexChange_one X cX A B C D n c m d o q p t f g h u l b w hn hm ho hp hA hB hC hD hl hx hcX)
  clear hA hB hC hD hl hx
  generalize validC l n m o p f g h u = R at *
  cases R
  · go_enter Try.func94, Try.ntmps94
    go_wp2_with fail
    refine HI.out.mono ?_
    rintro e w' ⟨rfl, hb⟩
    have HBB := Lib.hid hb
    clear hb
    go_wp2_with fail
    go_ret
    exact ⟨by first | rfl | simp, HBB.out⟩
  · go_enter Try.func94, Try.ntmps94
    go_wp2_with fail
    refine HI.out.mono ?_
    rintro e w' ⟨rfl, hb⟩
    have HBB := Lib.hid hb
    clear hb
    go_wp2_with fail
    go_ret
    exact ⟨by first | rfl | simp, HBB.out⟩
end Go.Proofs.Ytehemjcpdblonaa
