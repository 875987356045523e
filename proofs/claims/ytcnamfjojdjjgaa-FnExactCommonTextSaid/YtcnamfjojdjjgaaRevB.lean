/- slices.Reverse at bytes. -/
import Derived.Test.YtcnamfjojdjjgaaStepS
import Derived.Shelf.RegionOpenPlain
set_option linter.unusedVariables false
namespace Go.Proofs.Ytcnamfjojdjjgaa
open Go.RowKit
/-- Turned round as far as t from both ends. -/
def revT (V : Nat → Int) (k t s : Nat) : Int := if s < t ∨ k ≤ s + t then V (k - 1 - s) else V s
theorem revT_step {V : Nat → Int} {k t : Nat} (h : 2 * t + 1 < k) (s : Nat) (hs : s < k) : revT V k (t + 1) s = if s = k - 1 - t then V t else if s = t then V (k - 1 - t) else revT V k t s := by
  unfold revT
  by_cases h1 : s = k - 1 - t
  · rw [if_pos h1, if_pos (by omega), show k - 1 - s = t by omega]
  · rw [if_neg h1]
    by_cases h2 : s = t
    · rw [if_pos h2, if_pos (by omega), h2]
    · rw [if_neg h2]
      by_cases h3 : s < t ∨ k ≤ s + t
      · rw [if_pos h3, if_pos (by omega)]
      · rw [if_neg h3, if_neg (by omega)]
set_option maxHeartbeats 4000000 in
theorem revB_any (g k c : Nat) (V : Nat → Int) (w : World) (hk : k ≤ 1048576) (h : OwnC w g (some ⟨g, 0, none⟩) k (fun s => .int .u8 (V s))) :
    Calls Try.prog 71 #[.slice (some ⟨g, 0, none⟩) k c] w fun e w' => e = .returned (.tuple #[]) ∧ OwnC w' g (some ⟨g, 0, none⟩) k (fun s => .int .u8 (V (k - 1 - s))) ∧ ∀ B, B ≤ g → Below B w w' := by
  have mixed : Try.prog.follows .mixedOrders = true := by kernel_rfl
  have H := Lib.hid h
  have wk : IntKind.i64.wrap ((k : Int) - 1) = (k : Int) - 1 := by rw [IntKind.wrap_i64]; omega
  clear h
  go_enter Try.func71, Try.ntmps71
  go_wp2_with fail
  go_loopw [2, 3] (fun ii jj wr => ∃ t : Nat, 2 * t ≤ k + 1 ∧ ii = .int .i64 t ∧ jj = .int .i64 ((k : Int) - 1 - t) ∧ Hid (OwnC wr g (some ⟨g, 0, none⟩) k (fun s => .int .u8 (revT V k t s))) ∧ Hid (∀ B, B ≤ g → Below B w wr)) (fun ii _ _ => k - (intOf ii).toNat)
  case atStart => exact ⟨0, by omega, rfl, by simp, H.out.congr fun s hs => by unfold revT; rw [if_neg (by omega)], fun B _ => Below.refl _ _⟩
  case round =>
    obtain ⟨t, ht, rfl, rfl, HO, HB⟩ := hrel
    clear H
    by_cases hlt : (t : Int) < (k : Int) - 1 - t
    · obtain ⟨u, hu⟩ : ∃ u : Nat, (k : Int) - 1 - t = u := ⟨k - 1 - t, by omega⟩
      have hu2 : u = k - 1 - t := by omega
      obtain ⟨x1, hx1, -, f1, c1⟩ := HO.out t (by omega)
      obtain ⟨x2, hx2, -, f2, c2⟩ := HO.out u (by omega)
      cases hx1
      cases hx2
      rw [add0] at f1 c1 f2 c2
      have c1' : wr.cell? ⟨g, t, none⟩ = some (.int .u8 (V t)) := by
        refine c1.trans ?_
        show some (Value.int .u8 (revT V k t t)) = _
        unfold revT
        rw [if_neg (by omega)]
      have c2' : wr.cell? ⟨g, u, none⟩ = some (.int .u8 (V u)) := by
        refine c2.trans ?_
        show some (Value.int .u8 (revT V k t u)) = _
        unfold revT
        rw [if_neg (by omega)]
      have l1 : (t : Int) < k := by omega
      have l2 : (u : Int) < k := by omega
      have l3 : (t : Int) < u := by omega
      have w1 : IntKind.i64.wrap ((t : Int) + 1) = (t : Int) + 1 := by rw [IntKind.wrap_i64]; omega
      have w2 : IntKind.i64.wrap ((u : Int) - 1) = (u : Int) - 1 := by rw [IntKind.wrap_i64]; omega
      rw [hu]
      have HU := Lib.hid hu
      have HU2 := Lib.hid hu2
      clear c1 c2 hu hu2 hlt
      go_wp2_with fail
      go_region_o
      go_wp2_with fail
      refine ⟨⟨t + 1, by have := HU.out; omega, by simp, by have := HU.out; simp; omega, ?_, fun B hB => ?_⟩, by have := HU.out; simp [intOf]; omega⟩
      · have a1 := OwnC.set HO.out rfl (k := t) (by omega) (.int .u8 (V u))
        have a2 := OwnC.set a1 rfl (k := u) (by omega) (.int .u8 (V t))
        rw [add0, add0] at a2
        refine (a2.below (Below.drew (Below.refl _ _))).congr fun s hs => ?_
        show (if s = u then Value.int .u8 (V t) else if s = t then .int .u8 (V u) else .int .u8 (revT V k t s)) = .int .u8 (revT V k (t + 1) s)
        rw [revT_step (by have := HU2.out; omega) s hs, ← HU2.out]
        split
        · rfl
        · split <;> rfl
      · exact Below.drew (Below.setCell (Below.setCell (HB.out B hB) hB _) hB _)
    · have HF := Lib.hid (show ∀ s, s < k → revT V k t s = V (k - 1 - s) from fun s hs => by
        unfold revT
        by_cases h : s < t ∨ k ≤ s + t
        · rw [if_pos h]
        · rw [if_neg h, show k - 1 - s = s by omega])
      have HO2 := Lib.hid (HO.out.congr (U := fun s => .int .u8 (V (k - 1 - s))) fun s hs => by rw [HF.out s hs])
      clear HO
      go_wp2_with fail
      go_end0
      exact ⟨rfl, HO2.out, HB.out⟩
end Go.Proofs.Ytcnamfjojdjjgaa
