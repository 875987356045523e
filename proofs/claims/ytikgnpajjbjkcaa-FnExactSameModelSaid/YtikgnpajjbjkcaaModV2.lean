/- Models: whether they are valid, on both sides: the whole. -/
import Derived.Test.YtikgnpajjbjkcaaModV
import Derived.Test.YtikgnpajjbjkcaaModM
import Derived.Laws.FloatArith
set_option linter.unusedVariables false
namespace Go.Proofs.Ytikgnpajjbjkcaa
open Go.RowKit

theorem Cells.part {w : World} {x : Addr} {n p z : Nat} {V : Nat → Value} (h : Cells w (some x) n V) (hp : p + z ≤ n) : Cells w (some (x.add p)) z (fun j => V (p + j)) := fun k hk => by
  obtain ⟨y, hy, hc⟩ := h (p + k) (by omega)
  cases hy
  exact ⟨_, rfl, by rw [add_add']; exact hc⟩
theorem sub32_lt {x y : Nat} (h : floatBits .sub .f32 x y = some (sub32 x y)) : sub32 x y < 2 ^ 32 := lt_of_wf32 (floatBits_wf h)

/-- Chances whose rows have sums near 1. -/
def chancesB (f : Nat → Nat) (n rows size : Nat) : Bool := decide (n = rows * size) && (sharesB f n && (List.range rows).all fun r => nearB (sumF (fun j => f (r * size + j)) size))
theorem chances_iff {f : Nat → Nat} {n rows size : Nat} : chancesB f n rows size = true ↔ n = rows * size ∧ (∀ i, i < n → shareB (f i) = true) ∧ ∀ r, r < rows → nearB (sumF (fun j => f (r * size + j)) size) = true := by
  unfold chancesB
  rw [Bool.and_eq_true, Bool.and_eq_true, decide_eq_true_eq, sharesB_iff, List.all_eq_true]
  exact ⟨fun h => ⟨h.1, h.2.1, fun r hr => h.2.2 r (List.mem_range.2 hr)⟩, fun h => ⟨h.1, h.2.1, fun r hr => h.2.2 r (List.mem_range.1 hr)⟩⟩
theorem chances_not {f : Nat → Nat} {n rows size : Nat} (h : ¬ (n = rows * size ∧ (∀ i, i < n → shareB (f i) = true) ∧ ∀ r, r < rows → nearB (sumF (fun j => f (r * size + j)) size) = true)) : chancesB f n rows size = false := by
  cases e : chancesB f n rows size
  · rfl
  · exact absurd (chances_iff.1 e) h
theorem near_abs {x : Nat} (hS : ∃ E, E ≤ 276 ∧ S E (sub32 x one32)) : (Ieee.single.order (abs32 (sub32 x one32)) c001 == some .lt || Ieee.single.order (abs32 (sub32 x one32)) c001 == some .eq) = nearB x := by
  obtain ⟨E, hE, hS⟩ := hS
  rw [near_dist hE hS]
  rfl

set_option maxHeartbeats 2000000 in
theorem areChances_any (A : Option Addr) (n c : Nat) (f : Nat → Nat) (rows size : Nat) (w : World) (hn : n ≤ 1048576) (hc : n ≤ c) (hc2 : c ≤ 1048576) (hr1 : 1 ≤ rows) (hr2 : rows ≤ 5) (hs1 : 1 ≤ size) (hs2 : size ≤ 5) (hA : Cells w A n (fun i => .float .f32 (f i))) :
    Calls Try.prog 57 #[.slice A n c, .int .i64 rows, .int .i64 size] w fun e w' => e = .returned (.bool (chancesB f n rows size)) ∧ Below w.heap.size w w' := by
  have HA := Lib.hid hA
  clear hA
  have hm : ((rows : Int) * size) = ((rows * size : Nat) : Int) := (Int.natCast_mul rows size).symm
  have hmb : rows * size ≤ 25 := Nat.mul_le_mul hr2 hs2
  have hwm : IntKind.i64.wrap ((rows : Int) * size) = ((rows * size : Nat) : Int) := by rw [hm, IntKind.wrap_i64]; omega
  clear hm
  by_cases h0 : n = rows * size
  · have HNO := Lib.hid (fun k (hk : k < n) (h : shareB (f k) = false) => show chancesB f n rows size = false from chances_not fun q => by rw [q.2.1 k hk] at h; cases h)
    have HNR := Lib.hid (fun r (hr : r < rows) (h : nearB (sumF (fun j => f (r * size + j)) size) = false) => show chancesB f n rows size = false from chances_not fun q => by rw [q.2.2 r hr] at h; cases h)
    have HYES := Lib.hid (fun (h : ∀ i, i < n → shareB (f i) = true) (k : ∀ r, r < rows → nearB (sumF (fun j => f (r * size + j)) size) = true) => show chancesB f n rows size = true from chances_iff.2 ⟨h0, h, k⟩)
    have HN := Lib.hid h0
    have hwn : IntKind.i64.wrap ((rows : Int) * size) = (n : Int) := by rw [hwm, ← h0]
    generalize chancesB f n rows size = r0 at *
    clear h0 hwm
    go_enter Try.func57, Try.ntmps57
    go_wp2_with fail
    go_loop [8, 18] (fun _ i => ∃ k : Nat, k ≤ n ∧ i = .int .i64 k ∧ Hid (∀ j, j < k → shareB (f j) = true)) (fun _ i => n - (intOf i).toNat)
    case atStart => exact ⟨0, Nat.zero_le _, rfl, fun j hj => by omega⟩
    case round =>
      obtain ⟨k, hk, rfl, HS⟩ := hrel
      by_cases hlt : k < n
      · have d1 : (k : Int) < n := by omega
        obtain ⟨x, rfl, hx0⟩ := HA.out k hlt
        have hx : w.cell? (x.add k) = some (.float .f32 (f k)) := hx0
        clear hx0
        cases hs : shareB (f k)
        · have HR := Lib.hid (HNO.out k hlt hs)
          have HC := Lib.hid (isShare_is hs)
          clear hs
          generalize f k = u at *
          go_wp2_with fail
          refine (HC.out _).mono ?_
          rintro e w' ⟨rfl, rfl⟩
          go_wp2_with fail
          go_ret
          exact ⟨ret_bool HR.out.symm, Below.refl _ _⟩
        · have HC := Lib.hid (isShare_is hs)
          have HNx := Lib.hid (show ∀ j, j < k + 1 → shareB (f j) = true from fun j hj => by
            rcases Nat.lt_or_ge j k with h | h
            · exact HS.out j h
            · have : j = k := by omega
              subst this
              exact hs)
          clear hs
          generalize f k = u at *
          go_wp2_with fail
          refine (HC.out _).mono ?_
          rintro e w' ⟨rfl, rfl⟩
          go_wp2_with fail
          go_round
          case rel => exact ⟨k + 1, by omega, by go_num, HNx.out⟩
          case measure => simp [intOf]; omega
      · have d1 : ¬ (k : Int) < n := by omega
        have e : k = n := by omega
        subst e
        obtain ⟨x, rfl, -⟩ := HA.out 0 (by have := HN.out; have := Nat.mul_le_mul hr1 hs1; omega)
        go_wp2_with fail
        go_loopw [9, 27] (fun _ i wr => ∃ r : Nat, r ≤ rows ∧ i = .int .i64 r ∧ Hid (Below w.heap.size w wr) ∧ Hid (∀ j, j < r → nearB (sumF (fun i => f (j * size + i)) size) = true)) (fun _ i _ => rows - (intOf i).toNat)
        case atStart => exact ⟨0, Nat.zero_le _, rfl, Below.refl _ _, fun j hj => by omega⟩
        case round =>
          obtain ⟨r, hr, rfl, HB, HP⟩ := hrel
          by_cases hlt : r < rows
          · have d2 : (r : Int) < rows := by omega
            have hpk : r * size + size ≤ k := by
              rw [HN.out, ← Nat.succ_mul]
              exact Nat.mul_le_mul_right _ hlt
            have HRow := Lib.hid (fun W => rowOf_any x k c r size W (by omega) hs1 (by omega))
            have HCell := Lib.hid (fun W (h : Below w.heap.size w W) => Cells.part (HA.out.below h) hpk)
            have hsh : ∀ i, i < size → S 149 (f (r * size + i)) := fun i hi => (share_S (HS.out _ (by omega))).1
            have hsum := sumF_S hsh (by omega) size (Nat.le_refl _)
            have hsub := sub32_ok hsum S_one (by omega)
            have HSum := Lib.hid (fun W h => sumOfRow_any (some (x.add (r * size))) size size (fun j => f (r * size + j)) W (by omega) h (fun j hj => sumF_ok hsh (by omega) hj))
            have HDist := Lib.hid (fun W => distance_any (sumF (fun j => f (r * size + j)) size) one32 _ W hsub.1 hsub.2 (by omega) (sub32_lt hsub.1))
            have HNear := Lib.hid (near_abs ⟨_, by omega, hsub.2⟩)
            have HNo := Lib.hid (HNR.out r hlt)
            have HYs := Lib.hid (show nearB (sumF (fun i => f (r * size + i)) size) = true → ∀ j, j < r + 1 → nearB (sumF (fun i => f (j * size + i)) size) = true from fun e j hj => by
              rcases Nat.lt_or_ge j r with h | h
              · exact HP.out j h
              · have : j = r := by omega
                subst this
                exact e)
            clear hsh hsum hsub hpk
            generalize sumF (fun j => f (r * size + j)) size = sm at *
            rw [show one32 = 1065353216 from rfl] at HDist HNear
            generalize hdd : abs32 (sub32 sm 1065353216) = dd at *
            clear hdd
            go_wp2_with fail
            refine (HRow.out _).mono ?_
            rintro e w2 ⟨rfl, rfl⟩
            go_wp2_with fail
            refine (HSum.out _ (HCell.out _ HB.out)).mono ?_
            rintro e w3 ⟨rfl, hb⟩
            have N3 := Lib.hid (HB.out.trans (hb.mono HB.out.size))
            clear hb
            go_wp2_with fail
            refine (HDist.out _).mono ?_
            rintro e w4 ⟨rfl, rfl⟩
            cases hnb : nearB sm
            · have hq : (FloatKind.f32.format.order dd 981668463 == some .lt || FloatKind.f32.format.order dd 981668463 == some .eq) = false := HNear.out.trans hnb
              have HF := Lib.hid (HNo.out hnb)
              clear hnb
              go_wp2_with fail
              go_ret
              exact ⟨ret_bool HF.out.symm, N3.out⟩
            · have hq : (FloatKind.f32.format.order dd 981668463 == some .lt || FloatKind.f32.format.order dd 981668463 == some .eq) = true := HNear.out.trans hnb
              have HF := Lib.hid (HYs.out hnb)
              clear hnb
              go_wp2_with fail
              exact ⟨⟨r + 1, by omega, by simp, N3.out, HF.out⟩, by simp [intOf]; omega⟩
          · have d2 : ¬ (r : Int) < rows := by omega
            have e : r = rows := by omega
            subst e
            have HF := Lib.hid (HYES.out HS.out HP.out)
            go_wp2_with fail
            go_ret
            exact ⟨ret_bool HF.out.symm, HB.out⟩
  · have HR := Lib.hid (show chancesB f n rows size = false from chances_not fun q => h0 q.1)
    have d0 : ((n : Int) != ((rows * size : Nat) : Int)) = true := by simp; omega
    go_enter Try.func57, Try.ntmps57
    go_wp2_with fail
    go_ret
    exact ⟨ret_bool HR.out.symm, Below.refl _ _⟩
end Go.Proofs.Ytikgnpajjbjkcaa
