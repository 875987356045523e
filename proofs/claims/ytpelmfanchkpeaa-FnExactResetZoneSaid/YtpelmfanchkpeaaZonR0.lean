/- A clock that is reset: the change of a zone's bounds. -/
import Derived.Test.YtpelmfanchkpeaaZonM
set_option linter.unusedVariables false
set_option linter.unusedSimpArgs false
namespace Go.Proofs.Ytpelmfanchkpeaa
open Go.RowKit
/-- The bound k of the row of c becomes that of the first row. -/
def rowR (M c k : Nat) (f : Nat → Int) (p : Nat) : Int := if p = c * M + k then f (0 * M + k) else f p
/-- The bound k of the column of c becomes that of the first column. -/
def colR (M c k : Nat) (f : Nat → Int) (p : Nat) : Int := if p = k * M + c then f (k * M + 0) else f p
def resetF (M c : Nat) (f : Nat → Int) : Nat → Nat → Int
  | 0 => f
  | k + 1 => colR M c k (rowR M c k (resetF M c f k))
theorem pos_inj {M i k j l : Nat} (hk : k < M) (hl : l < M) (h : i * M + k = j * M + l) : i = j ∧ k = l := by
  have h1 : (i * M + k) / M = i := by rw [Nat.mul_comm, Nat.mul_add_div (by omega), Nat.div_eq_of_lt hk, Nat.add_zero]
  have h2 : (j * M + l) / M = j := by rw [Nat.mul_comm, Nat.mul_add_div (by omega), Nat.div_eq_of_lt hl, Nat.add_zero]
  have e : i = j := by rw [← h1, ← h2, h]
  subst e
  exact ⟨rfl, by omega⟩
theorem rowR_at {M c k i j : Nat} {f : Nat → Int} (hk : k < M) (hj : j < M) : rowR M c k f (i * M + j) = if i = c ∧ j = k then f (0 * M + k) else f (i * M + j) := by
  unfold rowR
  by_cases h : i * M + j = c * M + k
  · rw [if_pos h, if_pos (pos_inj hj hk h)]
  · rw [if_neg h, if_neg (by rintro ⟨rfl, rfl⟩; exact h rfl)]
theorem colR_at {M c k i j : Nat} {f : Nat → Int} (hc : c < M) (hj : j < M) : colR M c k f (i * M + j) = if i = k ∧ j = c then f (k * M + 0) else f (i * M + j) := by
  unfold colR
  by_cases h : i * M + j = k * M + c
  · rw [if_pos h, if_pos (pos_inj hj hc h)]
  · rw [if_neg h, if_neg (by rintro ⟨rfl, rfl⟩; exact h rfl)]
/-- What stays. -/
structure ResetI (M c k : Nat) (f : Nat → Int) : Prop where
  ok : ∀ i j, i < M → j < M → okB (f (i * M + j)) = true
  mid : ∀ i, i < M → f (i * M + i) = 0
  row : ∀ j, j < M → f (0 * M + j) ≤ 0
  z1 : 0 < k → f (0 * M + c) = 0
  z2 : 0 < k → f (c * M + 0) = 0
theorem ResetI.step {M c k : Nat} {f : Nat → Int} (h : ResetI M c k f) (hc : c < M) (hc0 : 0 < c) (hk : k < M) : ResetI M c (k + 1) (colR M c k (rowR M c k f)) := by
  have hM : 0 < M := by omega
  have A : ∀ i j, i < M → j < M → colR M c k (rowR M c k f) (i * M + j) = if i = k ∧ j = c then (if k = c ∧ 0 = k then f (0 * M + k) else f (k * M + 0)) else if i = c ∧ j = k then f (0 * M + k) else f (i * M + j) := fun i j hi hj => by
    rw [colR_at hc hj, rowR_at hk hM, rowR_at hk hj]
  have hkc : ¬ (k = c ∧ 0 = k) := by omega
  have A2 : ∀ i j, i < M → j < M → colR M c k (rowR M c k f) (i * M + j) = if i = k ∧ j = c then f (k * M + 0) else if i = c ∧ j = k then f (0 * M + k) else f (i * M + j) := fun i j hi hj => by rw [A i j hi hj, if_neg hkc]
  have Z0 : f (0 * M + 0) = 0 := h.mid 0 hM
  refine ⟨fun i j hi hj => ?_, fun i hi => ?_, fun j hj => ?_, fun _ => ?_, fun _ => ?_⟩
  · rw [A2 i j hi hj]
    split
    · exact h.ok k 0 hk hM
    · split
      · exact h.ok 0 k hM hk
      · exact h.ok i j hi hj
  · rw [A2 i i hi hi]
    split
    · rename_i e
      obtain ⟨rfl, rfl⟩ := e
      exact h.z2 hc0
    · split
      · rename_i e
        obtain ⟨rfl, rfl⟩ := e
        exact h.z1 hc0
      · exact h.mid i hi
  · rw [A2 0 j hM hj]
    split
    · rename_i e
      rw [← e.1, Z0]
      exact Int.le_refl 0
    · split
      · rename_i e
        omega
      · exact h.row j hj
  · rw [A2 0 c hM hc]
    split
    · rename_i e
      rw [← e.1]
      exact Z0
    · split
      · rename_i e
        omega
      · rename_i e1 e2
        exact h.z1 (by omega)
  · rw [A2 c 0 hc hM]
    split
    · rename_i e
      omega
    · split
      · rename_i e
        rw [← e.2]
        exact Z0
      · rename_i e1 e2
        exact h.z2 (by omega)
theorem resetF_ok {M c : Nat} {f : Nat → Int} (h : okZ M (M * M) f = true) (hc : c < M) (hc0 : 0 < c) : ∀ k, k ≤ M → ResetI M c k (resetF M c f k)
  | 0, _ => by
    obtain ⟨-, a, b⟩ := okZ_iff.1 h
    exact ⟨fun i j hi hj => a _ (at_lt hi hj), fun i hi => (b i hi).1, fun j hj => by rw [Nat.zero_mul, Nat.zero_add]; exact (b j hj).2, fun q => absurd q (by omega), fun q => absurd q (by omega)⟩
  | k + 1, hk => (resetF_ok h hc hc0 k (by omega)).step hc hc0 (by omega)
theorem resetF_valid {M c : Nat} {f : Nat → Int} (h : okZ M (M * M) f = true) (hc : c < M) (hc0 : 0 < c) : okZ M (M * M) (resetF M c f M) = true ∧ resetF M c f M (c * M + c) = 0 := by
  have R := resetF_ok h hc hc0 M (Nat.le_refl _)
  refine ⟨okZ_yes (by omega) fun i hi k hk => zok_iff.2 ⟨R.ok i k hi hk, fun e => by subst e; exact R.mid i hi, fun e => by subst e; exact R.row k hk⟩, R.mid c hc⟩
theorem rowR_step (M c k : Nat) (f : Nat → Int) : (fun p => if p = c * M + k then Value.int .i64 (f (0 * M + k)) else .int .i64 (f p)) = fun p => .int .i64 (rowR M c k f p) := by
  funext p
  unfold rowR
  split <;> rfl
theorem colR_step (M c k : Nat) (f : Nat → Int) : (fun p => if p = k * M + c then Value.int .i64 (f (k * M + 0)) else .int .i64 (f p)) = fun p => .int .i64 (colR M c k f p) := by
  funext p
  unfold colR
  split <;> rfl
def resetG (s : Int) (c : Nat) (f : Nat → Int) : Nat → Int := resetF (s + 1).toNat c (tightG s f) (s + 1).toNat
def resetOk (s : Int) (n : Nat) (f : Nat → Int) (c : Int) : Bool := tightOk s n f && inB c 1 s
set_option maxRecDepth 20000 in
set_option maxHeartbeats 8000000 in
theorem reset_any (m : Nat) (T : Option Addr) (n c g cl : Nat) (F : Nat → Int) (w : World) (hm : m ≤ 4) (hc0 : 1 ≤ cl) (hc : cl ≤ m) (hn : n = (m + 1) * (m + 1)) (ho : OwnC w g T n (fun i => .int .i64 (F i))) :
    Calls Try.prog 74 #[.agg #[.int .i64 m, .slice T n c], .int .i64 cl] w fun e w' => e = .returned (.tuple #[]) ∧ OwnC w' g T n (fun p => .int .i64 (resetF (m + 1) cl F (m + 1) p)) ∧ Within g (g + 1) w w' := by
  have hn0 : 0 < n := by rw [hn]; exact Nat.mul_pos (by omega) (by omega)
  have hn25 : n ≤ 25 := by rw [hn]; exact (idx_wrap (m := m) (i := 0) (k := 0) hm (by omega) (by omega)).2.2.2.2
  have HQ := Lib.hid (show ∀ i k : Nat, i < m + 1 → k < m + 1 → i * (m + 1) + k < n from fun i k hi hk => by rw [hn]; exact at_lt hi hk)
  have hw1 : IntKind.i64.wrap ((m : Int) + 1) = ((m + 1 : Nat) : Int) := by rw [IntKind.wrap_i64]; omega
  have HM1 := Lib.hid (show ∀ k : Nat, k < m + 1 → (k : Int) < ((m + 1 : Nat) : Int) from fun k h => by omega)
  have HM2 := Lib.hid (show ∀ k : Nat, ¬ k < m + 1 → ¬ (k : Int) < ((m + 1 : Nat) : Int) from fun k h => by omega)
  obtain ⟨y, hTy, hyg, -, -⟩ := ho 0 hn0
  subst hTy
  have HO := Lib.hid ho
  have hgl : g < w.heap.size := ho.lt hn0
  have HBK := Lib.hid (show ∀ j, (y.add j).block = g from fun j => by rw [block_add, hyg])
  have HAT := Lib.hid (fun i k W (hi : i ≤ m) (hk : k ≤ m) => atZ_any m (some y) n c i k W hm hi hk)
  have HBD := Lib.hid (fun i k v W (hi : i ≤ m) (hk : k ≤ m) h => boundZ_any m (some y) n c i k v W hm hi hk (HQ.out i k (by omega) (by omega)) hn25 h)
  have X := Lib.hid (Box2.new w 41 (.int .i64 m) (.slice (some y) n c))
  have W0 := Lib.hid (show Within g (g + 1) w (w.alloc (.cells #[.int .i64 m, .slice (some y) n c] 41)) from Within.of_below ((Below.refl _ _).alloc (Nat.le_refl _) _))
  have O0 := Lib.hid (HO.out.below ((Below.refl _ _).alloc (Nat.le_refl _) (.cells #[.int .i64 m, .slice (some y) n c] 41)))
  clear ho hn hyg
  generalize hsm : ((m + 1 : Nat) : Int) = sm at *
  generalize hmi : (m : Int) = mi at *
  clear hsm hmi
  obtain ⟨x0, x1⟩ := X.out
  go_enter Try.func74, Try.ntmps74
  go_wp2_with fail
  go_loopw [8] (fun v wr => ∃ k : Nat, k ≤ m + 1 ∧ v = .int .i64 k ∧ Hid (Within g (g + 1) w wr) ∧ Hid (Box2 wr w.heap.size (.int .i64 mi) (.slice (some y) n c)) ∧ Hid (OwnC wr g (some y) n (fun p => .int .i64 (resetF (m + 1) cl F k p))) ∧ Hid (w.heap.size + 1 ≤ wr.heap.size)) (fun v _ => (m + 1) - (intOf v).toNat)
  case atStart => exact ⟨0, Nat.zero_le _, rfl, W0, X, O0, by unfold Hid; simp⟩
  case round =>
    obtain ⟨k, hk, rfl, HW0, BX, HP, HS0⟩ := hrel
    clear x0 x1
    obtain ⟨x0, x1⟩ := BX.out
    by_cases hkt : k < m + 1
    rotate_left
    · have d1 := HM2.out k hkt
      obtain rfl : k = m + 1 := by omega
      go_wp2_with fail
      go_end0
      exact ⟨rfl, HP.out, HW0.out⟩
    · have d1 := HM1.out k hkt
      have HAT1 := Lib.hid (fun W => HAT.out cl k W hc (by omega))
      have HAT2 := Lib.hid (fun W => HAT.out k cl W (by omega) hc)
      have HB1 := Lib.hid (fun W h => HBD.out 0 k (resetF (m + 1) cl F k (0 * (m + 1) + k)) W (by omega) (by omega) h)
      have HB2 := Lib.hid (fun W h => HBD.out k 0 (rowR (m + 1) cl k (resetF (m + 1) cl F k) (k * (m + 1) + 0)) W (by omega) (by omega) h)
      have HRS := Lib.hid (rowR_step (m + 1) cl k (resetF (m + 1) cl F k))
      have HCS := Lib.hid (show _ = fun p => Value.int .i64 (resetF (m + 1) cl F (k + 1) p) from colR_step (m + 1) cl k (rowR (m + 1) cl k (resetF (m + 1) cl F k)))
      have hq_pos1 := HQ.out cl k (by omega) hkt
      have hq_pos2 := HQ.out k cl hkt (by omega)
      have hq_vpos1 := HQ.out 0 k (by omega) hkt
      have hq_vpos2 := HQ.out k 0 hkt (by omega)
      rw [show ((0 : Nat) : Int) = 0 from rfl] at HB1 HB2
      generalize hv1 : resetF (m + 1) cl F k (0 * (m + 1) + k) = v1 at *
      generalize hv2 : rowR (m + 1) cl k (resetF (m + 1) cl F k) (k * (m + 1) + 0) = v2 at *
      have HV1 := Lib.hid hv1
      have HV2 := Lib.hid hv2
      have d3 : ((cl * (m + 1) + k : Nat) : Int) < n := by omega
      have d4 : ((k * (m + 1) + cl : Nat) : Int) < n := by omega
      generalize cl * (m + 1) + k = pos1 at *
      generalize k * (m + 1) + cl = pos2 at *
      have nc_pos1 := HBK.out pos1
      have nc_pos2 := HBK.out pos2
      have nb_pos1 : (y.add pos1).block ≠ w.heap.size := by rw [nc_pos1]; omega
      have nb_pos2 : (y.add pos2).block ≠ w.heap.size := by rw [nc_pos2]; omega
      clear hv1 hv2 HAT HBD HQ HM1 HM2 hw1
      go_wp2_with fail
      have HK_wx := Lib.hid (show ∀ U, Below wr.heap.size wr U → U.cell? ⟨w.heap.size, 0, none⟩ = some (.int .i64 mi) ∧ U.cell? ⟨w.heap.size, 1, none⟩ = some (.slice (some y) n c) from fun U hU => ⟨(BX.out.below hU).c0, (BX.out.below hU).c1⟩)
      have HK2_wx := Lib.hid (show ∀ U v, Below wr.heap.size wr U → (U.setCell (y.add pos1) v).cell? ⟨w.heap.size, 0, none⟩ = some (.int .i64 mi) ∧ (U.setCell (y.add pos1) v).cell? ⟨w.heap.size, 1, none⟩ = some (.slice (some y) n c) from fun U v hU => ⟨(World.cell?_setCell_other _ _ _ _ (fun e => nb_pos1 (by rw [e]))).trans (HK_wx.out U hU).1, (World.cell?_setCell_other _ _ _ _ (fun e => nb_pos1 (by rw [e]))).trans (HK_wx.out U hU).2⟩)
      have HFZ_wx := Lib.hid (show ∀ U, Below wr.heap.size wr U → U.frozen? (y.add pos1) = false ∧ ∃ u, U.cell? (y.add pos1) = some u from fun U hU => by
        obtain ⟨x, hx, -, h3, h4⟩ := (HP.out.below hU) _ hq_pos1
        cases hx
        exact ⟨h3, _, h4⟩)
      have HSET_wx := Lib.hid (fun U (hU : Below wr.heap.size wr U) => OwnC.set (HP.out.below hU) rfl hq_pos1 (.int .i64 v1))
      have HBB_wx := Lib.hid (fun U (hU : Below wr.heap.size wr U) => HB1.out U (by have hh := (HP.out.below hU).cells _ hq_vpos1; simp only [HV1.out] at hh; exact hh))
      go_wp2_with fail
      go_region_held3 (fun U => U.cell? ⟨w.heap.size, 0, none⟩ = some (.int .i64 mi) ∧ U.cell? ⟨w.heap.size, 1, none⟩ = some (.slice (some y) n c))
        (first | exact HK2_wx.out _ _ (by repeat (first | with_reducible exact Below.refl _ _ | exact Hid.out (by with_reducible assumption) | refine Below.setCell ?_ (by simp <;> omega) _ | refine below_alloc ?_ _ | refine Below.alloc ?_ (by simp <;> omega) _ | refine Below.drew ?_ | refine below_drewN ?_ _ | exact Below.refl _ _)) | exact HK_wx.out _ (by repeat (first | with_reducible exact Below.refl _ _ | exact Hid.out (by with_reducible assumption) | refine Below.setCell ?_ (by simp <;> omega) _ | refine below_alloc ?_ _ | refine Below.alloc ?_ (by simp <;> omega) _ | refine Below.drew ?_ | refine below_drewN ?_ _ | exact Below.refl _ _)))
        (first
          | (go_at_call 69; with_reducible refine (HAT1.out _).mono ?_; rintro e w5 ⟨rfl, hb⟩; have N5 := Lib.hid (show Below wr.heap.size wr w5 from Below.trans (by repeat (first | with_reducible exact Below.refl _ _ | exact Hid.out (by with_reducible assumption) | refine Below.setCell ?_ (by simp <;> omega) _ | refine below_alloc ?_ _ | refine Below.alloc ?_ (by simp <;> omega) _ | refine Below.drew ?_ | refine below_drewN ?_ _ | exact Below.refl _ _)) (hb.mono (by simp))); clear hb)
          | (go_at_call 64; with_reducible refine (HBB_wx.out _ ?hbel).mono ?_; (case hbel => exact (by repeat (first | with_reducible exact Below.refl _ _ | exact Hid.out (by with_reducible assumption) | refine Below.setCell ?_ (by simp <;> omega) _ | refine below_alloc ?_ _ | refine Below.alloc ?_ (by simp <;> omega) _ | refine Below.drew ?_ | refine below_drewN ?_ _ | exact Below.refl _ _))); rintro e w6 ⟨rfl, hb⟩; have N6 := Lib.hid (show Below wr.heap.size wr w6 from Below.trans (by repeat (first | with_reducible exact Below.refl _ _ | exact Hid.out (by with_reducible assumption) | refine Below.setCell ?_ (by simp <;> omega) _ | refine below_alloc ?_ _ | refine Below.alloc ?_ (by simp <;> omega) _ | refine Below.drew ?_ | refine below_drewN ?_ _ | exact Below.refl _ _)) (hb.mono (by have := N5.out.size; first | exact this | (simp; exact this)))); obtain ⟨f6, u6, c6⟩ := HFZ_wx.out _ N6.out; clear hb))
      all_goals (
        go_wp2_with fail
        obtain ⟨wx, hwx⟩ : ∃ U, U = w6.setCell (y.add pos1) (.int .i64 v1) := ⟨_, rfl⟩
        have HS0 := Lib.hid (show w.heap.size + 1 ≤ wx.heap.size by rw [hwx]; have := HS0.out; have := N6.out.size; simp; omega)
        have HP2 := Lib.hid (show OwnC wx g (some y) n (fun p => .int .i64 (rowR (m + 1) cl k (resetF (m + 1) cl F k) p)) by rw [hwx, ← HRS.out]; exact HSET_wx.out _ N6.out)
        have BX2 := Lib.hid (show Box2 wx w.heap.size (.int .i64 mi) (.slice (some y) n c) by rw [hwx]; exact (BX.out.below N6.out).within (Within.setCell (lo := g) (hi := g + 1) _ (by rw [nc_pos1]; exact Nat.le_refl _) (by rw [nc_pos1]; omega) _) (by omega))
        have HWX := Lib.hid (show Within g (g + 1) w wx by rw [hwx]; exact Within.trans HW0.out (Within.trans (Within.of_below N6.out) (Within.setCell _ (by rw [nc_pos1]; exact Nat.le_refl _) (by rw [nc_pos1]; omega) _)))
        rw [← hwx]
        clear hwx x0 x1 f6 c6 N5 N6 HSET_wx HFZ_wx HK2_wx HK_wx HBB_wx
        obtain ⟨x0, x1⟩ := BX2.out
        have HK_wy := Lib.hid (show ∀ U, Below wx.heap.size wx U → U.cell? ⟨w.heap.size, 0, none⟩ = some (.int .i64 mi) ∧ U.cell? ⟨w.heap.size, 1, none⟩ = some (.slice (some y) n c) from fun U hU => ⟨(BX2.out.below hU).c0, (BX2.out.below hU).c1⟩)
        have HK2_wy := Lib.hid (show ∀ U v, Below wx.heap.size wx U → (U.setCell (y.add pos2) v).cell? ⟨w.heap.size, 0, none⟩ = some (.int .i64 mi) ∧ (U.setCell (y.add pos2) v).cell? ⟨w.heap.size, 1, none⟩ = some (.slice (some y) n c) from fun U v hU => ⟨(World.cell?_setCell_other _ _ _ _ (fun e => nb_pos2 (by rw [e]))).trans (HK_wy.out U hU).1, (World.cell?_setCell_other _ _ _ _ (fun e => nb_pos2 (by rw [e]))).trans (HK_wy.out U hU).2⟩)
        have HFZ_wy := Lib.hid (show ∀ U, Below wx.heap.size wx U → U.frozen? (y.add pos2) = false ∧ ∃ u, U.cell? (y.add pos2) = some u from fun U hU => by
          obtain ⟨x, hx, -, h3, h4⟩ := (HP2.out.below hU) _ hq_pos2
          cases hx
          exact ⟨h3, _, h4⟩)
        have HSET_wy := Lib.hid (fun U (hU : Below wx.heap.size wx U) => OwnC.set (HP2.out.below hU) rfl hq_pos2 (.int .i64 v2))
        have HBB_wy := Lib.hid (fun U (hU : Below wx.heap.size wx U) => HB2.out U (by have hh := (HP2.out.below hU).cells _ hq_vpos2; simp only [HV2.out] at hh; exact hh))
        go_wp2_with fail
        go_region_held3 (fun U => U.cell? ⟨w.heap.size, 0, none⟩ = some (.int .i64 mi) ∧ U.cell? ⟨w.heap.size, 1, none⟩ = some (.slice (some y) n c))
          (first | exact HK2_wy.out _ _ (by repeat (first | with_reducible exact Below.refl _ _ | exact Hid.out (by with_reducible assumption) | refine Below.setCell ?_ (by simp <;> omega) _ | refine below_alloc ?_ _ | refine Below.alloc ?_ (by simp <;> omega) _ | refine Below.drew ?_ | refine below_drewN ?_ _ | exact Below.refl _ _)) | exact HK_wy.out _ (by repeat (first | with_reducible exact Below.refl _ _ | exact Hid.out (by with_reducible assumption) | refine Below.setCell ?_ (by simp <;> omega) _ | refine below_alloc ?_ _ | refine Below.alloc ?_ (by simp <;> omega) _ | refine Below.drew ?_ | refine below_drewN ?_ _ | exact Below.refl _ _)))
          (first
            | (go_at_call 69; with_reducible refine (HAT2.out _).mono ?_; rintro e w5 ⟨rfl, hb⟩; have N5 := Lib.hid (show Below wx.heap.size wx w5 from Below.trans (by repeat (first | with_reducible exact Below.refl _ _ | exact Hid.out (by with_reducible assumption) | refine Below.setCell ?_ (by simp <;> omega) _ | refine below_alloc ?_ _ | refine Below.alloc ?_ (by simp <;> omega) _ | refine Below.drew ?_ | refine below_drewN ?_ _ | exact Below.refl _ _)) (hb.mono (by simp))); clear hb)
            | (go_at_call 64; with_reducible refine (HBB_wy.out _ ?hbel).mono ?_; (case hbel => exact (by repeat (first | with_reducible exact Below.refl _ _ | exact Hid.out (by with_reducible assumption) | refine Below.setCell ?_ (by simp <;> omega) _ | refine below_alloc ?_ _ | refine Below.alloc ?_ (by simp <;> omega) _ | refine Below.drew ?_ | refine below_drewN ?_ _ | exact Below.refl _ _))); rintro e w6 ⟨rfl, hb⟩; have N6 := Lib.hid (show Below wx.heap.size wx w6 from Below.trans (by repeat (first | with_reducible exact Below.refl _ _ | exact Hid.out (by with_reducible assumption) | refine Below.setCell ?_ (by simp <;> omega) _ | refine below_alloc ?_ _ | refine Below.alloc ?_ (by simp <;> omega) _ | refine Below.drew ?_ | refine below_drewN ?_ _ | exact Below.refl _ _)) (hb.mono (by have := N5.out.size; first | exact this | (simp; exact this)))); obtain ⟨f6, u6, c6⟩ := HFZ_wy.out _ N6.out; clear hb))
        all_goals (
          go_wp2_with fail
          have hz5 := HS0.out
          have hz6 := N6.out.size
          have HO2 := Lib.hid (HSET_wy.out _ N6.out)
          rw [HCS.out] at HO2
          have HWI := Lib.hid (Within.trans HWX.out (Within.trans (Within.of_below N6.out) (Within.setCell _ (p := y.add pos2) (by rw [nc_pos2]; exact Nat.le_refl _) (by rw [nc_pos2]; omega) (.int .i64 v2))))
          exact ⟨⟨k + 1, by omega, by simp, HWI, (BX2.out.below N6.out).within (Within.setCell (lo := g) (hi := g + 1) _ (by rw [nc_pos2]; exact Nat.le_refl _) (by rw [nc_pos2]; omega) _) (by omega), HO2, (by unfold Hid; simp; omega)⟩, by simp [intOf]; omega⟩))
end Go.Proofs.Ytpelmfanchkpeaa
