/- Partners of calls and returns: the numbers, and both tests. -/
import Derived.Test.YteekpdpccobkkaaAreA
import Derived.Test.YteekpdpccobkkaaWordC
import Derived.Test.YteekpdpccobkkaaIRes
import Derived.Test.YteekpdpccobkkaaStep
import Derived.Test.YteekpdpccobkkaaClone
set_option linter.unusedVariables false
set_option linter.unusedSimpArgs false
namespace Go.Proofs.Yteekpdpccobkkaa
open Go.RowKit
/-- One letter more: the partners so far and the calls that are open. -/
def pstep (c : Int) (t : Nat) (s : List Int × List Nat) : List Int × List Nat :=
  if c = 1 then (s.1 ++ [-1], s.2 ++ [t])
  else if c = 2 then (match s.2.getLast? with
    | some x => (((s.1 ++ [-1]).set t (x : Int)).set x (t : Int), s.2.dropLast)
    | none => (s.1 ++ [-1], s.2))
  else (s.1 ++ [-1], s.2)
def pst (f g : Nat → Int) : Nat → List Int × List Nat
  | 0 => ([], [])
  | t + 1 => pstep (g (f t).toNat) t (pst f g t)
theorem pstep_len (c : Int) (t : Nat) (s : List Int × List Nat) (h : s.1.length = t) : (pstep c t s).1.length = t + 1 := by
  unfold pstep
  split
  · simp [h]
  · split
    · split <;> simp [h]
    · simp [h]
theorem pstep_lt (c : Int) (t : Nat) (s : List Int × List Nat) (h : ∀ x ∈ s.2, x < t) : ∀ x ∈ (pstep c t s).2, x < t + 1 := by
  unfold pstep
  split
  · intro x hx
    rcases List.mem_append.1 hx with hx | hx
    · have := h x hx
      omega
    · simp at hx
      omega
  · split
    · split
      · intro x hx
        have := h x (List.dropLast_subset _ hx)
        omega
      · intro x hx
        have := h x hx
        omega
    · intro x hx
      have := h x hx
      omega
theorem pst_ok (f g : Nat → Int) : ∀ t, (pst f g t).1.length = t ∧ (∀ x ∈ (pst f g t).2, x < t) ∧ (pst f g t).2.length ≤ t
  | 0 => ⟨rfl, (fun x hx => by simp [pst] at hx), Nat.le_refl _⟩
  | t + 1 => by
    obtain ⟨h1, h2, h3⟩ := pst_ok f g t
    refine ⟨pstep_len _ _ _ h1, pstep_lt _ _ _ h2, ?_⟩
    show (pstep _ t (pst f g t)).2.length ≤ t + 1
    unfold pstep
    split
    · simp; omega
    · split
      · split
        · simp; omega
        · show (pst f g t).2.length ≤ t + 1
          omega
      · show (pst f g t).2.length ≤ t + 1
        omega
/-- Kinds, and a word of their letters. -/
def kindB (z : Int) : Bool := inB z 0 2
def partOk (n : Nat) (f : Nat → Int) (m : Nat) (g : Nat → Int) : Bool := allP kindB g m && (inB m 1 4 && wordB f n ((m : Int) - 1))
def partN (n : Nat) (f : Nat → Int) (m : Nat) (g : Nat → Int) : Nat := ifN (partOk n f m g) n
def partF (n : Nat) (f g : Nat → Int) (i : Nat) : Int := (pst f g n).1.getD i 0
theorem partOk_facts {n : Nat} {f : Nat → Int} {m : Nat} {g : Nat → Int} (h : partOk n f m g = true) : 1 ≤ m ∧ m ≤ 4 ∧ n ≤ 12 ∧ ∀ i, i < n → 0 ≤ f i ∧ (f i).toNat < m := by
  unfold partOk at h
  rw [Bool.and_eq_true, Bool.and_eq_true] at h
  obtain ⟨-, h2, h3⟩ := h
  have h4 := inB_iff.1 h2
  have h5 := wordB_iff.1 h3
  refine ⟨by omega, by omega, h5.2, fun i hi => ?_⟩
  have := h5.1 i hi
  omega
/-- Open calls as values. -/
def valsN (L : List Nat) : List Value := L.map fun (x : Nat) => Value.int .i64 (x : Int)
theorem valsN_add (L : List Nat) (x : Nat) : valsN L ++ listV (1 * 1) (fun _ => .int .i64 (x : Int)) = valsN (L ++ [x]) := by unfold valsN listV; simp
theorem valsI_set (L : List Int) (i : Nat) (x : Int) : (valsI L).set i (.int .i64 x) = valsI (L.set i x) := by unfold valsI; simp
theorem own_form {w : World} {base : Nat} {e : TypeId} {v : Value} {n : Nat} {xs : List Value} (h : w.ownsRow base e 1 v (n + 1) xs) : ∃ g c, v = .slice (some ⟨g, 0, none⟩) (n + 1) c ∧ base ≤ g ∧ g < w.heap.size := by
  rcases h.2 with ⟨-, h0⟩ | ⟨g, cap, cur, hv, hb, hh, -⟩
  · exact absurd h0 (by omega)
  · exact ⟨g, cap, hv, hb, (Array.getElem?_eq_some_iff.1 hh).1⟩
set_option maxRecDepth 20000 in
set_option maxHeartbeats 4000000 in
theorem l07Kinds_any (A : Option Addr) (n c : Nat) (f : Nat → Int) (B : Option Addr) (m d : Nat) (g : Nat → Int) (w : World) (hn : n ≤ 1048576) (hm : m ≤ 1048576) (hA : Cells w A n (fun i => .int .i64 (f i))) (hB : Cells w B m (fun i => .int .i64 (g i))) :
    Calls Try.prog 86 #[.slice A n c, .slice B m d] w fun e w' => e = .returned (.bool (partOk n f m g)) ∧ w = w' := by
  have HU := Lib.hid (show partOk n f m g = (allP kindB g m && (inB m 1 4 && wordB f n ((m : Int) - 1))) from rfl)
  have HNO := Lib.hid (show ∀ k, k < m → inB (g k) 0 2 = false → allP kindB g m = false from fun k hk h => allP_no hk h)
  have HYES := Lib.hid (show (∀ k, k < m → inB (g k) 0 2 = true) → allP kindB g m = true from fun h => allP_iff.2 h)
  have HB := Lib.hid hB
  have HW := Lib.hid (fun h1 h2 => l02Word_any A n c f (m : Int) w (by omega) hA h1 h2)
  have HIN := Lib.hid (fun W => l00In_any (m : Int) 1 4 W)
  have HII := Lib.hid (show inB (m : Int) 1 4 = true → 1 ≤ (m : Int) ∧ (m : Int) ≤ 4 from fun h => inB_iff.1 h)
  clear hA hB
  generalize partOk n f m g = r at *
  generalize allP kindB g m = r0 at *
  generalize wordB f n ((m : Int) - 1) = r2 at *
  go_enter Try.func86, Try.ntmps86
  go_wp2_with fail
  go_loop [9] (fun iv => ∃ k : Nat, k ≤ m ∧ iv = .int .i64 k ∧ Hid (∀ j, j < k → inB (g j) 0 2 = true)) (fun iv => m - (intOf iv).toNat)
  case atStart => exact ⟨0, Nat.zero_le _, rfl, fun j hj => by omega⟩
  case round =>
    obtain ⟨k, hk, rfl, HP⟩ := hrel
    by_cases hlt : k < m
    · have d1 : (k : Int) < m := by omega
      obtain ⟨x, rfl, hx0⟩ := HB.out k hlt
      have hx : w.cell? (x.add k) = some (.int .i64 (g k)) := hx0
      have HNk := Lib.hid (HNO.out k hlt)
      have HPk := Lib.hid (show inB (g k) 0 2 = true → ∀ j, j < k + 1 → inB (g j) 0 2 = true from fun e j hj => by
        rcases Nat.lt_or_ge j k with h | h
        · exact HP.out j h
        · have : j = k := by omega
          subst this
          exact e)
      clear hx0 HP HNO HYES
      generalize g k = z at *
      have H0 := Lib.hid (fun W => l00In_any z 0 2 W)
      cases hz : inB z 0 2
      · rw [hz] at H0
        have HF := Lib.hid (show r = false by rw [HU.out, HNk.out hz]; rfl)
        clear hz HNk HPk
        go_wp2_with fail
        refine (H0.out _).mono ?_
        rintro e w' ⟨rfl, rfl⟩
        go_wp2_with fail
        go_ret
        exact ⟨ret_bool HF.out.symm, rfl⟩
      · rw [hz] at H0
        have HT := Lib.hid (HPk.out hz)
        clear hz HNk HPk
        go_wp2_with fail
        refine (H0.out _).mono ?_
        rintro e w' ⟨rfl, rfl⟩
        go_wp2_with fail
        go_round
        case rel => exact ⟨k + 1, by omega, by go_num, HT⟩
        case measure => simp [intOf]; omega
    · have d1 : ¬ (k : Int) < m := by omega
      obtain rfl : m = k := by omega
      have HR := Lib.hid (show r = (inB (m : Int) 1 4 && r2) by rw [HU.out, HYES.out HP.out]; rfl)
      clear HP HU HNO HYES
      generalize inB (m : Int) 1 4 = r1 at *
      cases r1
      · go_wp2_with fail
        refine (HIN.out _).mono ?_
        rintro e w' ⟨rfl, rfl⟩
        go_wp2_with fail
        go_ret
        exact ⟨ret_bool (by rw [HR.out]; rfl), rfl⟩
      · obtain ⟨i1, i2⟩ := HII.out rfl
        have HWW := Lib.hid (HW.out i1 i2)
        go_wp2_with fail
        refine (HIN.out _).mono ?_
        rintro e w' ⟨rfl, rfl⟩
        go_wp2_with fail
        refine HWW.out.mono ?_
        rintro e w' ⟨rfl, rfl⟩
        go_wp2_with fail
        go_ret
        exact ⟨ret_bool (by rw [HR.out]; rfl), rfl⟩
end Go.Proofs.Yteekpdpccobkkaa
