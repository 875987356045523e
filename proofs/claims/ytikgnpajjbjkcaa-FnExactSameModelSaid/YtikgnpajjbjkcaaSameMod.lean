/- Models compared, on both sides. -/
import Derived.Test.YtikgnpajjbjkcaaHidI2
import Derived.Laws.StructEq
set_option linter.unusedVariables false
namespace Go.Proofs.Ytikgnpajjbjkcaa
open Go.RowKit

/-- Rows of the same numbers. -/
def sameRowB (f g : Nat → Nat) (n m : Nat) : Bool := decide (n = m) && (List.range n).all fun i => sameV (f i) (g i)
section
variable {f g : Nat → Nat} {n m k : Nat}
theorem sameRowB_iff : sameRowB f g n m = true ↔ n = m ∧ ∀ i, i < n → sameV (f i) (g i) = true := by
  unfold sameRowB
  simp [List.all_eq_true]
theorem sameRowB_len (h : ¬ n = m) : sameRowB f g n m = false := by unfold sameRowB; simp [h]
theorem sameRowB_at (hk : k < n) (h : sameV (f k) (g k) = false) : sameRowB f g n m = false := by
  cases e : sameRowB f g n m
  · rfl
  · rw [(sameRowB_iff.1 e).2 k hk] at h; cases h
end
theorem wf_of {x : Nat} (h : x < 4294967296) : (Lit.float .f32 x).wf = true := by simpa [Lit.wf] using h
theorem implSame2_any (a b : Nat) (w : World) (wa : (Lit.float .f32 a).wf = true) (wb : (Lit.float .f32 b).wf = true) : Calls Try.prog 61 #[.float .f32 a, .float .f32 b] w fun e w' => e = .returned (.bool (sameV a b)) ∧ ∃ n, w' = w.drewN n := by
  go_enter Try.func61, Try.ntmps61
  go_wp2_with fail
  refine (BitsOf_any a _ wa).mono ?_
  rintro e w' ⟨rfl, n, rfl⟩
  go_wp2_with fail
  refine (BitsOf_any b _ wb).mono ?_
  rintro e w' ⟨rfl, m, rfl⟩
  go_wp2_with fail
  go_ret
  exact ⟨rfl, _, rfl⟩

theorem l01SameAll_any (A B : Option Addr) (n m c d : Nat) (f g : Nat → Nat) (w : World) (hn : n ≤ 1048576) (hm : m ≤ 1048576) (wf : ∀ i, f i < 4294967296) (wg : ∀ i, g i < 4294967296) (hf : Cells w A n (fun i => .float .f32 (f i))) (hg : Cells w B m (fun i => .float .f32 (g i))) :
    Calls Try.prog 58 #[.slice A n c, .slice B m d] w fun e w' => e = .returned (.bool (sameRowB f g n m)) ∧ ∃ q, w' = w.drewN q := by
  by_cases hl : n = m
  · subst hl
    have HF := Lib.hid hf
    have HG := Lib.hid hg
    have HS := Lib.hid (fun k W => l01Same_any (f k) (g k) W (wf_of (wf k)) (wf_of (wg k)))
    have HK := Lib.hid (fun k (hk : k < n) h => sameRowB_at (f := f) (g := g) (m := n) hk h)
    have HV := Lib.hid (show (∀ i, i < n → sameV (f i) (g i) = true) → sameRowB f g n n = true from fun h => sameRowB_iff.2 ⟨rfl, h⟩)
    clear hf hg wf wg
    generalize sameRowB f g n n = r at *
    go_enter Try.func58, Try.ntmps58
    go_wp2_with fail
    go_loopw [5] (fun i wr => ∃ k q : Nat, k ≤ n ∧ i = .int .i64 k ∧ Hid (wr = w.drewN q) ∧ Hid (∀ j, j < k → sameV (f j) (g j) = true)) (fun i _ => n - (intOf i).toNat)
    case atStart => exact ⟨0, 0, Nat.zero_le _, rfl, rfl, fun j hj => by omega⟩
    case round =>
      obtain ⟨k, q, hk, rfl, hw, HA⟩ := hrel
      by_cases hlt : k < n
      · have d1 : (k : Int) < n := by omega
        obtain ⟨x, rfl, hx0⟩ := HF.out k hlt
        obtain ⟨y, rfl, hy0⟩ := HG.out k hlt
        have hx : wr.cell? (x.add k) = some (.float .f32 (f k)) := by rw [hw.out]; exact hx0
        have hy : wr.cell? (y.add k) = some (.float .f32 (g k)) := by rw [hw.out]; exact hy0
        have HN := Lib.hid (HK.out k hlt)
        have HSt := Lib.hid (show sameV (f k) (g k) = true → ∀ j, j < k + 1 → sameV (f j) (g j) = true from fun e j hj => by
          rcases Nat.lt_or_ge j k with h | h
          · exact HA.out j h
          · have : j = k := by omega
            subst this
            exact e)
        have HSk := Lib.hid (HS.out k)
        clear hx0 hy0
        generalize sameV (f k) (g k) = b at *
        generalize f k = u at *
        generalize g k = v at *
        cases b
        · have HR := Lib.hid (HN.out rfl)
          go_wp2_with fail
          go_quiet ((go_at_call 104; exact Calls.quiet_of_same ((HSk.out _).mono fun e w' h => ⟨h.1, h.2.symm⟩)))
          go_wp2_with fail
          go_ret
          exact ⟨ret_bool HR.out.symm, by rw [hw.out]; exact ⟨_, World.drewN_drewN ..⟩⟩
        · have HR := Lib.hid (HSt.out rfl)
          go_wp2_with fail
          go_quiet ((go_at_call 104; exact Calls.quiet_of_same ((HSk.out _).mono fun e w' h => ⟨h.1, h.2.symm⟩)))
          go_wp2_with fail
          exact ⟨⟨k + 1, q + nq, by omega, by simp, by rw [hw.out]; exact World.drewN_drewN .., HR.out⟩, by simp [intOf]; omega⟩
      · have d1 : ¬ (k : Int) < n := by omega
        obtain rfl : n = k := by omega
        have HR := Lib.hid (HV.out HA.out)
        go_wp2_with fail
        go_ret
        exact ⟨ret_bool HR.out.symm, ⟨q, hw.out⟩⟩
  · have HR := Lib.hid (sameRowB_len (f := f) (g := g) hl)
    have d0 : ((n : Int) != (m : Int)) = true := by simp; omega
    clear hf hg
    go_enter Try.func58, Try.ntmps58
    go_wp2_with fail
    go_ret
    exact ⟨ret_bool HR.out.symm, ⟨0, rfl⟩⟩

theorem equalFunc_any (A B : Option Addr) (n m c d : Nat) (f g : Nat → Nat) (w : World) (hn : n ≤ 1048576) (hm : m ≤ 1048576) (wf : ∀ i, f i < 4294967296) (wg : ∀ i, g i < 4294967296) (hf : Cells w A n (fun i => .float .f32 (f i))) (hg : Cells w B m (fun i => .float .f32 (g i))) :
    Calls Try.prog 60 #[.slice A n c, .slice B m d, .func (.func 61) #[] #[]] w fun e w' => e = .returned (.bool (sameRowB f g n m)) ∧ ∃ q, w' = w.drewN q := by
  by_cases hl : n = m
  · subst hl
    have HF := Lib.hid hf
    have HG := Lib.hid hg
    have HS := Lib.hid (fun k W => implSame2_any (f k) (g k) W (wf_of (wf k)) (wf_of (wg k)))
    have HK := Lib.hid (fun k (hk : k < n) h => sameRowB_at (f := f) (g := g) (m := n) hk h)
    have HV := Lib.hid (show (∀ i, i < n → sameV (f i) (g i) = true) → sameRowB f g n n = true from fun h => sameRowB_iff.2 ⟨rfl, h⟩)
    clear hf hg wf wg
    generalize sameRowB f g n n = r at *
    go_enter Try.func60, Try.ntmps60
    go_wp2_with fail
    go_loopw [7, 8, 9, 17] (fun _ _ _ i wr => ∃ k q : Nat, k ≤ n ∧ i = .int .i64 k ∧ Hid (wr = w.drewN q) ∧ Hid (∀ j, j < k → sameV (f j) (g j) = true)) (fun _ _ _ i _ => n - (intOf i).toNat)
    case atStart => exact ⟨0, 0, Nat.zero_le _, rfl, rfl, fun j hj => by omega⟩
    case round =>
      obtain ⟨k, q, hk, rfl, hw, HA⟩ := hrel
      by_cases hlt : k < n
      · have d1 : (k : Int) < n := by omega
        obtain ⟨x, rfl, hx0⟩ := HF.out k hlt
        obtain ⟨y, rfl, hy0⟩ := HG.out k hlt
        have hx : wr.cell? (x.add k) = some (.float .f32 (f k)) := by rw [hw.out]; exact hx0
        have hy : wr.cell? (y.add k) = some (.float .f32 (g k)) := by rw [hw.out]; exact hy0
        have HN := Lib.hid (HK.out k hlt)
        have HSt := Lib.hid (show sameV (f k) (g k) = true → ∀ j, j < k + 1 → sameV (f j) (g j) = true from fun e j hj => by
          rcases Nat.lt_or_ge j k with h | h
          · exact HA.out j h
          · have : j = k := by omega
            subst this
            exact e)
        have HSk := Lib.hid (HS.out k)
        clear hx0 hy0
        generalize sameV (f k) (g k) = b at *
        generalize f k = u at *
        generalize g k = v at *
        cases b
        · have HR := Lib.hid (HN.out rfl)
          go_wp2_with fail
          refine (HSk.out _).mono ?_
          rintro e w2 ⟨rfl, t, rfl⟩
          go_wp2_with fail
          go_ret
          exact ⟨ret_bool HR.out.symm, by rw [hw.out]; exact ⟨_, World.drewN_drewN ..⟩⟩
        · have HR := Lib.hid (HSt.out rfl)
          go_wp2_with fail
          refine (HSk.out _).mono ?_
          rintro e w2 ⟨rfl, t, rfl⟩
          go_wp2_with fail
          exact ⟨⟨k + 1, q + t, by omega, by simp, by rw [hw.out]; exact World.drewN_drewN .., HR.out⟩, by simp [intOf]; omega⟩
      · have d1 : ¬ (k : Int) < n := by omega
        obtain rfl : n = k := by omega
        have HR := Lib.hid (HV.out HA.out)
        go_wp2_with fail
        go_ret
        exact ⟨ret_bool HR.out.symm, ⟨q, hw.out⟩⟩
  · have HR := Lib.hid (sameRowB_len (f := f) (g := g) hl)
    have d0 : ((n : Int) != (m : Int)) = true := by simp; omega
    clear hf hg
    go_enter Try.func60, Try.ntmps60
    go_wp2_with fail
    go_ret
    exact ⟨ret_bool HR.out.symm, ⟨0, rfl⟩⟩
theorem same1_any (A B : Option Addr) (n m c d : Nat) (f g : Nat → Nat) (w : World) (hn : n ≤ 1048576) (hm : m ≤ 1048576) (wf : ∀ i, f i < 4294967296) (wg : ∀ i, g i < 4294967296) (hf : Cells w A n (fun i => .float .f32 (f i))) (hg : Cells w B m (fun i => .float .f32 (g i))) :
    Calls Try.prog 59 #[.slice A n c, .slice B m d] w fun e w' => e = .returned (.bool (sameRowB f g n m)) ∧ ∃ q, w' = w.drewN q := by
  have HE := Lib.hid (equalFunc_any A B n m c d f g w hn hm wf wg hf hg)
  clear hf hg wf wg
  generalize sameRowB f g n m = r at *
  go_enter Try.func59, Try.ntmps59
  go_wp2_with fail
  refine HE.out.mono ?_
  rintro e w2 ⟨rfl, t, rfl⟩
  go_wp2_with fail
  go_ret
  exact ⟨rfl, _, rfl⟩

def sameModB (s s' l l' : Int) (f f' g g' h h' : Nat → Nat) (n n' m m' o o' : Nat) : Bool := (decide (s = s') && decide (l = l')) && (sameRowB f f' n n' && (sameRowB g g' m m' && sameRowB h h' o o'))
set_option maxRecDepth 20000 in
set_option maxHeartbeats 4000000 in
theorem specSameModel_any
  (s l : Int) (A B C : Option Addr) (n c m d o q : Nat) (f g h : Nat → Nat) (s' l' : Int) (A' B' C' : Option Addr) (n' c' m' d' o' q' : Nat) (f' g' h' : Nat → Nat) (w : World)
  (hn : n ≤ 1048576) (hm : m ≤ 1048576) (ho : o ≤ 1048576) (hc : n ≤ c ∧ c ≤ 1048576) (hd : m ≤ d ∧ d ≤ 1048576) (hq : o ≤ q ∧ q ≤ 1048576) (wf : ∀ i, f i < 4294967296) (wg : ∀ i, g i < 4294967296) (wh : ∀ i, h i < 4294967296) (hA : Cells w A n (fun i => .float .f32 (f i))) (hB : Cells w B m (fun i => .float .f32 (g i))) (hC : Cells w C o (fun i => .float .f32 (h i)))
  (hn' : n' ≤ 1048576) (hm' : m' ≤ 1048576) (ho' : o' ≤ 1048576) (hc' : n' ≤ c' ∧ c' ≤ 1048576) (hd' : m' ≤ d' ∧ d' ≤ 1048576) (hq' : o' ≤ q' ∧ q' ≤ 1048576) (wf' : ∀ i, f' i < 4294967296) (wg' : ∀ i, g' i < 4294967296) (wh' : ∀ i, h' i < 4294967296) (hA' : Cells w A' n' (fun i => .float .f32 (f' i))) (hB' : Cells w B' m' (fun i => .float .f32 (g' i))) (hC' : Cells w C' o' (fun i => .float .f32 (h' i)))
  : Calls Try.prog 20 #[.agg #[.int .i64 s, .int .i64 l, .slice A n c, .slice B m d, .slice C o q], .agg #[.int .i64 s', .int .i64 l', .slice A' n' c', .slice B' m' d', .slice C' o' q']] w fun e w' => e = .returned (.bool (sameModB s s' l l' f f' g g' h h' n n' m m' o o')) ∧ Below w.heap.size w w' := by
  have H1 := Lib.hid (fun W t1 t2 => l01SameAll_any A A' n n' c c' f f' W hn hn' wf wf' t1 t2)
  have H2 := Lib.hid (fun W t1 t2 => l01SameAll_any B B' m m' d d' g g' W hm hm' wg wg' t1 t2)
  have H3 := Lib.hid (fun W t1 t2 => l01SameAll_any C C' o o' q q' h h' W ho ho' wh wh' t1 t2)
  have HA := Lib.hid hA
  have HB := Lib.hid hB
  have HC := Lib.hid hC
  have HA' := Lib.hid hA'
  have HB' := Lib.hid hB'
  have HC' := Lib.hid hC'
  have HU := Lib.hid (show sameModB s s' l l' f f' g g' h h' n n' m m' o o' = ((decide (s = s') && decide (l = l')) && (sameRowB f f' n n' && (sameRowB g g' m m' && sameRowB h h' o o'))) from rfl)
  clear hA hB hC hA' hB' hC' wf wg wh wf' wg' wh' hc hd hq hc' hd' hq'
  generalize sameModB s s' l l' f f' g g' h h' n n' m m' o o' = r at *
  generalize sameRowB f f' n n' = r1 at *
  generalize sameRowB g g' m m' = r2 at *
  generalize sameRowB h h' o o' = r3 at *
  by_cases e1 : s = s'
  · subst e1
    by_cases e2 : l = l'
    · subst e2
      go_enter Try.func20, Try.ntmps20
      go_wp2_with fail
      refine (H1.out _ (HA.out.below (by repeat (first | exact Below.refl _ _ | exact Hid.out (by assumption) | refine below_alloc ?_ _ | refine Below.setCell ?_ (by simp <;> omega) _ | refine Below.alloc ?_ (by simp <;> omega) _ | refine Below.drew ?_ | refine below_drewN ?_ _))) (HA'.out.below (by repeat (first | exact Below.refl _ _ | exact Hid.out (by assumption) | refine below_alloc ?_ _ | refine Below.setCell ?_ (by simp <;> omega) _ | refine Below.alloc ?_ (by simp <;> omega) _ | refine Below.drew ?_ | refine below_drewN ?_ _)))).mono ?_
      rintro e w' ⟨rfl, t, rfl⟩
      cases r1
      · go_wp2_with fail
        go_ret
        exact ⟨ret_bool (by rw [HU.out]; simp), (by repeat (first | exact Below.refl _ _ | exact Hid.out (by assumption) | refine below_alloc ?_ _ | refine Below.setCell ?_ (by simp <;> omega) _ | refine Below.alloc ?_ (by simp <;> omega) _ | refine Below.drew ?_ | refine below_drewN ?_ _))⟩
      · skip
        go_wp2_with fail
        refine (H2.out _ (HB.out.below (by repeat (first | exact Below.refl _ _ | exact Hid.out (by assumption) | refine below_alloc ?_ _ | refine Below.setCell ?_ (by simp <;> omega) _ | refine Below.alloc ?_ (by simp <;> omega) _ | refine Below.drew ?_ | refine below_drewN ?_ _))) (HB'.out.below (by repeat (first | exact Below.refl _ _ | exact Hid.out (by assumption) | refine below_alloc ?_ _ | refine Below.setCell ?_ (by simp <;> omega) _ | refine Below.alloc ?_ (by simp <;> omega) _ | refine Below.drew ?_ | refine below_drewN ?_ _)))).mono ?_
        rintro e w' ⟨rfl, t, rfl⟩
        cases r2
        · go_wp2_with fail
          go_ret
          exact ⟨ret_bool (by rw [HU.out]; simp), (by repeat (first | exact Below.refl _ _ | exact Hid.out (by assumption) | refine below_alloc ?_ _ | refine Below.setCell ?_ (by simp <;> omega) _ | refine Below.alloc ?_ (by simp <;> omega) _ | refine Below.drew ?_ | refine below_drewN ?_ _))⟩
        · skip
          go_wp2_with fail
          refine (H3.out _ (HC.out.below (by repeat (first | exact Below.refl _ _ | exact Hid.out (by assumption) | refine below_alloc ?_ _ | refine Below.setCell ?_ (by simp <;> omega) _ | refine Below.alloc ?_ (by simp <;> omega) _ | refine Below.drew ?_ | refine below_drewN ?_ _))) (HC'.out.below (by repeat (first | exact Below.refl _ _ | exact Hid.out (by assumption) | refine below_alloc ?_ _ | refine Below.setCell ?_ (by simp <;> omega) _ | refine Below.alloc ?_ (by simp <;> omega) _ | refine Below.drew ?_ | refine below_drewN ?_ _)))).mono ?_
          rintro e w' ⟨rfl, t, rfl⟩
          go_wp2_with fail
          go_ret
          exact ⟨ret_bool (by rw [HU.out]; simp), (by repeat (first | exact Below.refl _ _ | exact Hid.out (by assumption) | refine below_alloc ?_ _ | refine Below.setCell ?_ (by simp <;> omega) _ | refine Below.alloc ?_ (by simp <;> omega) _ | refine Below.drew ?_ | refine below_drewN ?_ _))⟩
    · have HF := Lib.hid (show r = false by rw [HU.out]; simp [e2])
      have b : (l == l') = false := by simpa using e2
      clear e2
      go_enter Try.func20, Try.ntmps20
      go_wp2_with fail
      go_ret
      exact ⟨ret_bool HF.out.symm, (by repeat (first | exact Below.refl _ _ | exact Hid.out (by assumption) | refine below_alloc ?_ _ | refine Below.setCell ?_ (by simp <;> omega) _ | refine Below.alloc ?_ (by simp <;> omega) _ | refine Below.drew ?_ | refine below_drewN ?_ _))⟩
  · have HF := Lib.hid (show r = false by rw [HU.out]; simp [e1])
    have b : (s == s') = false := by simpa using e1
    clear e1
    go_enter Try.func20, Try.ntmps20
    go_wp2_with fail
    go_ret
    exact ⟨ret_bool HF.out.symm, (by repeat (first | exact Below.refl _ _ | exact Hid.out (by assumption) | refine below_alloc ?_ _ | refine Below.setCell ?_ (by simp <;> omega) _ | refine Below.alloc ?_ (by simp <;> omega) _ | refine Below.drew ?_ | refine below_drewN ?_ _))⟩
end Go.Proofs.Ytikgnpajjbjkcaa
