/- Rows compared: the library's and the reference's. -/
import Derived.Test.YtfpombhhnojjhaaOwn
import Derived.Test.YtfpombhhnojjhaaCells
set_option linter.unusedVariables false
namespace Go.Proofs.Ytfpombhhnojjhaa
open Go.RowKit

/-- The first n of f are the first m of g. -/
def rowEqB {α : Type} [DecidableEq α] (f g : Nat → α) (n m : Nat) : Bool := decide (n = m) && (List.range n).all fun i => decide (f i = g i)
section
variable {α : Type} [DecidableEq α] {f g : Nat → α} {n m k : Nat}
theorem rowEqB_iff : rowEqB f g n m = true ↔ n = m ∧ ∀ i, i < n → f i = g i := by
  unfold rowEqB
  simp [List.all_eq_true]
theorem rowEqB_len (h : ¬ n = m) : rowEqB f g n m = false := by unfold rowEqB; simp [h]
theorem rowEqB_at (hk : k < n) (h : ¬ f k = g k) : rowEqB f g n m = false := by
  cases e : rowEqB f g n m
  · rfl
  · exact absurd ((rowEqB_iff.1 e).2 k hk) h
theorem rowEqB_refl : rowEqB f f n n = true := rowEqB_iff.2 ⟨rfl, fun _ _ => rfl⟩
end

theorem l02Equal_any (A B : Option Addr) (n m c d : Nat) (f g : Nat → Int) (w : World) (hn : n ≤ 4611686018427387904) (hm : m ≤ 4611686018427387904) (hf : Cells w A n (fun i => .int .i64 (f i))) (hg : Cells w B m (fun i => .int .i64 (g i))) :
    Calls Try.prog 160 #[.slice A n c, .slice B m d] w fun e w' => e = .returned (.bool (rowEqB f g n m)) ∧ ∃ q, w' = w.drewN q := by
  by_cases hl : n = m
  · subst hl
    have HK := Lib.hid (fun k (hk : k < n) h => rowEqB_at (f := f) (g := g) (m := n) hk h)
    have HV := Lib.hid (show (∀ i, i < n → f i = g i) → rowEqB f g n n = true from fun h => rowEqB_iff.2 ⟨rfl, h⟩)
    generalize rowEqB f g n n = r at *
    go_enter Try.func160, Try.ntmps160
    go_wp2_with fail
    go_loopw [5] (fun   r wr => ∃ k q : Nat, k ≤ n ∧ r = .int .i64 k ∧ Hid (wr = w.drewN q) ∧ Hid (∀ j, j < k → f j = g j)) (fun   r _ => n - (intOf r).toNat)
    case atStart => exact ⟨0, 0, Nat.zero_le _, rfl, rfl, fun j hj => by omega⟩
    case round =>
      obtain ⟨k, q, hk, rfl, hw, HA⟩ := hrel
      by_cases hlt : k < n
      · have d1 : (k : Int) < n := by omega
        obtain ⟨x, rfl, hx0⟩ := hf k hlt
        obtain ⟨y, rfl, hy0⟩ := hg k hlt
        have hx : wr.cell? (x.add k) = some (.int .i64 (f k)) := by rw [hw.out]; exact hx0
        have hy : wr.cell? (y.add k) = some (.int .i64 (g k)) := by rw [hw.out]; exact hy0
        have HN := Lib.hid (HK.out k hlt)
        have HS := Lib.hid (show f k = g k → ∀ j, j < k + 1 → f j = g j from fun e j hj => by
          rcases Nat.lt_or_ge j k with h | h
          · exact HA.out j h
          · have : j = k := by omega
            subst this
            exact e)
        clear hx0 hy0 hf hg HA HK HV
        generalize f k = u at *
        generalize g k = v at *
        by_cases e : u = v
        · have HQ := Lib.hid (HS.out e)
          subst e
          clear HN HS
          go_wp2_with fail
          go_quiet (fail)
          go_wp2_with fail
          exact ⟨⟨k + 1, q + nq, by omega, by simp, by rw [hw.out]; exact World.drewN_drewN .., HQ⟩, by simp [intOf]; omega⟩
        · have HQ := Lib.hid (HN.out e)
          have e2 : (u != v) = true := by simpa using e
          have e3 : (u == v) = false := by simpa using e
          clear HN HS
          go_wp2_with fail
          go_quiet (fail)
          go_wp2_with fail
          go_ret
          exact ⟨ret_bool HQ.out.symm, _, by rw [hw.out]; exact World.drewN_drewN ..⟩
      · have d1 : ¬ (k : Int) < n := by omega
        have e : k = n := by omega
        subst e
        have HR := Lib.hid (HV.out HA.out)
        clear HA HK HV hf hg
        go_wp2_with fail
        go_ret
        exact ⟨ret_bool HR.out.symm, _, hw.out⟩
  · have HR := Lib.hid (rowEqB_len (f := f) (g := g) hl)
    have d1 : ¬ (n : Int) = m := by omega
    clear hf hg
    go_enter Try.func160, Try.ntmps160
    go_wp2_with fail
    go_ret
    exact ⟨ret_bool HR.out.symm, 0, rfl⟩
theorem l00Same_any (A B : Option Addr) (n m c d : Nat) (f g : Nat → Int) (w : World) (hn : n ≤ 4611686018427387904) (hm : m ≤ 4611686018427387904) (hf : Cells w A n (fun i => .int .i64 (f i))) (hg : Cells w B m (fun i => .int .i64 (g i))) :
    Calls Try.prog 100 #[.slice A n c, .slice B m d] w fun e w' => e = .returned (.bool (rowEqB f g n m)) ∧ ∃ q, w' = w.drewN q := by
  by_cases hl : n = m
  · subst hl
    have HK := Lib.hid (fun k (hk : k < n) h => rowEqB_at (f := f) (g := g) (m := n) hk h)
    have HV := Lib.hid (show (∀ i, i < n → f i = g i) → rowEqB f g n n = true from fun h => rowEqB_iff.2 ⟨rfl, h⟩)
    generalize rowEqB f g n n = r at *
    go_enter Try.func100, Try.ntmps100
    go_wp2_with fail
    go_loopw [5] (fun   r wr => ∃ k q : Nat, k ≤ n ∧ r = .int .i64 k ∧ Hid (wr = w.drewN q) ∧ Hid (∀ j, j < k → f j = g j)) (fun   r _ => n - (intOf r).toNat)
    case atStart => exact ⟨0, 0, Nat.zero_le _, rfl, rfl, fun j hj => by omega⟩
    case round =>
      obtain ⟨k, q, hk, rfl, hw, HA⟩ := hrel
      by_cases hlt : k < n
      · have d1 : (k : Int) < n := by omega
        obtain ⟨x, rfl, hx0⟩ := hf k hlt
        obtain ⟨y, rfl, hy0⟩ := hg k hlt
        have hx : wr.cell? (x.add k) = some (.int .i64 (f k)) := by rw [hw.out]; exact hx0
        have hy : wr.cell? (y.add k) = some (.int .i64 (g k)) := by rw [hw.out]; exact hy0
        have HN := Lib.hid (HK.out k hlt)
        have HS := Lib.hid (show f k = g k → ∀ j, j < k + 1 → f j = g j from fun e j hj => by
          rcases Nat.lt_or_ge j k with h | h
          · exact HA.out j h
          · have : j = k := by omega
            subst this
            exact e)
        clear hx0 hy0 hf hg HA HK HV
        generalize f k = u at *
        generalize g k = v at *
        by_cases e : u = v
        · have HQ := Lib.hid (HS.out e)
          subst e
          clear HN HS
          go_wp2_with fail
          go_quiet (fail)
          go_wp2_with fail
          exact ⟨⟨k + 1, q + nq, by omega, by simp, by rw [hw.out]; exact World.drewN_drewN .., HQ⟩, by simp [intOf]; omega⟩
        · have HQ := Lib.hid (HN.out e)
          have e2 : (u != v) = true := by simpa using e
          have e3 : (u == v) = false := by simpa using e
          clear HN HS
          go_wp2_with fail
          go_quiet (fail)
          go_wp2_with fail
          go_ret
          exact ⟨ret_bool HQ.out.symm, _, by rw [hw.out]; exact World.drewN_drewN ..⟩
      · have d1 : ¬ (k : Int) < n := by omega
        have e : k = n := by omega
        subst e
        have HR := Lib.hid (HV.out HA.out)
        clear HA HK HV hf hg
        go_wp2_with fail
        go_ret
        exact ⟨ret_bool HR.out.symm, _, hw.out⟩
  · have HR := Lib.hid (rowEqB_len (f := f) (g := g) hl)
    have d1 : ¬ (n : Int) = m := by omega
    clear hf hg
    go_enter Try.func100, Try.ntmps100
    go_wp2_with fail
    go_ret
    exact ⟨ret_bool HR.out.symm, 0, rfl⟩
theorem slicesEqualI_any (A B : Option Addr) (n m c d : Nat) (f g : Nat → Int) (w : World) (hn : n ≤ 4611686018427387904) (hm : m ≤ 4611686018427387904) (hf : Cells w A n (fun i => .int .i64 (f i))) (hg : Cells w B m (fun i => .int .i64 (g i))) :
    Calls Try.prog 101 #[.slice A n c, .slice B m d] w fun e w' => e = .returned (.bool (rowEqB f g n m)) ∧ ∃ q, w' = w.drewN q := by
  by_cases hl : n = m
  · subst hl
    have HK := Lib.hid (fun k (hk : k < n) h => rowEqB_at (f := f) (g := g) (m := n) hk h)
    have HV := Lib.hid (show (∀ i, i < n → f i = g i) → rowEqB f g n n = true from fun h => rowEqB_iff.2 ⟨rfl, h⟩)
    generalize rowEqB f g n n = r at *
    go_enter Try.func101, Try.ntmps101
    go_wp2_with fail
    go_loopw [5, 13] (fun _ r wr => ∃ k q : Nat, k ≤ n ∧ r = .int .i64 k ∧ Hid (wr = w.drewN q) ∧ Hid (∀ j, j < k → f j = g j)) (fun _ r _ => n - (intOf r).toNat)
    case atStart => exact ⟨0, 0, Nat.zero_le _, rfl, rfl, fun j hj => by omega⟩
    case round =>
      obtain ⟨k, q, hk, rfl, hw, HA⟩ := hrel
      by_cases hlt : k < n
      · have d1 : (k : Int) < n := by omega
        obtain ⟨x, rfl, hx0⟩ := hf k hlt
        obtain ⟨y, rfl, hy0⟩ := hg k hlt
        have hx : wr.cell? (x.add k) = some (.int .i64 (f k)) := by rw [hw.out]; exact hx0
        have hy : wr.cell? (y.add k) = some (.int .i64 (g k)) := by rw [hw.out]; exact hy0
        have HN := Lib.hid (HK.out k hlt)
        have HS := Lib.hid (show f k = g k → ∀ j, j < k + 1 → f j = g j from fun e j hj => by
          rcases Nat.lt_or_ge j k with h | h
          · exact HA.out j h
          · have : j = k := by omega
            subst this
            exact e)
        clear hx0 hy0 hf hg HA HK HV
        generalize f k = u at *
        generalize g k = v at *
        by_cases e : u = v
        · have HQ := Lib.hid (HS.out e)
          subst e
          clear HN HS
          go_wp2_with fail
          go_quiet (fail)
          go_wp2_with fail
          exact ⟨⟨k + 1, q + nq, by omega, by simp, by rw [hw.out]; exact World.drewN_drewN .., HQ⟩, by simp [intOf]; omega⟩
        · have HQ := Lib.hid (HN.out e)
          have e2 : (u != v) = true := by simpa using e
          have e3 : (u == v) = false := by simpa using e
          clear HN HS
          go_wp2_with fail
          go_quiet (fail)
          go_wp2_with fail
          go_ret
          exact ⟨ret_bool HQ.out.symm, _, by rw [hw.out]; exact World.drewN_drewN ..⟩
      · have d1 : ¬ (k : Int) < n := by omega
        have e : k = n := by omega
        subst e
        have HR := Lib.hid (HV.out HA.out)
        clear HA HK HV hf hg
        go_wp2_with fail
        go_ret
        exact ⟨ret_bool HR.out.symm, _, hw.out⟩
  · have HR := Lib.hid (rowEqB_len (f := f) (g := g) hl)
    have d1 : ¬ (n : Int) = m := by omega
    clear hf hg
    go_enter Try.func101, Try.ntmps101
    go_wp2_with fail
    go_ret
    exact ⟨ret_bool HR.out.symm, 0, rfl⟩
theorem slicesEqualB_any (A B : Option Addr) (n m c d : Nat) (f g : Nat → Bool) (w : World) (hn : n ≤ 4611686018427387904) (hm : m ≤ 4611686018427387904) (hf : Cells w A n (fun i => .bool (f i))) (hg : Cells w B m (fun i => .bool (g i))) :
    Calls Try.prog 148 #[.slice A n c, .slice B m d] w fun e w' => e = .returned (.bool (rowEqB f g n m)) ∧ ∃ q, w' = w.drewN q := by
  by_cases hl : n = m
  · subst hl
    have HK := Lib.hid (fun k (hk : k < n) h => rowEqB_at (f := f) (g := g) (m := n) hk h)
    have HV := Lib.hid (show (∀ i, i < n → f i = g i) → rowEqB f g n n = true from fun h => rowEqB_iff.2 ⟨rfl, h⟩)
    generalize rowEqB f g n n = r at *
    go_enter Try.func148, Try.ntmps148
    go_wp2_with fail
    go_loopw [5, 13] (fun _ r wr => ∃ k q : Nat, k ≤ n ∧ r = .int .i64 k ∧ Hid (wr = w.drewN q) ∧ Hid (∀ j, j < k → f j = g j)) (fun _ r _ => n - (intOf r).toNat)
    case atStart => exact ⟨0, 0, Nat.zero_le _, rfl, rfl, fun j hj => by omega⟩
    case round =>
      obtain ⟨k, q, hk, rfl, hw, HA⟩ := hrel
      by_cases hlt : k < n
      · have d1 : (k : Int) < n := by omega
        obtain ⟨x, rfl, hx0⟩ := hf k hlt
        obtain ⟨y, rfl, hy0⟩ := hg k hlt
        have hx : wr.cell? (x.add k) = some (.bool (f k)) := by rw [hw.out]; exact hx0
        have hy : wr.cell? (y.add k) = some (.bool (g k)) := by rw [hw.out]; exact hy0
        have HN := Lib.hid (HK.out k hlt)
        have HS := Lib.hid (show f k = g k → ∀ j, j < k + 1 → f j = g j from fun e j hj => by
          rcases Nat.lt_or_ge j k with h | h
          · exact HA.out j h
          · have : j = k := by omega
            subst this
            exact e)
        clear hx0 hy0 hf hg HA HK HV
        generalize f k = u at *
        generalize g k = v at *
        by_cases e : u = v
        · have HQ := Lib.hid (HS.out e)
          subst e
          clear HN HS
          go_wp2_with fail
          go_quiet (fail)
          go_wp2_with fail
          exact ⟨⟨k + 1, q + nq, by omega, by simp, by rw [hw.out]; exact World.drewN_drewN .., HQ⟩, by simp [intOf]; omega⟩
        · have HQ := Lib.hid (HN.out e)
          have e2 : (u != v) = true := by simpa using e
          have e3 : (u == v) = false := by simpa using e
          clear HN HS
          go_wp2_with fail
          go_quiet (fail)
          go_wp2_with fail
          go_ret
          exact ⟨ret_bool HQ.out.symm, _, by rw [hw.out]; exact World.drewN_drewN ..⟩
      · have d1 : ¬ (k : Int) < n := by omega
        have e : k = n := by omega
        subst e
        have HR := Lib.hid (HV.out HA.out)
        clear HA HK HV hf hg
        go_wp2_with fail
        go_ret
        exact ⟨ret_bool HR.out.symm, _, hw.out⟩
  · have HR := Lib.hid (rowEqB_len (f := f) (g := g) hl)
    have d1 : ¬ (n : Int) = m := by omega
    clear hf hg
    go_enter Try.func148, Try.ntmps148
    go_wp2_with fail
    go_ret
    exact ⟨ret_bool HR.out.symm, 0, rfl⟩
end Go.Proofs.Ytfpombhhnojjhaa
