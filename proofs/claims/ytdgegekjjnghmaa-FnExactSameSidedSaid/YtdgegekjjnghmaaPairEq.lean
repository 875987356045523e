/- Rows of structs of four numbers compared. -/
import Derived.Test.YtdgegekjjnghmaaRowEq
import Derived.Test.YtdgegekjjnghmaaQuad
import Derived.Laws.StructEq
set_option linter.unusedVariables false
namespace Go.Proofs.Ytdgegekjjnghmaa
open Go.RowKit

/-- Four numbers of two rows are the same. -/
def quadB (f g : Nat → Int) (k : Nat) : Bool := decide (f (k * 4) = g (k * 4)) && (decide (f (k * 4 + 1) = g (k * 4 + 1)) && (decide (f (k * 4 + 2) = g (k * 4 + 2)) && decide (f (k * 4 + 3) = g (k * 4 + 3))))
def arcEqB (f g : Nat → Int) (n m : Nat) : Bool := decide (n = m) && (List.range n).all fun i => quadB f g i
section
variable {f g : Nat → Int} {n m k : Nat}
theorem arcEqB_iff : arcEqB f g n m = true ↔ n = m ∧ ∀ i, i < n → quadB f g i = true := by
  unfold arcEqB
  simp [List.all_eq_true]
theorem arcEqB_len (h : ¬ n = m) : arcEqB f g n m = false := by unfold arcEqB; simp [h]
theorem arcEqB_at (hk : k < n) (h : quadB f g k = false) : arcEqB f g n m = false := by
  cases e : arcEqB f g n m
  · rfl
  · rw [(arcEqB_iff.1 e).2 k hk] at h; cases h
end


set_option maxRecDepth 20000 in
set_option maxHeartbeats 1000000 in
theorem slicesEqualPairArc_any (A B : Option Addr) (n m c d : Nat) (f g : Nat → Int) (w : World) (hn : n ≤ 1048576) (hm : m ≤ 1048576) (hf : Cells w A (n * 4) (fun i => .int .i64 (f i))) (hg : Cells w B (m * 4) (fun i => .int .i64 (g i))) :
    Calls Try.prog 70 #[.slice A n c, .slice B m d] w fun e w' => e = .returned (.bool (arcEqB f g n m)) ∧ ∃ q, w' = w.drewN q := by
  by_cases hl : n = m
  · subst hl
    have HK := Lib.hid (fun k (hk : k < n) h => arcEqB_at (f := f) (g := g) (m := n) hk h)
    have HV := Lib.hid (show (∀ i, i < n → quadB f g i = true) → arcEqB f g n n = true from fun h => arcEqB_iff.2 ⟨rfl, h⟩)
    have HF := Lib.hid hf
    have HG := Lib.hid hg
    clear hf hg
    generalize arcEqB f g n n = r at *
    go_enter Try.func70, Try.ntmps70
    go_wp2_with fail
    go_loopw [5, 13] (fun _ r wr => ∃ k q : Nat, k ≤ n ∧ r = .int .i64 k ∧ Hid (wr = w.drewN q) ∧ Hid (∀ j, j < k → quadB f g j = true)) (fun _ r _ => n - (intOf r).toNat)
    case atStart => exact ⟨0, 0, Nat.zero_le _, rfl, rfl, fun j hj => by omega⟩
    case round =>
      obtain ⟨k, q, hk, rfl, hw, HA⟩ := hrel
      by_cases hlt : k < n
      · have d1 : (k : Int) < n := by omega
        obtain ⟨x, rfl, -⟩ := HF.out (k * 4) (by omega)
        obtain ⟨y, rfl, -⟩ := HG.out (k * 4) (by omega)
        obtain ⟨p0, p1, p2, p3⟩ := four (wr := wr) HF.out hlt fun p hp => by rw [hw.out]; rfl
        obtain ⟨q0, q1, q2, q3⟩ := four (wr := wr) HG.out hlt fun p hp => by rw [hw.out]; rfl
        have HN := Lib.hid (HK.out k hlt)
        have HS := Lib.hid (show quadB f g k = true → ∀ j, j < k + 1 → quadB f g j = true from fun e j hj => by
          rcases Nat.lt_or_ge j k with h | h
          · exact HA.out j h
          · have : j = k := by omega
            subst this
            exact e)
        have HD := Lib.hid (show quadB f g k = (decide (f (k * 4) = g (k * 4)) && (decide (f (k * 4 + 1) = g (k * 4 + 1)) && (decide (f (k * 4 + 2) = g (k * 4 + 2)) && decide (f (k * 4 + 3) = g (k * 4 + 3))))) from rfl)
        clear HA HK HV
        generalize quadB f g k = rq at *
        generalize f (k * 4) = u0 at *
        generalize f (k * 4 + 1) = u1 at *
        generalize f (k * 4 + 2) = u2 at *
        generalize f (k * 4 + 3) = u3 at *
        generalize g (k * 4) = v0 at *
        generalize g (k * 4 + 1) = v1 at *
        generalize g (k * 4 + 2) = v2 at *
        generalize g (k * 4 + 3) = v3 at *
        by_cases e0 : u0 = v0
        · subst e0
          by_cases e1 : u1 = v1
          · subst e1
            by_cases e2 : u2 = v2
            · subst e2
              by_cases e3 : u3 = v3
              · subst e3
                have HQ := Lib.hid (HS.out (by rw [HD.out]; simp))
                clear HN HS HD
                go_wp2_with fail
                go_quiet (fail)
                go_wp2_with fail
                exact ⟨⟨k + 1, q + nq, by omega, by simp, by rw [hw.out]; exact World.drewN_drewN .., HQ⟩, by simp [intOf]; omega⟩
              · have HQ := Lib.hid (HN.out (by rw [HD.out]; simp [e3]))
                have b : (u3 == v3) = false := by simpa using e3
                clear HN HS HD e3
                go_wp2_with fail
                go_quiet (fail)
                go_wp2_with fail
                go_ret
                exact ⟨ret_bool HQ.out.symm, _, by rw [hw.out]; exact World.drewN_drewN ..⟩
            · have HQ := Lib.hid (HN.out (by rw [HD.out]; simp [e2]))
              have b : (u2 == v2) = false := by simpa using e2
              clear HN HS HD e2
              go_wp2_with fail
              go_quiet (fail)
              go_wp2_with fail
              go_ret
              exact ⟨ret_bool HQ.out.symm, _, by rw [hw.out]; exact World.drewN_drewN ..⟩
          · have HQ := Lib.hid (HN.out (by rw [HD.out]; simp [e1]))
            have b : (u1 == v1) = false := by simpa using e1
            clear HN HS HD e1
            go_wp2_with fail
            go_quiet (fail)
            go_wp2_with fail
            go_ret
            exact ⟨ret_bool HQ.out.symm, _, by rw [hw.out]; exact World.drewN_drewN ..⟩
        · have HQ := Lib.hid (HN.out (by rw [HD.out]; simp [e0]))
          have b : (u0 == v0) = false := by simpa using e0
          clear HN HS HD e0
          go_wp2_with fail
          go_quiet (fail)
          go_wp2_with fail
          go_ret
          exact ⟨ret_bool HQ.out.symm, _, by rw [hw.out]; exact World.drewN_drewN ..⟩
      · have d1 : ¬ (k : Int) < n := by omega
        have e : k = n := by omega
        subst e
        have HR := Lib.hid (HV.out HA.out)
        clear HA HK HV
        go_wp2_with fail
        go_ret
        exact ⟨ret_bool HR.out.symm, _, hw.out⟩
  · have HR := Lib.hid (arcEqB_len (f := f) (g := g) hl)
    have d1 : ¬ (n : Int) = m := by omega
    clear hf hg
    go_enter Try.func70, Try.ntmps70
    go_wp2_with fail
    go_ret
    exact ⟨ret_bool HR.out.symm, 0, rfl⟩

end Go.Proofs.Ytdgegekjjnghmaa
