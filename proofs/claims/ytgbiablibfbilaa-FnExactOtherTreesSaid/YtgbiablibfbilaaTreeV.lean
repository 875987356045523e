/- Machines of trees: whether they are valid, on both sides. -/
import Derived.Test.YtgbiablibfbilaaTreeMachineM
import Derived.Test.YtgbiablibfbilaaContI
set_option linter.unusedVariables false
namespace Go.Proofs.Ytgbiablibfbilaa
open Go.RowKit

/-- A valid machine of trees. -/
def validT (s l : Int) (n m o : Nat) (f g : Nat → Int) : Bool := inB s 1 16 && (inB l 1 4 && (decide ((n : Int) = l) && (decide ((m : Int) = s * s) && (decide ((o : Int) = s) && (allP (letP s) f n && allP (letP s) g m)))))
theorem sq_le_256 {s : Int} (h1 : 1 ≤ s) (h2 : s ≤ 16) : 0 ≤ s * s ∧ s * s ≤ 256 := ⟨Int.mul_nonneg (by omega) (by omega), by have := Int.mul_le_mul h2 h2 (by omega) (by omega); omega⟩
theorem validT_iff {s l : Int} {n m o : Nat} {f g : Nat → Int} : validT s l n m o f g = true ↔ (1 ≤ s ∧ s ≤ 16) ∧ (1 ≤ l ∧ l ≤ 4) ∧ (n : Int) = l ∧ (m : Int) = s * s ∧ (o : Int) = s ∧ (∀ i, i < n → 0 ≤ f i ∧ f i ≤ s - 1) ∧ (∀ i, i < m → 0 ≤ g i ∧ g i ≤ s - 1) := by
  unfold validT
  simp only [Bool.and_eq_true, decide_eq_true_eq, inB_iff, allP_iff, letP]

theorem validTrees1_any (q1 : Nat) (s z : Int) (w : World) (hs : 1 ≤ s ∧ s ≤ 16) (b : w.cell? ⟨q1, 0, none⟩ = some (.int .i64 s)) :
    Calls Try.prog 53 #[.int .i64 z, .pointer (some ⟨q1, 0, none⟩)] w fun e w' => e = .returned (.bool (!letP s z)) ∧ w = w' := by
  obtain ⟨s1, s2⟩ := hs
  have HI := Lib.hid (fun W => between_any z 0 (s - 1) W)
  have hws : IntKind.i64.wrap (s - 1) = s - 1 := by rw [IntKind.wrap_i64]; omega
  have HE := Lib.hid (show letP s z = inB z 0 (s - 1) from rfl)
  generalize inB z 0 (s - 1) = r at *
  go_enter Try.func53, Try.ntmps53
  go_wp2_with fail
  refine (HI.out _).mono ?_
  rintro e w' ⟨rfl, rfl⟩
  go_wp2_with fail
  go_ret
  exact ⟨ret_bool (by rw [HE.out]), rfl⟩
set_option maxHeartbeats 1000000 in
theorem implValidTrees_any (s l : Int) (A B C : Option Addr) (n c m d o q : Nat) (f g : Nat → Int) (h : Nat → Bool) (w : World) (hn : n ≤ 1048576) (hm : m ≤ 1048576) (ho : o ≤ 1048576) (hA : Cells w A n (fun i => .int .i64 (f i))) (hB : Cells w B m (fun i => .int .i64 (g i))) (hC : Cells w C o (fun i => .bool (h i))) :
    Calls Try.prog 18 #[.agg #[.int .i64 s, .int .i64 l, .slice A n c, .slice B m d, .slice C o q]] w fun e w' => e = .returned (.bool (validT s l n m o f g)) ∧ Below w.heap.size w w' := by
  have HU := Lib.hid (show validT s l n m o f g = (inB s 1 16 && (inB l 1 4 && (decide ((n : Int) = l) && (decide ((m : Int) = s * s) && (decide ((o : Int) = s) && (allP (letP s) f n && allP (letP s) g m)))))) from rfl)
  have HA := Lib.hid hA
  have HB := Lib.hid hB
  have hmf : ∀ (fn : Fn) (first cap : Array Value) (w : World), (Instr.makeFunc fn first cap).run Try.prog w = .ok (.func fn first cap) w := fun _ _ _ _ => rfl
  clear hA hB hC
  generalize validT s l n m o f g = r at *
  cases h0 : inB s 1 16
  · have H0 := Lib.hid (between_is h0)
    rw [h0] at HU
    clear h0
    go_enter Try.func18, Try.ntmps18
    go_wp2_with fail
    refine (H0.out _).mono ?_
    rintro e w' ⟨rfl, rfl⟩
    go_wp2_with fail
    go_ret
    exact ⟨ret_bool (by rw [HU.out]; rfl), (by repeat (first | with_reducible exact Below.refl _ _ | exact Hid.out (by with_reducible assumption) | refine Below.setCell ?_ (by simp <;> omega) _ | refine below_alloc ?_ _ | refine Below.alloc ?_ (by simp <;> omega) _ | refine Below.drew ?_ | refine below_drewN ?_ _))⟩
  have hs := inB_iff.1 h0
  have H0 := Lib.hid (between_is h0)
  rw [h0] at HU
  clear h0
  have hss := sq_le_256 hs.1 hs.2
  have hws : IntKind.i64.wrap (s * s) = s * s := by rw [IntKind.wrap_i64]; omega
  cases h1 : inB l 1 4
  · have H1 := Lib.hid (between_is h1)
    rw [h1] at HU
    clear h1
    go_enter Try.func18, Try.ntmps18
    go_wp2_with fail
    refine (H0.out _).mono ?_
    rintro e w' ⟨rfl, rfl⟩
    go_wp2_with fail
    refine (H1.out _).mono ?_
    rintro e w' ⟨rfl, rfl⟩
    go_wp2_with fail
    go_ret
    exact ⟨ret_bool (by rw [HU.out]; rfl), (by repeat (first | with_reducible exact Below.refl _ _ | exact Hid.out (by with_reducible assumption) | refine Below.setCell ?_ (by simp <;> omega) _ | refine below_alloc ?_ _ | refine Below.alloc ?_ (by simp <;> omega) _ | refine Below.drew ?_ | refine below_drewN ?_ _))⟩
  have H1 := Lib.hid (between_is h1)
  rw [h1] at HU
  clear h1
  have HC1 := Lib.hid (fun q1 W b k => containsTreeStates q1 (letP s) A n c f W hn k (fun z => validTrees1_any q1 s z W hs b))
  have HC2 := Lib.hid (fun q1 W b k => containsTreeStates q1 (letP s) B m d g W hm k (fun z => validTrees1_any q1 s z W hs b))
  generalize allP (letP s) f n = r2 at *
  generalize allP (letP s) g m = r3 at *
  by_cases h2 : (n : Int) = l
  rotate_left
  · have b2 : ((n : Int) != l) = true := by simpa using h2
    have HU2 := Lib.hid (show r = false by rw [HU.out]; simp [h2])
    clear h2 hs
    go_enter Try.func18, Try.ntmps18
    go_wp2_with fail
    refine (H0.out _).mono ?_
    rintro e w' ⟨rfl, rfl⟩
    go_wp2_with fail
    refine (H1.out _).mono ?_
    rintro e w' ⟨rfl, rfl⟩
    go_wp2_with fail
    go_ret
    exact ⟨ret_bool (by rw [HU2.out]), (by repeat (first | with_reducible exact Below.refl _ _ | exact Hid.out (by with_reducible assumption) | refine Below.setCell ?_ (by simp <;> omega) _ | refine below_alloc ?_ _ | refine Below.alloc ?_ (by simp <;> omega) _ | refine Below.drew ?_ | refine below_drewN ?_ _))⟩
  have b2 : ((n : Int) != l) = false := by simpa using h2
  by_cases h3 : (m : Int) = s * s
  rotate_left
  · have b3 : ((m : Int) != s * s) = true := by simpa using h3
    have HU2 := Lib.hid (show r = false by rw [HU.out]; simp [h3])
    clear h2 hs
    go_enter Try.func18, Try.ntmps18
    go_wp2_with fail
    refine (H0.out _).mono ?_
    rintro e w' ⟨rfl, rfl⟩
    go_wp2_with fail
    refine (H1.out _).mono ?_
    rintro e w' ⟨rfl, rfl⟩
    go_wp2_with fail
    go_ret
    exact ⟨ret_bool (by rw [HU2.out]), (by repeat (first | with_reducible exact Below.refl _ _ | exact Hid.out (by with_reducible assumption) | refine Below.setCell ?_ (by simp <;> omega) _ | refine below_alloc ?_ _ | refine Below.alloc ?_ (by simp <;> omega) _ | refine Below.drew ?_ | refine below_drewN ?_ _))⟩
  have b3 : ((m : Int) != s * s) = false := by simpa using h3
  by_cases h4 : (o : Int) = s
  rotate_left
  · have b4 : ((o : Int) != s) = true := by simpa using h4
    have HU2 := Lib.hid (show r = false by rw [HU.out]; simp [h4])
    clear h4 h2 hs
    go_enter Try.func18, Try.ntmps18
    go_wp2_with fail
    refine (H0.out _).mono ?_
    rintro e w' ⟨rfl, rfl⟩
    go_wp2_with fail
    refine (H1.out _).mono ?_
    rintro e w' ⟨rfl, rfl⟩
    go_wp2_with fail
    go_ret
    exact ⟨ret_bool (by rw [HU2.out]), (by repeat (first | with_reducible exact Below.refl _ _ | exact Hid.out (by with_reducible assumption) | refine Below.setCell ?_ (by simp <;> omega) _ | refine below_alloc ?_ _ | refine Below.alloc ?_ (by simp <;> omega) _ | refine Below.drew ?_ | refine below_drewN ?_ _))⟩
  have b4 : ((o : Int) != s) = false := by simpa using h4
  have HU2 := Lib.hid (show r = (r2 && r3) by rw [HU.out]; simp [h2, h3, h4])
  clear HU h2 h4 hs
  cases r2
  · skip
    go_enter Try.func18, Try.ntmps18
    go_wp2_with fail
    refine (H0.out _).mono ?_
    rintro e w' ⟨rfl, rfl⟩
    go_wp2_with fail
    refine (H1.out _).mono ?_
    rintro e w' ⟨rfl, rfl⟩
    go_wp2_with fail
    refine (HC1.out w.heap.size _ (by simp [go_sem]) (HA.out.below (by repeat (first | with_reducible exact Below.refl _ _ | exact Hid.out (by with_reducible assumption) | refine Below.setCell ?_ (by simp <;> omega) _ | refine below_alloc ?_ _ | refine Below.alloc ?_ (by simp <;> omega) _ | refine Below.drew ?_ | refine below_drewN ?_ _)))).mono ?_
    rintro e w' ⟨rfl, rfl⟩
    go_wp2_with fail
    go_ret
    exact ⟨ret_bool (by rw [HU2.out]; rfl), (by repeat (first | with_reducible exact Below.refl _ _ | exact Hid.out (by with_reducible assumption) | refine Below.setCell ?_ (by simp <;> omega) _ | refine below_alloc ?_ _ | refine Below.alloc ?_ (by simp <;> omega) _ | refine Below.drew ?_ | refine below_drewN ?_ _))⟩
  · skip
    go_enter Try.func18, Try.ntmps18
    go_wp2_with fail
    refine (H0.out _).mono ?_
    rintro e w' ⟨rfl, rfl⟩
    go_wp2_with fail
    refine (H1.out _).mono ?_
    rintro e w' ⟨rfl, rfl⟩
    go_wp2_with fail
    refine (HC1.out w.heap.size _ (by simp [go_sem]) (HA.out.below (by repeat (first | with_reducible exact Below.refl _ _ | exact Hid.out (by with_reducible assumption) | refine Below.setCell ?_ (by simp <;> omega) _ | refine below_alloc ?_ _ | refine Below.alloc ?_ (by simp <;> omega) _ | refine Below.drew ?_ | refine below_drewN ?_ _)))).mono ?_
    rintro e w' ⟨rfl, rfl⟩
    go_wp2_with fail
    refine (HC2.out w.heap.size _ (by simp [go_sem]) (HB.out.below (by repeat (first | with_reducible exact Below.refl _ _ | exact Hid.out (by with_reducible assumption) | refine Below.setCell ?_ (by simp <;> omega) _ | refine below_alloc ?_ _ | refine Below.alloc ?_ (by simp <;> omega) _ | refine Below.drew ?_ | refine below_drewN ?_ _)))).mono ?_
    rintro e w' ⟨rfl, rfl⟩
    go_wp2_with fail
    go_ret
    exact ⟨ret_bool (by rw [HU2.out] <;> cases r3 <;> rfl), (by repeat (first | with_reducible exact Below.refl _ _ | exact Hid.out (by with_reducible assumption) | refine Below.setCell ?_ (by simp <;> omega) _ | refine below_alloc ?_ _ | refine Below.alloc ?_ (by simp <;> omega) _ | refine Below.drew ?_ | refine below_drewN ?_ _))⟩
set_option maxRecDepth 20000 in
set_option maxHeartbeats 4000000 in
theorem l06Trees_any (P : Nat) (s l : Int) (A B C : Option Addr) (n c m d o q : Nat) (f g : Nat → Int) (w : World) (hn : n ≤ 1048576) (hm : m ≤ 1048576) (hA : Cells w A n (fun i => .int .i64 (f i))) (hB : Cells w B m (fun i => .int .i64 (g i)))
    (b : Box5 w P (.int .i64 s) (.int .i64 l) (.slice A n c) (.slice B m d) (.slice C o q)) :
    Calls Try.prog 50 #[.pointer (some ⟨P, 0, none⟩)] w fun e w' => e = .returned (.bool (validT s l n m o f g)) ∧ ∃ q, w' = w.drewN q := by
  have HU := Lib.hid (show validT s l n m o f g = (inB s 1 16 && (inB l 1 4 && (decide ((n : Int) = l) && (decide ((m : Int) = s * s) && (decide ((o : Int) = s) && (allP (letP s) f n && allP (letP s) g m)))))) from rfl)
  have HA := Lib.hid hA
  have HB := Lib.hid hB
  have HN1 := Lib.hid (fun k (hk : k < n) e => allP_no (p := letP s) (f := f) hk e)
  have HV1 := Lib.hid (fun e => (allP_iff (p := letP s) (f := f) (n := n)).2 e)
  have HN2 := Lib.hid (fun k (hk : k < m) e => allP_no (p := letP s) (f := g) hk e)
  have HV2 := Lib.hid (fun e => (allP_iff (p := letP s) (f := g) (n := m)).2 e)
  have X0 := Lib.hid b
  obtain ⟨a0, a1, a2, a3, a4⟩ := b
  clear hA hB
  generalize validT s l n m o f g = r at *
  cases h0 : inB s 1 16
  · have H0 := Lib.hid (l00In_is h0)
    rw [h0] at HU
    clear h0
    go_enter Try.func50, Try.ntmps50
    go_wp2_with fail
    go_quiet ((go_at_call 66; exact Calls.quiet_of_same (H0.out _)))
    go_wp2_with fail
    go_ret
    exact ⟨ret_bool (by rw [HU.out]; rfl), _, rfl⟩
  obtain ⟨s1, s2⟩ := inB_iff.1 h0
  have H0 := Lib.hid (l00In_is h0)
  rw [h0] at HU
  clear h0
  have hwr : IntKind.i64.wrap (s - 1) = s - 1 := by rw [IntKind.wrap_i64]; omega
  have hss := sq_le_256 s1 s2
  have hws : IntKind.i64.wrap (s * s) = s * s := by rw [IntKind.wrap_i64]; omega
  cases h1 : inB l 1 4
  · have H1 := Lib.hid (l00In_is h1)
    rw [h1] at HU
    clear h1
    go_enter Try.func50, Try.ntmps50
    go_wp2_with fail
    go_quiet ((first | (go_at_call_of 66 (Value.int IntKind.i64 s); exact Calls.quiet_of_same (H0.out _)) | (go_at_call_of 66 (Value.int IntKind.i64 l); exact Calls.quiet_of_same (H1.out _))))
    go_wp2_with fail
    go_ret
    exact ⟨ret_bool (by rw [HU.out]; rfl), _, rfl⟩
  have H1 := Lib.hid (l00In_is h1)
  rw [h1] at HU
  clear h1
  by_cases h2 : (n : Int) = l
  rotate_left
  · have b2 : ((n : Int) != l) = true := by simpa using h2
    have HU2 := Lib.hid (show r = false by rw [HU.out]; simp [h2])
    clear h2
    go_enter Try.func50, Try.ntmps50
    go_wp2_with fail
    go_quiet ((first | (go_at_call_of 66 (Value.int IntKind.i64 s); exact Calls.quiet_of_same (H0.out _)) | (go_at_call_of 66 (Value.int IntKind.i64 l); exact Calls.quiet_of_same (H1.out _))))
    go_wp2_with fail
    go_ret
    exact ⟨ret_bool (by rw [HU2.out]), _, rfl⟩
  have b2 : ((n : Int) != l) = false := by simpa using h2
  by_cases h3 : (m : Int) = s * s
  rotate_left
  · have b3 : ((m : Int) != s * s) = true := by simpa using h3
    have HU2 := Lib.hid (show r = false by rw [HU.out]; simp [h3])
    clear h2
    go_enter Try.func50, Try.ntmps50
    go_wp2_with fail
    go_quiet ((first | (go_at_call_of 66 (Value.int IntKind.i64 s); exact Calls.quiet_of_same (H0.out _)) | (go_at_call_of 66 (Value.int IntKind.i64 l); exact Calls.quiet_of_same (H1.out _))))
    go_wp2_with fail
    go_ret
    exact ⟨ret_bool (by rw [HU2.out]), _, rfl⟩
  have b3 : ((m : Int) != s * s) = false := by simpa using h3
  by_cases h4 : (o : Int) = s
  rotate_left
  · have b4 : ((o : Int) != s) = true := by simpa using h4
    have HU2 := Lib.hid (show r = false by rw [HU.out]; simp [h4])
    clear h4 h2
    go_enter Try.func50, Try.ntmps50
    go_wp2_with fail
    go_quiet ((first | (go_at_call_of 66 (Value.int IntKind.i64 s); exact Calls.quiet_of_same (H0.out _)) | (go_at_call_of 66 (Value.int IntKind.i64 l); exact Calls.quiet_of_same (H1.out _))))
    go_wp2_with fail
    go_ret
    exact ⟨ret_bool (by rw [HU2.out]), _, rfl⟩
  have b4 : ((o : Int) != s) = false := by simpa using h4
  have HU2 := Lib.hid (show r = (allP (letP s) f n && allP (letP s) g m) by rw [HU.out]; simp [h2, h3, h4])
  clear HU h2 h4
  generalize allP (letP s) f n = rf at *
  generalize allP (letP s) g m = rg at *
  go_enter Try.func50, Try.ntmps50
  go_wp2_with fail
  go_quiet ((first | (go_at_call_of 66 (Value.int IntKind.i64 s); exact Calls.quiet_of_same (H0.out _)) | (go_at_call_of 66 (Value.int IntKind.i64 l); exact Calls.quiet_of_same (H1.out _))))
  go_wp2_with fail
  go_loopw [3] (fun i wr => ∃ k q1 : Nat, k ≤ n ∧ i = .int .i64 k ∧ Hid (wr = w.drewN q1) ∧ Hid (∀ j, j < k → letP s (f j) = true)) (fun i _ => n - (intOf i).toNat)
  case atStart => exact ⟨0, _, Nat.zero_le _, rfl, rfl, fun j hj => by omega⟩
  case round =>
    obtain ⟨k, q1, hk, rfl, hw, HX⟩ := hrel
    have X1 := Lib.hid (show Box5 wr P _ _ _ _ _ by rw [hw.out]; exact X0.out.drewN q1)
    clear a0 a1 a2 a3 a4
    obtain ⟨a0, a1, a2, a3, a4⟩ := X1.out
    by_cases hlt : k < n
    · have d1 : (k : Int) < n := by omega
      obtain ⟨x, rfl, hx0⟩ := HA.out k hlt
      have hx : wr.cell? (x.add k) = some (.int .i64 (f k)) := by rw [hw.out]; exact hx0
      have HK := Lib.hid (HN1.out k hlt)
      have HS := Lib.hid (show letP s (f k) = true → ∀ j, j < k + 1 → letP s (f j) = true from fun e j hj => by
        rcases Nat.lt_or_ge j k with h | h
        · exact HX.out j h
        · have : j = k := by omega
          subst this
          exact e)
      clear hx0 HX HN1 HV1 HN2 HV2
      generalize f k = v at *
      cases e : inB v 0 (s - 1)
      · have J0 := Lib.hid (l00In_is e)
        have HR := Lib.hid (HK.out e)
        clear e HK HS
        go_wp2_with fail
        go_quiet ((go_at_call 66; exact Calls.quiet_of_same (J0.out _)))
        go_wp2_with fail
        go_ret
        exact ⟨ret_bool (by rw [HU2.out, HR.out]; rfl), _, by rw [hw.out]; exact World.drewN_drewN ..⟩
      · have J0 := Lib.hid (l00In_is e)
        have HR := Lib.hid (HS.out e)
        clear e HK HS
        go_wp2_with fail
        go_quiet ((go_at_call 66; exact Calls.quiet_of_same (J0.out _)))
        go_wp2_with fail
        exact ⟨⟨k + 1, q1 + nq, by omega, by simp, by rw [hw.out]; exact World.drewN_drewN .., HR⟩, by simp [intOf]; omega⟩
    · have d1 : ¬ (k : Int) < n := by omega
      have e : k = n := by omega
      subst e
      have HR1 := Lib.hid (HV1.out HX.out)
      clear HX HN1 HV1
      go_wp2_with fail
      go_loopw [4] (fun i wr => ∃ k q1 : Nat, k ≤ m ∧ i = .int .i64 k ∧ Hid (wr = w.drewN q1) ∧ Hid (∀ j, j < k → letP s (g j) = true)) (fun i _ => m - (intOf i).toNat)
      case atStart => exact ⟨0, _, Nat.zero_le _, rfl, hw.out, fun j hj => by omega⟩
      case round =>
        clear hw
        obtain ⟨k2, q2, hk, rfl, hw, HX⟩ := hrel
        clear X1 a0 a1 a2 a3 a4
        have X1 := Lib.hid (show Box5 wr P _ _ _ _ _ by rw [hw.out]; exact X0.out.drewN q2)
        obtain ⟨a0, a1, a2, a3, a4⟩ := X1.out
        by_cases hlt : k2 < m
        · have d2 : (k2 : Int) < m := by omega
          obtain ⟨x, rfl, hx0⟩ := HB.out k2 hlt
          have hx : wr.cell? (x.add k2) = some (.int .i64 (g k2)) := by rw [hw.out]; exact hx0
          have HK := Lib.hid (HN2.out k2 hlt)
          have HS := Lib.hid (show letP s (g k2) = true → ∀ j, j < k2 + 1 → letP s (g j) = true from fun e j hj => by
            rcases Nat.lt_or_ge j k2 with h | h
            · exact HX.out j h
            · have : j = k2 := by omega
              subst this
              exact e)
          clear hx0 HX HN2 HV2
          generalize g k2 = v at *
          cases e : inB v 0 (s - 1)
          · have J0 := Lib.hid (l00In_is e)
            have HR := Lib.hid (HK.out e)
            clear e HK HS
            go_wp2_with fail
            go_quiet ((go_at_call 66; exact Calls.quiet_of_same (J0.out _)))
            go_wp2_with fail
            go_ret
            exact ⟨ret_bool (by rw [HU2.out, HR.out]; simp), _, by rw [hw.out]; exact World.drewN_drewN ..⟩
          · have J0 := Lib.hid (l00In_is e)
            have HR := Lib.hid (HS.out e)
            clear e HK HS
            go_wp2_with fail
            go_quiet ((go_at_call 66; exact Calls.quiet_of_same (J0.out _)))
            go_wp2_with fail
            exact ⟨⟨k2 + 1, q2 + nq, by omega, by simp, by rw [hw.out]; exact World.drewN_drewN .., HR⟩, by simp [intOf]; omega⟩
        · have d2 : ¬ (k2 : Int) < m := by omega
          have e : k2 = m := by omega
          subst e
          have HR2 := Lib.hid (HV2.out HX.out)
          clear HX HN2 HV2
          go_wp2_with fail
          go_ret
          exact ⟨ret_bool (by rw [HU2.out, HR1.out, HR2.out]; rfl), _, hw.out⟩
theorem specValidTrees_any (s l : Int) (A B C : Option Addr) (n c m d o q : Nat) (f g : Nat → Int) (h : Nat → Bool) (w : World) (hn : n ≤ 1048576) (hm : m ≤ 1048576) (ho : o ≤ 1048576) (hA : Cells w A n (fun i => .int .i64 (f i))) (hB : Cells w B m (fun i => .int .i64 (g i))) (hC : Cells w C o (fun i => .bool (h i))) :
    Calls Try.prog 16 #[.agg #[.int .i64 s, .int .i64 l, .slice A n c, .slice B m d, .slice C o q]] w fun e w' => e = .returned (.bool (validT s l n m o f g)) ∧ Below w.heap.size w w' := by
  have HL := Lib.hid (fun P W h1 h2 b => l06Trees_any P s l A B C n c m d o q f g W hn hm h1 h2 b)
  have HA := Lib.hid hA
  have HB := Lib.hid hB
  clear hA hB hC
  generalize validT s l n m o f g = r at *
  go_enter Try.func16, Try.ntmps16
  go_wp2_with fail
  refine (HL.out w.heap.size _ (HA.out.below (by repeat (first | with_reducible exact Below.refl _ _ | exact Hid.out (by with_reducible assumption) | refine Below.setCell ?_ (by simp <;> omega) _ | refine below_alloc ?_ _ | refine Below.alloc ?_ (by simp <;> omega) _ | refine Below.drew ?_ | refine below_drewN ?_ _))) (HB.out.below (by repeat (first | with_reducible exact Below.refl _ _ | exact Hid.out (by with_reducible assumption) | refine Below.setCell ?_ (by simp <;> omega) _ | refine below_alloc ?_ _ | refine Below.alloc ?_ (by simp <;> omega) _ | refine Below.drew ?_ | refine below_drewN ?_ _))) (Box5.new w _ _ _ _ _ _)).mono ?_
  rintro e w' ⟨rfl, j, rfl⟩
  go_wp2_with fail
  go_ret
  exact ⟨rfl, (by repeat (first | with_reducible exact Below.refl _ _ | exact Hid.out (by with_reducible assumption) | refine Below.setCell ?_ (by simp <;> omega) _ | refine below_alloc ?_ _ | refine Below.alloc ?_ (by simp <;> omega) _ | refine Below.drew ?_ | refine below_drewN ?_ _))⟩
end Go.Proofs.Ytgbiablibfbilaa
