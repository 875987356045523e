/- Plain machines: whether they are valid, on both sides. -/
import Derived.Test.YtfpombhhnojjhaaAllIn
import Derived.Test.YtfpombhhnojjhaaPlainM
import Derived.Test.YtfpombhhnojjhaaOpenP
set_option linter.unusedVariables false
namespace Go.Proofs.Ytfpombhhnojjhaa
open Go.RowKit

theorem implValidPlain_any   (s l : Int) (A B : Option Addr) (n c m d : Nat) (f : Nat → Int) (w : World) (hn : n ≤ 4611686018427387904) (hm : m ≤ 4611686018427387904) (hA : Cells w A n (fun i => .int .i64 (f i)))
    : Calls Try.prog 110 #[.agg #[.int .i64 s, .int .i64 l, .slice A n c, .slice B m d]] w fun e w' => e = .returned (.bool (validP s l n m f)) ∧ Below w.heap.size w w' := by
  cases hs : inB s 1 64
  · have H1 := Lib.hid (between_is hs)
    have HR := Lib.hid (show validP s l n m f = false from validP_1 hs)
    clear hs hA
    go_enter Try.func110, Try.ntmps110
    go_wp2_with ((first | (go_at_call_of 96 (Value.int IntKind.i64 v); refine (H3.out _).mono ?_) | (go_at_call_of 96 (Value.int IntKind.i64 s); refine (H1.out _).mono ?_) | (go_at_call_of 96 (Value.int IntKind.i64 l); refine (H2.out _).mono ?_)); rintro e w' ⟨rfl, rfl⟩)
    go_ret
    refine ⟨ret_bool HR.out.symm, ?_⟩
    exact (by repeat (first | exact Below.refl _ _ | exact Hid.out (by assumption) | refine Below.setCell ?_ (by simp <;> omega) _ | refine Below.alloc ?_ (by simp <;> omega) _ | refine Below.drew ?_ | refine below_drewN ?_ _))
  · obtain ⟨s1, s2⟩ := inB_iff.1 hs
    have H1 := Lib.hid (between_is hs)
    clear hs
    cases hl : inB l 1 4
    · have H2 := Lib.hid (between_is hl)
      have HR := Lib.hid (show validP s l n m f = false from validP_2 hl)
      clear hl hA
      go_enter Try.func110, Try.ntmps110
      go_wp2_with ((first | (go_at_call_of 96 (Value.int IntKind.i64 v); refine (H3.out _).mono ?_) | (go_at_call_of 96 (Value.int IntKind.i64 s); refine (H1.out _).mono ?_) | (go_at_call_of 96 (Value.int IntKind.i64 l); refine (H2.out _).mono ?_)); rintro e w' ⟨rfl, rfl⟩)
      go_ret
      refine ⟨ret_bool HR.out.symm, ?_⟩
      exact (by repeat (first | exact Below.refl _ _ | exact Hid.out (by assumption) | refine Below.setCell ?_ (by simp <;> omega) _ | refine Below.alloc ?_ (by simp <;> omega) _ | refine Below.drew ?_ | refine below_drewN ?_ _))
    · obtain ⟨l1, l2⟩ := inB_iff.1 hl
      have H2 := Lib.hid (between_is hl)
      clear hl
      obtain ⟨p1, p2⟩ := mul_le_256 s1 s2 l1 l2
      have hwr : IntKind.i64.wrap (s - 1) = s - 1 := by rw [IntKind.wrap_i64]; omega
      have hwm : IntKind.i64.wrap (s * l) = s * l := by rw [IntKind.wrap_i64]; omega
      by_cases h3 : (n : Int) = s * l
      · by_cases h4 : (m : Int) = s
        · have HV := Lib.hid (show (∀ j, j < n → inB (f j) 0 (s - 1) = true) → validP s l n m f = true from fun h => validP_iff.2 ⟨s1, s2, l1, l2, h3, h4, fun i hi => inB_iff.1 (h i hi)⟩)
          have HF := Lib.hid (fun k (hk : k < n) e => validP_5 (s := s) (l := l) (m := m) (f := f) hk e)
          generalize validP s l n m f = r at *
          go_enter Try.func110, Try.ntmps110
          go_wp2_with ((first | (go_at_call_of 96 (Value.int IntKind.i64 v); refine (H3.out _).mono ?_) | (go_at_call_of 96 (Value.int IntKind.i64 s); refine (H1.out _).mono ?_) | (go_at_call_of 96 (Value.int IntKind.i64 l); refine (H2.out _).mono ?_)); rintro e w' ⟨rfl, rfl⟩)
          go_loop [4, 35] (fun _ i => ∃ k : Nat, k ≤ n ∧ i = .int .i64 k ∧ Hid (∀ j, j < k → inB (f j) 0 (s - 1) = true)) (fun _ i => n - (intOf i).toNat)
          case atStart => exact ⟨0, Nat.zero_le _, rfl, fun j hj => by omega⟩
          case round =>
            obtain ⟨k, hk, rfl, HA⟩ := hrel
            by_cases hlt : k < n
            · have d1 : (k : Int) < n := by omega
              have d1b : (k : Int) < s * l := by omega
              obtain ⟨x, rfl, hx0⟩ := hA k hlt
              have hx : w.cell? (x.add k) = some (.int .i64 (f k)) := hx0
              skip
              clear hx0
              have hxa : ∀ o, (w.alloc o).cell? (x.add k) = some (.int .i64 (f k)) := fun o => by rw [World.cell?_alloc_lt w o _ (World.block_lt_of_cell? _ _ hx)]; exact hx
              have HK := Lib.hid (HF.out k hlt)
              have HS := Lib.hid (show inB (f k) 0 (s - 1) = true → ∀ j, j < k + 1 → inB (f j) 0 (s - 1) = true from fun e j hj => by
                rcases Nat.lt_or_ge j k with h | h
                · exact HA.out j h
                · have : j = k := by omega
                  subst this
                  exact e)
              clear hA HA HF HV
              generalize f k = v at *
              cases e : inB v 0 (s - 1)
              · have HR := Lib.hid (HK.out e)
                have H3 := Lib.hid (between_is e)
                clear e HK HS
                go_wp2_with ((first | (go_at_call_of 96 (Value.int IntKind.i64 v); refine (H3.out _).mono ?_) | (go_at_call_of 96 (Value.int IntKind.i64 s); refine (H1.out _).mono ?_) | (go_at_call_of 96 (Value.int IntKind.i64 l); refine (H2.out _).mono ?_)); rintro e w' ⟨rfl, rfl⟩)
                go_ret
                refine ⟨ret_bool HR.out.symm, ?_⟩
                exact (by repeat (first | exact Below.refl _ _ | exact Hid.out (by assumption) | refine Below.setCell ?_ (by simp <;> omega) _ | refine Below.alloc ?_ (by simp <;> omega) _ | refine Below.drew ?_ | refine below_drewN ?_ _))
              · have HN := Lib.hid (HS.out e)
                have H3 := Lib.hid (between_is e)
                clear e HK HS
                go_wp2_with ((first | (go_at_call_of 96 (Value.int IntKind.i64 v); refine (H3.out _).mono ?_) | (go_at_call_of 96 (Value.int IntKind.i64 s); refine (H1.out _).mono ?_) | (go_at_call_of 96 (Value.int IntKind.i64 l); refine (H2.out _).mono ?_)); rintro e w' ⟨rfl, rfl⟩)
                go_round
                case rel => exact ⟨k + 1, by omega, by go_num, HN⟩
                case measure => simp [intOf]; omega
            · have d1 : ¬ (k : Int) < n := by omega
              have d1b : ¬ (k : Int) < s * l := by omega
              have e : k = n := by omega
              subst e
              have HR := Lib.hid (HV.out HA.out)
              clear HA HV HF hA
              go_wp2
              go_ret
              refine ⟨ret_bool HR.out.symm, ?_⟩
              exact (by repeat (first | exact Below.refl _ _ | exact Hid.out (by assumption) | refine Below.setCell ?_ (by simp <;> omega) _ | refine Below.alloc ?_ (by simp <;> omega) _ | refine Below.drew ?_ | refine below_drewN ?_ _))
        · have HR := Lib.hid (show validP s l n m f = false from validP_4 h4)
          clear hA
          go_enter Try.func110, Try.ntmps110
          go_wp2_with ((first | (go_at_call_of 96 (Value.int IntKind.i64 v); refine (H3.out _).mono ?_) | (go_at_call_of 96 (Value.int IntKind.i64 s); refine (H1.out _).mono ?_) | (go_at_call_of 96 (Value.int IntKind.i64 l); refine (H2.out _).mono ?_)); rintro e w' ⟨rfl, rfl⟩)
          go_ret
          refine ⟨ret_bool HR.out.symm, ?_⟩
          exact (by repeat (first | exact Below.refl _ _ | exact Hid.out (by assumption) | refine Below.setCell ?_ (by simp <;> omega) _ | refine Below.alloc ?_ (by simp <;> omega) _ | refine Below.drew ?_ | refine below_drewN ?_ _))
      · have HR := Lib.hid (show validP s l n m f = false from validP_3 h3)
        clear hA
        go_enter Try.func110, Try.ntmps110
        go_wp2_with ((first | (go_at_call_of 96 (Value.int IntKind.i64 v); refine (H3.out _).mono ?_) | (go_at_call_of 96 (Value.int IntKind.i64 s); refine (H1.out _).mono ?_) | (go_at_call_of 96 (Value.int IntKind.i64 l); refine (H2.out _).mono ?_)); rintro e w' ⟨rfl, rfl⟩)
        go_ret
        refine ⟨ret_bool HR.out.symm, ?_⟩
        exact (by repeat (first | exact Below.refl _ _ | exact Hid.out (by assumption) | refine Below.setCell ?_ (by simp <;> omega) _ | refine Below.alloc ?_ (by simp <;> omega) _ | refine Below.drew ?_ | refine below_drewN ?_ _))
theorem l02Plain_any (P : Nat) (s l : Int) (A B : Option Addr) (n c m d : Nat) (f : Nat → Int) (w : World) (hn : n ≤ 4611686018427387904) (hm : m ≤ 4611686018427387904) (hA : Cells w A n (fun i => .int .i64 (f i)))
    (c0 : w.cell? ⟨P, 0, none⟩ = some (.int .i64 s)) (c1 : w.cell? ⟨P, 1, none⟩ = some (.int .i64 l)) (c2 : w.cell? ⟨P, 2, none⟩ = some (.slice A n c)) (c3 : w.cell? ⟨P, 3, none⟩ = some (.slice B m d)) :
    Calls Try.prog 137 #[.pointer (some ⟨P, 0, none⟩)] w fun e w' => e = .returned (.bool (validP s l n m f)) ∧ ∃ q, w' = w.drewN q := by
  cases hs : inB s 1 64
  · have H1 := Lib.hid (l00In_is hs)
    have HR := Lib.hid (show validP s l n m f = false from validP_1 hs)
    clear hs hA
    go_enter Try.func137, Try.ntmps137
    go_wp2_with fail
    go_quiet ((first | (go_at_call_of 130 (Value.int IntKind.i64 v); exact Calls.quiet_of_same (H3.out _)) | (go_at_call_of 130 (Value.int IntKind.i64 s); exact Calls.quiet_of_same (H1.out _)) | (go_at_call_of 130 (Value.int IntKind.i64 l); exact Calls.quiet_of_same (H2.out _))))
    go_wp2_with fail
    go_ret
    refine ⟨ret_bool HR.out.symm, ?_⟩
    first | exact ⟨_, rfl⟩ | exact ⟨0, rfl⟩ | exact ⟨_, hw.out⟩ | (rw [hw.out]; exact ⟨_, World.drewN_drewN ..⟩)
  · obtain ⟨s1, s2⟩ := inB_iff.1 hs
    have H1 := Lib.hid (l00In_is hs)
    clear hs
    cases hl : inB l 1 4
    · have H2 := Lib.hid (l00In_is hl)
      have HR := Lib.hid (show validP s l n m f = false from validP_2 hl)
      clear hl hA
      go_enter Try.func137, Try.ntmps137
      go_wp2_with fail
      go_quiet ((first | (go_at_call_of 130 (Value.int IntKind.i64 v); exact Calls.quiet_of_same (H3.out _)) | (go_at_call_of 130 (Value.int IntKind.i64 s); exact Calls.quiet_of_same (H1.out _)) | (go_at_call_of 130 (Value.int IntKind.i64 l); exact Calls.quiet_of_same (H2.out _))))
      go_wp2_with fail
      go_ret
      refine ⟨ret_bool HR.out.symm, ?_⟩
      first | exact ⟨_, rfl⟩ | exact ⟨0, rfl⟩ | exact ⟨_, hw.out⟩ | (rw [hw.out]; exact ⟨_, World.drewN_drewN ..⟩)
    · obtain ⟨l1, l2⟩ := inB_iff.1 hl
      have H2 := Lib.hid (l00In_is hl)
      clear hl
      obtain ⟨p1, p2⟩ := mul_le_256 s1 s2 l1 l2
      have hwr : IntKind.i64.wrap (s - 1) = s - 1 := by rw [IntKind.wrap_i64]; omega
      have hwm : IntKind.i64.wrap (s * l) = s * l := by rw [IntKind.wrap_i64]; omega
      by_cases h3 : (n : Int) = s * l
      · by_cases h4 : (m : Int) = s
        · have HV := Lib.hid (show (∀ j, j < n → inB (f j) 0 (s - 1) = true) → validP s l n m f = true from fun h => validP_iff.2 ⟨s1, s2, l1, l2, h3, h4, fun i hi => inB_iff.1 (h i hi)⟩)
          have HF := Lib.hid (fun k (hk : k < n) e => validP_5 (s := s) (l := l) (m := m) (f := f) hk e)
          generalize validP s l n m f = r at *
          go_enter Try.func137, Try.ntmps137
          go_wp2_with fail
          go_quiet ((first | (go_at_call_of 130 (Value.int IntKind.i64 v); exact Calls.quiet_of_same (H3.out _)) | (go_at_call_of 130 (Value.int IntKind.i64 s); exact Calls.quiet_of_same (H1.out _)) | (go_at_call_of 130 (Value.int IntKind.i64 l); exact Calls.quiet_of_same (H2.out _))))
          go_wp2_with fail
          go_loopw [3] (fun i wr => ∃ k q : Nat, k ≤ n ∧ i = .int .i64 k ∧ Hid (wr = w.drewN q) ∧ Hid (∀ j, j < k → inB (f j) 0 (s - 1) = true)) (fun i _ => n - (intOf i).toNat)
          case atStart => exact ⟨0, _, Nat.zero_le _, rfl, rfl, fun j hj => by omega⟩
          case round =>
            obtain ⟨k, q, hk, rfl, hw, HA⟩ := hrel
            have r0 : wr.cell? ⟨P, 0, none⟩ = some (.int .i64 s) := by rw [hw.out]; exact c0
            have r1 : wr.cell? ⟨P, 1, none⟩ = some (.int .i64 l) := by rw [hw.out]; exact c1
            have r2 : wr.cell? ⟨P, 2, none⟩ = some (.slice A n c) := by rw [hw.out]; exact c2
            have r3 : wr.cell? ⟨P, 3, none⟩ = some (.slice B m d) := by rw [hw.out]; exact c3
            by_cases hlt : k < n
            · have d1 : (k : Int) < n := by omega
              have d1b : (k : Int) < s * l := by omega
              obtain ⟨x, rfl, hx0⟩ := hA k hlt
              have hx : w.cell? (x.add k) = some (.int .i64 (f k)) := hx0
              have hxw : wr.cell? (x.add k) = some (.int .i64 (f k)) := by rw [hw.out]; exact hx
              clear hx0
              have hxa : ∀ o, (w.alloc o).cell? (x.add k) = some (.int .i64 (f k)) := fun o => by rw [World.cell?_alloc_lt w o _ (World.block_lt_of_cell? _ _ hx)]; exact hx
              have HK := Lib.hid (HF.out k hlt)
              have HS := Lib.hid (show inB (f k) 0 (s - 1) = true → ∀ j, j < k + 1 → inB (f j) 0 (s - 1) = true from fun e j hj => by
                rcases Nat.lt_or_ge j k with h | h
                · exact HA.out j h
                · have : j = k := by omega
                  subst this
                  exact e)
              clear hA HA HF HV
              generalize f k = v at *
              cases e : inB v 0 (s - 1)
              · have HR := Lib.hid (HK.out e)
                have H3 := Lib.hid (l00In_is e)
                clear e HK HS
                go_wp2_with fail
                go_quiet ((first | (go_at_call_of 130 (Value.int IntKind.i64 v); exact Calls.quiet_of_same (H3.out _)) | (go_at_call_of 130 (Value.int IntKind.i64 s); exact Calls.quiet_of_same (H1.out _)) | (go_at_call_of 130 (Value.int IntKind.i64 l); exact Calls.quiet_of_same (H2.out _))))
                go_wp2_with fail
                go_ret
                refine ⟨ret_bool HR.out.symm, ?_⟩
                first | exact ⟨_, rfl⟩ | exact ⟨0, rfl⟩ | exact ⟨_, hw.out⟩ | (rw [hw.out]; exact ⟨_, World.drewN_drewN ..⟩)
              · have HN := Lib.hid (HS.out e)
                have H3 := Lib.hid (l00In_is e)
                clear e HK HS
                go_wp2_with fail
                go_quiet ((first | (go_at_call_of 130 (Value.int IntKind.i64 v); exact Calls.quiet_of_same (H3.out _)) | (go_at_call_of 130 (Value.int IntKind.i64 s); exact Calls.quiet_of_same (H1.out _)) | (go_at_call_of 130 (Value.int IntKind.i64 l); exact Calls.quiet_of_same (H2.out _))))
                go_wp2_with fail
                exact ⟨⟨k + 1, q + nq, by omega, by simp, by rw [hw.out]; exact World.drewN_drewN .., HN⟩, by simp [intOf]; omega⟩
            · have d1 : ¬ (k : Int) < n := by omega
              have d1b : ¬ (k : Int) < s * l := by omega
              have e : k = n := by omega
              subst e
              have HR := Lib.hid (HV.out HA.out)
              clear HA HV HF hA
              go_wp2
              go_ret
              refine ⟨ret_bool HR.out.symm, ?_⟩
              first | exact ⟨_, rfl⟩ | exact ⟨0, rfl⟩ | exact ⟨_, hw.out⟩ | (rw [hw.out]; exact ⟨_, World.drewN_drewN ..⟩)
        · have HR := Lib.hid (show validP s l n m f = false from validP_4 h4)
          clear hA
          go_enter Try.func137, Try.ntmps137
          go_wp2_with fail
          go_quiet ((first | (go_at_call_of 130 (Value.int IntKind.i64 v); exact Calls.quiet_of_same (H3.out _)) | (go_at_call_of 130 (Value.int IntKind.i64 s); exact Calls.quiet_of_same (H1.out _)) | (go_at_call_of 130 (Value.int IntKind.i64 l); exact Calls.quiet_of_same (H2.out _))))
          go_wp2_with fail
          go_ret
          refine ⟨ret_bool HR.out.symm, ?_⟩
          first | exact ⟨_, rfl⟩ | exact ⟨0, rfl⟩ | exact ⟨_, hw.out⟩ | (rw [hw.out]; exact ⟨_, World.drewN_drewN ..⟩)
      · have HR := Lib.hid (show validP s l n m f = false from validP_3 h3)
        clear hA
        go_enter Try.func137, Try.ntmps137
        go_wp2_with fail
        go_quiet ((first | (go_at_call_of 130 (Value.int IntKind.i64 v); exact Calls.quiet_of_same (H3.out _)) | (go_at_call_of 130 (Value.int IntKind.i64 s); exact Calls.quiet_of_same (H1.out _)) | (go_at_call_of 130 (Value.int IntKind.i64 l); exact Calls.quiet_of_same (H2.out _))))
        go_wp2_with fail
        go_ret
        refine ⟨ret_bool HR.out.symm, ?_⟩
        first | exact ⟨_, rfl⟩ | exact ⟨0, rfl⟩ | exact ⟨_, hw.out⟩ | (rw [hw.out]; exact ⟨_, World.drewN_drewN ..⟩)

end Go.Proofs.Ytfpombhhnojjhaa
