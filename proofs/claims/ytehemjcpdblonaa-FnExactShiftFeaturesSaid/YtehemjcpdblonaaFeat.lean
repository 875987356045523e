/- Features of letters: both sides' tests. -/
import Derived.Test.YtehemjcpdblonaaContF
import Derived.Test.YtehemjcpdblonaaBoxN
set_option linter.unusedVariables false
namespace Go.Proofs.Ytehemjcpdblonaa
open Go.RowKit

/-- One of the first n of f is x. -/
def hasF (f : Nat → Int) (n : Nat) (x : Int) : Bool := (List.range n).any fun i => decide (f i = x)
theorem hasF_iff {f : Nat → Int} {n : Nat} {x : Int} : hasF f n x = true ↔ ∃ i, i < n ∧ f i = x := by unfold hasF; simp
theorem hasF_no {f : Nat → Int} {n : Nat} {x : Int} (h : ∀ i, i < n → ¬ f i = x) : hasF f n x = false := by
  cases e : hasF f n x
  · rfl
  · obtain ⟨i, hi, e⟩ := hasF_iff.1 e
    exact absurd e (h i hi)
/-- The first place of x, told by i, below 0 if there is none. -/
def IdxAt (f : Nat → Int) (n : Nat) (x i : Int) : Prop := (∃ k : Nat, i = k ∧ k < n ∧ f k = x ∧ ∀ j, j < k → ¬ f j = x) ∨ (i = -1 ∧ ∀ j, j < n → ¬ f j = x)
theorem IdxAt.has {f : Nat → Int} {n : Nat} {x i : Int} (h : IdxAt f n x i) : decide (0 ≤ i) = hasF f n x := by
  rcases h with ⟨k, rfl, hk, e, _⟩ | ⟨rfl, h⟩
  · rw [hasF_iff.2 ⟨k, hk, e⟩]; simp
  · rw [hasF_no h]; rfl
def featP (x : Int) : Bool := inB x 0 255
/-- All are different. -/
def apartB (f : Nat → Int) (n : Nat) : Bool := (List.range n).all fun i => !hasF f i (f i)
theorem apartB_iff {f : Nat → Int} {n : Nat} : apartB f n = true ↔ ∀ i, i < n → hasF f i (f i) = false := by unfold apartB; simp [List.all_eq_true]
theorem apartB_no {f : Nat → Int} {n k : Nat} (hk : k < n) (h : hasF f k (f k) = true) : apartB f n = false := by
  cases e : apartB f n
  · rfl
  · rw [apartB_iff.1 e k hk] at h; cases h
/-- The features of letters. -/
def featsB (f : Nat → Int) (n : Nat) : Bool := inB n 1 4 && (allP featP f n && apartB f n)

theorem l00Has_any (A : Option Addr) (n c : Nat) (f : Nat → Int) (x : Int) (w : World) (hn : n ≤ 1048576) (h : Cells w A n (fun i => .int .i64 (f i))) :
    Calls Try.prog 96 #[.slice A n c, .int .i64 x] w fun e w' => e = .returned (.bool (hasF f n x)) ∧ w = w' := by
  have H := Lib.hid h
  have HY := Lib.hid (fun k (hk : k < n) (e : f k = x) => hasF_iff.2 ⟨k, hk, e⟩)
  have HN := Lib.hid (fun e => hasF_no (f := f) (n := n) (x := x) e)
  clear h
  generalize hasF f n x = r at *
  go_enter Try.func96, Try.ntmps96
  go_wp2_with fail
  go_loop [5] (fun i => ∃ k : Nat, k ≤ n ∧ i = .int .i64 k ∧ Hid (∀ j, j < k → ¬ f j = x)) (fun i => n - (intOf i).toNat)
  case atStart => exact ⟨0, Nat.zero_le _, rfl, fun j hj => by omega⟩
  case round =>
    obtain ⟨k, hk, rfl, HA⟩ := hrel
    by_cases hlt : k < n
    · have d1 : (k : Int) < n := by omega
      obtain ⟨a, rfl, hx0⟩ := H.out k hlt
      have hx : w.cell? (a.add k) = some (.int .i64 (f k)) := hx0
      have HK := Lib.hid (HY.out k hlt)
      have HS := Lib.hid (show ¬ f k = x → ∀ j, j < k + 1 → ¬ f j = x from fun e j hj => by
        rcases Nat.lt_or_ge j k with h | h
        · exact HA.out j h
        · have : j = k := by omega
          subst this
          exact e)
      clear hx0 HA HY HN
      generalize f k = v at *
      by_cases e : v = x
      · have HR := Lib.hid (HK.out e)
        have b : (v == x) = true := by simpa using e
        clear e HK HS
        go_wp2_with fail
        go_ret
        exact ⟨ret_bool HR.out.symm, rfl⟩
      · have HR := Lib.hid (HS.out e)
        have b : (v == x) = false := by simpa using e
        clear e HK HS
        go_wp2_with fail
        go_round
        case rel => exact ⟨k + 1, by omega, by go_num, HR.out⟩
        case measure => simp [intOf]; omega
    · have d1 : ¬ (k : Int) < n := by omega
      have e : k = n := by omega
      subst e
      have HR := Lib.hid (HN.out HA.out)
      go_wp2_with fail
      go_ret
      exact ⟨ret_bool HR.out.symm, rfl⟩
theorem slicesIndexI_any (A : Option Addr) (n c : Nat) (f : Nat → Int) (x : Int) (w : World) (hn : n ≤ 1048576) (h : Cells w A n (fun i => .int .i64 (f i))) :
    Calls Try.prog 77 #[.slice A n c, .int .i64 x] w fun e w' => (∃ i, e = .returned (.int .i64 i) ∧ IdxAt f n x i) ∧ w = w' := by
  have H := Lib.hid h
  clear h
  go_enter Try.func77, Try.ntmps77
  go_wp2_with fail
  go_loop [5, 8] (fun _ i => ∃ k : Nat, k ≤ n ∧ i = .int .i64 k ∧ Hid (∀ j, j < k → ¬ f j = x)) (fun _ i => n - (intOf i).toNat)
  case atStart => exact ⟨0, Nat.zero_le _, rfl, fun j hj => by omega⟩
  case round =>
    obtain ⟨k, hk, rfl, HA⟩ := hrel
    by_cases hlt : k < n
    · have d1 : (k : Int) < n := by omega
      obtain ⟨a, rfl, hx0⟩ := H.out k hlt
      have hx : w.cell? (a.add k) = some (.int .i64 (f k)) := hx0
      have HS := Lib.hid (show ¬ f k = x → ∀ j, j < k + 1 → ¬ f j = x from fun e j hj => by
        rcases Nat.lt_or_ge j k with h | h
        · exact HA.out j h
        · have : j = k := by omega
          subst this
          exact e)
      have HQ := Lib.hid (show f k = x → IdxAt f n x k from fun e => .inl ⟨k, rfl, hlt, e, HA.out⟩)
      clear hx0 HA
      generalize f k = v at *
      by_cases e : v = x
      · have HR := Lib.hid (HQ.out e)
        have b : (v == x) = true := by simpa using e
        have b2 : (x == v) = true := by simpa using e.symm
        clear HS HQ
        go_wp2_with fail
        go_ret
        exact ⟨⟨_, rfl, HR.out⟩, rfl⟩
      · have HR := Lib.hid (HS.out e)
        have b : (v == x) = false := by simpa using e
        have b2 : (x == v) = false := by simpa using fun q : x = v => e q.symm
        clear e HS HQ
        go_wp2_with fail
        go_round
        case rel => exact ⟨k + 1, by omega, by go_num, HR.out⟩
        case measure => simp [intOf]; omega
    · have d1 : ¬ (k : Int) < n := by omega
      have e : k = n := by omega
      subst e
      go_wp2_with fail
      go_ret
      exact ⟨⟨_, rfl, .inr ⟨rfl, HA.out⟩⟩, rfl⟩
theorem slicesContainsI_any (A : Option Addr) (n c : Nat) (f : Nat → Int) (x : Int) (w : World) (hn : n ≤ 1048576) (h : Cells w A n (fun i => .int .i64 (f i))) :
    Calls Try.prog 97 #[.slice A n c, .int .i64 x] w fun e w' => e = .returned (.bool (hasF f n x)) ∧ w = w' := by
  have H := Lib.hid (slicesIndexI_any A n c f x w hn h)
  clear h
  go_enter Try.func97, Try.ntmps97
  go_wp2_with fail
  refine H.out.mono ?_
  rintro e w' ⟨⟨i, rfl, hi⟩, rfl⟩
  have HI := Lib.hid hi.has
  clear hi
  by_cases h : 0 ≤ i
  · have HD := Lib.hid (decide_eq_true h)
    go_wp2_with fail
    go_ret
    exact ⟨ret_bool (by rw [← HI.out, HD.out]), rfl⟩
  · have HD := Lib.hid (decide_eq_false h)
    go_wp2_with fail
    go_ret
    exact ⟨ret_bool (by rw [← HI.out, HD.out]), rfl⟩
theorem haveFeatures1_any (z : Int) (w : World) : Calls Try.prog 98 #[.int .i64 z] w fun e w' => e = .returned (.bool (!featP z)) ∧ w = w' := by
  have HI := Lib.hid (fun W => between_any z 0 255 W)
  have HE := Lib.hid (show featP z = inB z 0 255 from rfl)
  generalize inB z 0 255 = r at *
  go_enter Try.func98, Try.ntmps98
  go_wp2_with fail
  refine (HI.out _).mono ?_
  rintro e w' ⟨rfl, rfl⟩
  go_wp2_with fail
  go_ret
  exact ⟨ret_bool (by rw [HE.out]), rfl⟩
theorem haveFeatures_any (E : Option Addr) (r i : Nat) (u : Nat → Int) (w : World) (hr : r ≤ 1048576) (hE : Cells w E r (fun i => .int .i64 (u i))) :
    Calls Try.prog 75 #[.slice E r i] w fun e w' => e = .returned (.bool (allP featP u r)) ∧ w = w' := by
  have HC := Lib.hid (containsFeats featP E r i u w hr hE (fun z => haveFeatures1_any z w))
  clear hE
  generalize allP featP u r = R at *
  go_enter Try.func75, Try.ntmps75
  go_wp2_with fail
  refine HC.out.mono ?_
  rintro e w' ⟨rfl, rfl⟩
  go_wp2_with fail
  go_ret
  exact ⟨ret_bool (by cases R <;> rfl), rfl⟩
theorem areFeatures_any (A : Option Addr) (n c : Nat) (f : Nat → Int) (w : World) (hn : n ≤ 1048576) (hc : n ≤ c ∧ c ≤ 1048576) (h : Cells w A n (fun i => .int .i64 (f i))) :
    Calls Try.prog 74 #[.slice A n c] w fun e w' => e = .returned (.bool (featsB f n)) ∧ w = w' := by
  have HU := Lib.hid (show featsB f n = (inB n 1 4 && (allP featP f n && apartB f n)) from rfl)
  have HB := Lib.hid (fun W => between_any n 1 4 W)
  have HF := Lib.hid (haveFeatures_any A n c f w hn h)
  have HC := Lib.hid (fun a k x (hA : A = some a) (hk : k ≤ n) => slicesContainsI_any (some a) k c f x w (by omega) ((hA ▸ h).le hk))
  have HN := Lib.hid (fun k (hk : k < n) e => apartB_no (f := f) hk e)
  have HV := Lib.hid (fun e => (apartB_iff (f := f) (n := n)).2 e)
  have H := Lib.hid h
  clear h
  generalize featsB f n = r at *
  generalize allP featP f n = r2 at *
  generalize apartB f n = r3 at *
  obtain ⟨c1, c2⟩ := hc
  cases h1 : inB (n : Int) 1 4
  · rw [h1] at HB HU
    clear h1
    go_enter Try.func74, Try.ntmps74
    go_wp2_with fail
    refine (HB.out _).mono ?_
    rintro e w' ⟨rfl, rfl⟩
    go_wp2_with fail
    go_ret
    exact ⟨ret_bool (by rw [HU.out]; rfl), rfl⟩
  rw [h1] at HB HU
  clear h1
  cases r2
  · go_enter Try.func74, Try.ntmps74
    go_wp2_with fail
    refine (HB.out _).mono ?_
    rintro e w' ⟨rfl, rfl⟩
    go_wp2_with fail
    refine HF.out.mono ?_
    rintro e w' ⟨rfl, rfl⟩
    go_wp2_with fail
    go_ret
    exact ⟨ret_bool (by rw [HU.out]; rfl), rfl⟩
  have HU2 := Lib.hid (show r = r3 by rw [HU.out]; simp)
  go_enter Try.func74, Try.ntmps74
  go_wp2_with fail
  refine (HB.out _).mono ?_
  rintro e w' ⟨rfl, rfl⟩
  go_wp2_with fail
  refine HF.out.mono ?_
  rintro e w' ⟨rfl, rfl⟩
  go_wp2_with fail
  go_loop [3, 4, 16] (fun _ _ i => ∃ k : Nat, k ≤ n ∧ i = .int .i64 k ∧ Hid (∀ j, j < k → hasF f j (f j) = false)) (fun _ _ i => n - (intOf i).toNat)
  case atStart => exact ⟨0, Nat.zero_le _, rfl, fun j hj => by omega⟩
  case round =>
    obtain ⟨k, hk, rfl, HA⟩ := hrel
    by_cases hlt : k < n
    · have d1 : (k : Int) < n := by omega
      obtain ⟨a, rfl, hx0⟩ := H.out k hlt
      have hx : w.cell? (a.add k) = some (.int .i64 (f k)) := hx0
      have HK := Lib.hid (HN.out k hlt)
      have HCk := Lib.hid (HC.out a k (f k) rfl hk)
      have HS := Lib.hid (show hasF f k (f k) = false → ∀ j, j < k + 1 → hasF f j (f j) = false from fun e j hj => by
        rcases Nat.lt_or_ge j k with h | h
        · exact HA.out j h
        · have : j = k := by omega
          subst this
          exact e)
      have s1 : (k : Int) ≤ c := by omega
      clear hx0 HA HN HV HC
      generalize hasF f k (f k) = rh at *
      generalize f k = v at *
      cases rh
      · have HR := Lib.hid (HS.out rfl)
        clear HK HS
        go_wp2_with fail
        refine HCk.out.mono ?_
        rintro e w' ⟨rfl, rfl⟩
        go_wp2_with fail
        go_round
        case rel => exact ⟨k + 1, by omega, by go_num, HR.out⟩
        case measure => simp [intOf]; omega
      · have HR := Lib.hid (HK.out rfl)
        clear HK HS
        go_wp2_with fail
        refine HCk.out.mono ?_
        rintro e w' ⟨rfl, rfl⟩
        go_wp2_with fail
        go_ret
        exact ⟨ret_bool (by rw [HU2.out, HR.out]), rfl⟩
    · have d1 : ¬ (k : Int) < n := by omega
      have e : k = n := by omega
      subst e
      have HR := Lib.hid (HV.out HA.out)
      clear HA HN HV
      go_wp2_with fail
      go_ret
      exact ⟨ret_bool (by rw [HU2.out, HR.out]), rfl⟩
theorem l05Features_any (A : Option Addr) (n c : Nat) (f : Nat → Int) (w : World) (hn : n ≤ 1048576) (hc : n ≤ c ∧ c ≤ 1048576) (h : Cells w A n (fun i => .int .i64 (f i))) :
    Calls Try.prog 73 #[.slice A n c] w fun e w' => e = .returned (.bool (featsB f n)) ∧ ∃ q, w' = w.drewN q := by
  have HU := Lib.hid (show featsB f n = (inB n 1 4 && (allP featP f n && apartB f n)) from rfl)
  have HC := Lib.hid (fun a k x j (hA : A = some a) (hk : k ≤ n) => (l00Has_any (some a) k c f x (w.drewN j) (by omega) ((hA ▸ h).le hk)).mono fun e w' q => (⟨q.1, q.2.symm⟩ : e = .returned (.bool (hasF f k x)) ∧ w' = w.drewN j))
  have HN := Lib.hid (fun k (hk : k < n) e => apartB_no (f := f) hk e)
  have HV := Lib.hid (fun e => (apartB_iff (f := f) (n := n)).2 e)
  have HN2 := Lib.hid (fun k (hk : k < n) e => allP_no (p := featP) (f := f) hk e)
  have HV2 := Lib.hid (fun e => (allP_iff (p := featP) (f := f) (n := n)).2 e)
  have H := Lib.hid h
  clear h
  generalize featsB f n = r at *
  generalize allP featP f n = r2 at *
  generalize apartB f n = r3 at *
  obtain ⟨c1, c2⟩ := hc
  go_enter Try.func73, Try.ntmps73
  go_wp2_with fail
  go_loopw [3, 6] (fun _ i wr => ∃ k q : Nat, k ≤ n ∧ i = .int .i64 k ∧ Hid (wr = w.drewN q) ∧ Hid (∀ j, j < k → featP (f j) = true) ∧ Hid (∀ j, j < k → hasF f j (f j) = false)) (fun _ i _ => n - (intOf i).toNat)
  case atStart => exact ⟨0, 0, Nat.zero_le _, rfl, rfl, fun j hj => by omega, fun j hj => by omega⟩
  case round =>
    obtain ⟨k, q, hk, rfl, hw, HP, HA⟩ := hrel
    by_cases hlt : k < n
    · have d1 : (k : Int) < n := by omega
      obtain ⟨a, rfl, hx0⟩ := H.out k hlt
      have hx : wr.cell? (a.add k) = some (.int .i64 (f k)) := by rw [hw.out]; exact hx0
      have HK := Lib.hid (HN.out k hlt)
      have HK2 := Lib.hid (HN2.out k hlt)
      have HCk := Lib.hid (fun j => HC.out a k (f k) (q + j) rfl hk)
      have HS := Lib.hid (show hasF f k (f k) = false → ∀ j, j < k + 1 → hasF f j (f j) = false from fun e j hj => by
        rcases Nat.lt_or_ge j k with h | h
        · exact HA.out j h
        · have : j = k := by omega
          subst this
          exact e)
      have HS2 := Lib.hid (show featP (f k) = true → ∀ j, j < k + 1 → featP (f j) = true from fun e j hj => by
        rcases Nat.lt_or_ge j k with h | h
        · exact HP.out j h
        · have : j = k := by omega
          subst this
          exact e)
      have s1 : (k : Int) ≤ c := by omega
      have HE := Lib.hid (show featP (f k) = inB (f k) 0 255 from rfl)
      clear hx0 HA HP HN HV HC HN2 HV2
      generalize hasF f k (f k) = rh at *
      generalize featP (f k) = rp at *
      generalize f k = v at *
      cases e0 : inB v 0 255
      · have J0 := Lib.hid (l00In_is e0)
        have HR := Lib.hid (HK2.out (by rw [HE.out, e0]))
        clear e0 HE HK HS HK2 HS2
        go_wp2_with fail
        go_quiet ((first | (go_at_call 66; exact Calls.quiet_of_same (J0.out _))))
        go_wp2_with fail
        go_ret
        exact ⟨ret_bool (by rw [HU.out, HR.out]; simp), _, by rw [hw.out]; exact World.drewN_drewN ..⟩
      have J0 := Lib.hid (l00In_is e0)
      have HR2 := Lib.hid (HS2.out (by rw [HE.out, e0]))
      clear e0 HE HK2 HS2
      have HCw := Lib.hid (fun j => (show Calls Try.prog 96 #[.slice (some a) k c, .int .i64 v] (wr.drewN j) fun e w' => e = .returned (.bool rh) ∧ w' = wr.drewN j from by rw [hw.out, World.drewN_drewN]; exact HCk.out j))
      cases rh
      · have HR := Lib.hid (HS.out rfl)
        clear HK HS HCk
        go_wp2_with fail
        go_quiet ((first | (go_at_call 66; exact Calls.quiet_of_same (J0.out _)) | (go_at_call 96; exact Calls.quiet_of_same (HCw.out _))))
        go_wp2_with fail
        exact ⟨⟨k + 1, q + nq, by omega, by simp, by rw [hw.out]; exact World.drewN_drewN .., HR2.out, HR.out⟩, by simp [intOf]; omega⟩
      · have HR := Lib.hid (HK.out rfl)
        clear HK HS HCk
        go_wp2_with fail
        go_quiet ((first | (go_at_call 66; exact Calls.quiet_of_same (J0.out _)) | (go_at_call 96; exact Calls.quiet_of_same (HCw.out _))))
        go_wp2_with fail
        go_ret
        exact ⟨ret_bool (by rw [HU.out, HR.out]; simp), _, by rw [hw.out]; exact World.drewN_drewN ..⟩
    · have d1 : ¬ (k : Int) < n := by omega
      have e : k = n := by omega
      subst e
      have HR := Lib.hid (HV.out HA.out)
      have HR2 := Lib.hid (HV2.out HP.out)
      clear HA HN HV HN2 HV2 HP
      have HU2 := Lib.hid (show r = (decide (1 ≤ (k : Int)) && decide ((k : Int) ≤ 4)) by rw [HU.out, HR.out, HR2.out]; simp [inB])
      by_cases q1 : 1 ≤ (k : Int)
      · by_cases q2 : (k : Int) ≤ 4
        · go_wp2_with fail
          go_ret
          exact ⟨ret_bool (by rw [HU2.out]; simp [q1, q2]), _, hw.out⟩
        · go_wp2_with fail
          go_ret
          exact ⟨ret_bool (by rw [HU2.out]; simp [q2]), _, hw.out⟩
      · go_wp2_with fail
        go_ret
        exact ⟨ret_bool (by rw [HU2.out]; simp; omega), _, hw.out⟩
end Go.Proofs.Ytehemjcpdblonaa
