/- Machines: whether they are valid, on both sides. -/
import Derived.Test.YteagfbedbbnomaaMachM
import Derived.Test.YteagfbedbbnomaaIn
set_option linter.unusedVariables false
namespace Go.Proofs.Yteagfbedbbnomaa
open Go.RowKit

/-- All of n numbers are from a to b. -/
def allB (f : Nat → Int) (n : Nat) (a b : Int) : Bool := (List.range n).all fun i => inB (f i) a b
theorem allB_iff {f : Nat → Int} {n : Nat} {a b : Int} : allB f n a b = true ↔ ∀ i, i < n → inB (f i) a b = true := by
  unfold allB; rw [List.all_eq_true]; simp
theorem allB_no {f : Nat → Int} {n k : Nat} {a b : Int} (hk : k < n) (h : inB (f k) a b = false) : allB f n a b = false := by
  cases e : allB f n a b
  · rfl
  · rw [allB_iff.1 e k hk] at h; cases h
/-- As many costs as states. -/
def marksB (g : Nat → Int) (m : Nat) (s : Int) : Bool := decide ((m : Int) = s) && allB g m (-1) 1000
/-- An arc's four numbers. -/
def arcB (s l a b c d : Int) : Bool := inB a 0 (s - 1) && (inB b 0 (s - 1) && (inB c (-1) (l - 1) && inB d 0 1000))
def arcsB (s l : Int) (f : Nat → Int) (n : Nat) : Bool := (List.range n).all fun i => arcB s l (f (i * 4)) (f (i * 4 + 1)) (f (i * 4 + 2)) (f (i * 4 + 3))
theorem arcsB_iff {s l : Int} {f : Nat → Int} {n : Nat} : arcsB s l f n = true ↔ ∀ i, i < n → arcB s l (f (i * 4)) (f (i * 4 + 1)) (f (i * 4 + 2)) (f (i * 4 + 3)) = true := by
  unfold arcsB; rw [List.all_eq_true]; simp
theorem arcsB_no {s l : Int} {f : Nat → Int} {n k : Nat} (hk : k < n) (h : arcB s l (f (k * 4)) (f (k * 4 + 1)) (f (k * 4 + 2)) (f (k * 4 + 3)) = false) : arcsB s l f n = false := by
  cases e : arcsB s l f n
  · rfl
  · rw [arcsB_iff.1 e k hk] at h; cases h
/-- A valid machine. -/
def validM (s l : Int) (n m o : Nat) (f g h : Nat → Int) : Bool := inB s 1 16 && (inB l 1 4 && (decide (n ≤ 128) && (arcsB s l f n && (marksB g m s && marksB h o s))))

theorem l02Marks_any (A : Option Addr) (m c : Nat) (g : Nat → Int) (s : Int) (w : World) (hm : m ≤ 4611686018427387904) (hA : Cells w A m (fun i => .int .i64 (g i))) :
    Calls Try.prog 79 #[.slice A m c, .int .i64 s] w fun e w' => e = .returned (.bool (marksB g m s)) ∧ w = w' := by
  have HU := Lib.hid (show marksB g m s = (decide ((m : Int) = s) && allB g m (-1) 1000) from rfl)
  have HK := Lib.hid (fun k (hk : k < m) e => allB_no (f := g) (n := m) (a := -1) (b := 1000) hk e)
  have HV := Lib.hid (fun h => (allB_iff (f := g) (n := m) (a := -1) (b := 1000)).2 h)
  have H := Lib.hid hA
  clear hA
  generalize marksB g m s = r at *
  go_enter Try.func79, Try.ntmps79
  go_wp2_with fail
  go_loop [5] (fun i => ∃ k : Nat, k ≤ m ∧ i = .int .i64 k ∧ Hid (∀ j, j < k → inB (g j) (-1) 1000 = true)) (fun i => m - (intOf i).toNat)
  case atStart => exact ⟨0, Nat.zero_le _, rfl, fun j hj => by omega⟩
  case round =>
    obtain ⟨k, hk, rfl, HA⟩ := hrel
    by_cases hlt : k < m
    · have d1 : (k : Int) < m := by omega
      obtain ⟨x, rfl, hx0⟩ := H.out k hlt
      have hx : w.cell? (x.add k) = some (.int .i64 (g k)) := hx0
      have HN := Lib.hid (HK.out k hlt)
      have HS := Lib.hid (show inB (g k) (-1) 1000 = true → ∀ j, j < k + 1 → inB (g j) (-1) 1000 = true from fun e j hj => by
        rcases Nat.lt_or_ge j k with h | h
        · exact HA.out j h
        · have : j = k := by omega
          subst this
          exact e)
      clear hx0 HA HK HV
      generalize g k = v at *
      cases e : inB v (-1) 1000
      · have HR := Lib.hid (HN.out e)
        have H3 := Lib.hid (l00In_is e)
        clear e HN HS
        go_wp2_with ((go_at_call 78; refine (H3.out _).mono ?_; rintro e w' ⟨rfl, rfl⟩))
        go_ret
        exact ⟨ret_bool (by rw [HU.out, HR.out]; simp), rfl⟩
      · have HR := Lib.hid (HS.out e)
        have H3 := Lib.hid (l00In_is e)
        clear e HN HS
        go_wp2_with ((go_at_call 78; refine (H3.out _).mono ?_; rintro e w' ⟨rfl, rfl⟩))
        go_round
        case rel => exact ⟨k + 1, by omega, by go_num, HR⟩
        case measure => simp [intOf]; omega
    · have d1 : ¬ (k : Int) < m := by omega
      have e : k = m := by omega
      subst e
      have HR := Lib.hid (HV.out HA.out)
      clear HA HK HV
      by_cases hs : (k : Int) = s
      · have b1 : ((k : Int) == s) = true := by simpa using hs
        have HS := Lib.hid hs
        clear hs
        go_wp2_with fail
        go_ret
        exact ⟨ret_bool (by rw [HU.out, HR.out]; simp [HS.out]), rfl⟩
      · first
          | exact absurd b0 (by simp [hs])
          | (have b1 : ((k : Int) == s) = false := by simpa using hs
             have HS := Lib.hid hs
             go_wp2_with fail
             go_ret
             exact ⟨ret_bool (by rw [HU.out, HR.out]; simp [HS.out]), rfl⟩)
theorem areStateCosts_any (A : Option Addr) (m c : Nat) (g : Nat → Int) (s : Int) (w : World) (hm : m ≤ 4611686018427387904) (hA : Cells w A m (fun i => .int .i64 (g i))) :
    Calls Try.prog 62 #[.slice A m c, .int .i64 s] w fun e w' => e = .returned (.bool (marksB g m s)) ∧ w = w' := by
  have HU := Lib.hid (show marksB g m s = (decide ((m : Int) = s) && allB g m (-1) 1000) from rfl)
  have HK := Lib.hid (fun k (hk : k < m) e => allB_no (f := g) (n := m) (a := -1) (b := 1000) hk e)
  have HV := Lib.hid (fun h => (allB_iff (f := g) (n := m) (a := -1) (b := 1000)).2 h)
  have H := Lib.hid hA
  clear hA
  generalize marksB g m s = r at *
  by_cases hs : (m : Int) = s
  · have b0 : ((m : Int) != s) = false := by simpa using hs
    clear hs
    go_enter Try.func62, Try.ntmps62
    go_wp2_with fail
    go_loop [6,13] (fun (_:Value)(i:Value) => ∃ k : Nat, k ≤ m ∧ i = .int .i64 k ∧ Hid (∀ j, j < k → inB (g j) (-1) 1000 = true)) (fun (_:Value)(i:Value) => m - (intOf i).toNat)
    case atStart => exact ⟨0, Nat.zero_le _, rfl, fun j hj => by omega⟩
    case round =>
      obtain ⟨k, hk, rfl, HA⟩ := hrel
      by_cases hlt : k < m
      · have d1 : (k : Int) < m := by omega
        obtain ⟨x, rfl, hx0⟩ := H.out k hlt
        have hx : w.cell? (x.add k) = some (.int .i64 (g k)) := hx0
        have HN := Lib.hid (HK.out k hlt)
        have HS := Lib.hid (show inB (g k) (-1) 1000 = true → ∀ j, j < k + 1 → inB (g j) (-1) 1000 = true from fun e j hj => by
          rcases Nat.lt_or_ge j k with h | h
          · exact HA.out j h
          · have : j = k := by omega
            subst this
            exact e)
        clear hx0 HA HK HV
        generalize g k = v at *
        cases e : inB v (-1) 1000
        · have HR := Lib.hid (HN.out e)
          have H3 := Lib.hid (between_is e)
          clear e HN HS
          go_wp2_with ((go_at_call 60; refine (H3.out _).mono ?_; rintro e w' ⟨rfl, rfl⟩))
          go_ret
          exact ⟨ret_bool (by rw [HU.out, HR.out]; simp), rfl⟩
        · have HR := Lib.hid (HS.out e)
          have H3 := Lib.hid (between_is e)
          clear e HN HS
          go_wp2_with ((go_at_call 60; refine (H3.out _).mono ?_; rintro e w' ⟨rfl, rfl⟩))
          go_round
          case rel => exact ⟨k + 1, by omega, by go_num, HR⟩
          case measure => simp [intOf]; omega
      · have d1 : ¬ (k : Int) < m := by omega
        have e : k = m := by omega
        subst e
        have HR := Lib.hid (HV.out HA.out)
        clear HA HK HV
        by_cases hs : (k : Int) = s
        · have b1 : ((k : Int) == s) = true := by simpa using hs
          have HS := Lib.hid hs
          clear hs
          go_wp2_with fail
          go_ret
          exact ⟨ret_bool (by rw [HU.out, HR.out]; simp [HS.out]), rfl⟩
        · first
            | exact absurd b0 (by simp [hs])
            | (have b1 : ((k : Int) == s) = false := by simpa using hs
               have HS := Lib.hid hs
               go_wp2_with fail
               go_ret
               exact ⟨ret_bool (by rw [HU.out, HR.out]; simp [HS.out]), rfl⟩)
  · have b1 : ((m : Int) != s) = true := by simpa using hs
    go_enter Try.func62, Try.ntmps62
    go_wp2_with fail
    go_ret
    exact ⟨ret_bool (by rw [HU.out]; simp [hs]), rfl⟩

theorem isArcOf_any (s l : Int) (A B C : Option Addr) (n c m d o q : Nat) (u0 u1 u2 u3 : Int) (w : World) (hs : 1 ≤ s) (hs2 : s ≤ 16) (hl : 1 ≤ l) (hl2 : l ≤ 4) :
    Calls Try.prog 61 #[.agg #[.int .i64 s, .int .i64 l, .slice A n c, .slice B m d, .slice C o q], .agg #[.int .i64 u0, .int .i64 u1, .int .i64 u2, .int .i64 u3]] w fun e w' => e = .returned (.bool (arcB s l u0 u1 u2 u3)) ∧ Below w.heap.size w w' := by
  have HU := Lib.hid (show arcB s l u0 u1 u2 u3 = (inB u0 0 (s - 1) && (inB u1 0 (s - 1) && (inB u2 (-1) (l - 1) && inB u3 0 1000))) from rfl)
  generalize arcB s l u0 u1 u2 u3 = r at *
  cases h0 : inB u0 0 (s - 1)
  · have H0 := Lib.hid (between_is h0)
    rw [h0] at HU
    clear h0
    go_enter Try.func61, Try.ntmps61
    go_wp2_with ((go_at_call 60; refine (H0.out _).mono ?_; rintro e w' ⟨rfl, rfl⟩))
    go_ret
    exact ⟨ret_bool (by rw [HU.out]; rfl), (by repeat (first | exact Below.refl _ _ | exact Hid.out (by assumption) | refine below_alloc ?_ _ | refine Below.setCell ?_ (by simp <;> omega) _ | refine Below.alloc ?_ (by simp <;> omega) _ | refine Below.drew ?_ | refine below_drewN ?_ _))⟩
  · have H0 := Lib.hid (between_is h0)
    rw [h0] at HU
    clear h0
    cases h1 : inB u1 0 (s - 1)
    · have H1 := Lib.hid (between_is h1)
      rw [h1] at HU
      clear h1
      go_enter Try.func61, Try.ntmps61
      go_wp2_with ((first | (go_at_call_of 60 (Value.int IntKind.i64 u0); refine (H0.out _).mono ?_) | (go_at_call_of 60 (Value.int IntKind.i64 u1); refine (H1.out _).mono ?_)); rintro e w' ⟨rfl, rfl⟩)
      go_ret
      exact ⟨ret_bool (by rw [HU.out]; rfl), (by repeat (first | exact Below.refl _ _ | exact Hid.out (by assumption) | refine below_alloc ?_ _ | refine Below.setCell ?_ (by simp <;> omega) _ | refine Below.alloc ?_ (by simp <;> omega) _ | refine Below.drew ?_ | refine below_drewN ?_ _))⟩
    · have H1 := Lib.hid (between_is h1)
      rw [h1] at HU
      clear h1
      cases h2 : inB u2 (-1) (l - 1)
      · have H2 := Lib.hid (between_is h2)
        rw [h2] at HU
        clear h2
        go_enter Try.func61, Try.ntmps61
        go_wp2_with ((first | (go_at_call_of 60 (Value.int IntKind.i64 u0); refine (H0.out _).mono ?_) | (go_at_call_of 60 (Value.int IntKind.i64 u1); refine (H1.out _).mono ?_) | (go_at_call_of 60 (Value.int IntKind.i64 u2); refine (H2.out _).mono ?_)); rintro e w' ⟨rfl, rfl⟩)
        go_ret
        exact ⟨ret_bool (by rw [HU.out]; rfl), (by repeat (first | exact Below.refl _ _ | exact Hid.out (by assumption) | refine below_alloc ?_ _ | refine Below.setCell ?_ (by simp <;> omega) _ | refine Below.alloc ?_ (by simp <;> omega) _ | refine Below.drew ?_ | refine below_drewN ?_ _))⟩
      · have H2 := Lib.hid (between_is h2)
        rw [h2] at HU
        clear h2
        have H3 := Lib.hid (between_is (n := u3) (a := 0) (b := 1000) rfl)
        generalize inB u3 0 1000 = r3 at *
        go_enter Try.func61, Try.ntmps61
        go_wp2_with ((first | (go_at_call_of 60 (Value.int IntKind.i64 u0); refine (H0.out _).mono ?_) | (go_at_call_of 60 (Value.int IntKind.i64 u1); refine (H1.out _).mono ?_) | (go_at_call_of 60 (Value.int IntKind.i64 u2); refine (H2.out _).mono ?_) | (go_at_call_of 60 (Value.int IntKind.i64 u3); refine (H3.out _).mono ?_)); rintro e w' ⟨rfl, rfl⟩)
        go_ret
        exact ⟨ret_bool (by rw [HU.out]; rfl), (by repeat (first | exact Below.refl _ _ | exact Hid.out (by assumption) | refine below_alloc ?_ _ | refine Below.setCell ?_ (by simp <;> omega) _ | refine Below.alloc ?_ (by simp <;> omega) _ | refine Below.drew ?_ | refine below_drewN ?_ _))⟩

set_option maxRecDepth 20000 in
set_option maxHeartbeats 1000000 in
theorem implValidMachine_any
  (s l : Int) (A B C : Option Addr) (n c m d o q : Nat) (f g h : Nat → Int) (w : World) (hn : n ≤ 1048576) (hm : m ≤ 1048576) (ho : o ≤ 1048576) (hA : Cells w A (n * 4) (fun i => .int .i64 (f i))) (hB : Cells w B m (fun i => .int .i64 (g i))) (hC : Cells w C o (fun i => .int .i64 (h i)))
  : Calls Try.prog 26 #[.agg #[.int .i64 s, .int .i64 l, .slice A n c, .slice B m d, .slice C o q]] w fun e w' => e = .returned (.bool (validM s l n m o f g h)) ∧ Below w.heap.size w w' := by
  have HU := Lib.hid (show validM s l n m o f g h = (inB s 1 16 && (inB l 1 4 && (decide (n ≤ 128) && (arcsB s l f n && (marksB g m s && marksB h o s))))) from rfl)
  have HA := Lib.hid hA
  have HG := Lib.hid (fun W k => areStateCosts_any B m d g s W (by omega) k)
  have HH := Lib.hid (fun W k => areStateCosts_any C o q h s W (by omega) k)
  have HB := Lib.hid hB
  have HC := Lib.hid hC
  have HN := Lib.hid (fun k (hk : k < n) e => arcsB_no (s := s) (l := l) (f := f) hk e)
  have HV := Lib.hid (fun e => (arcsB_iff (s := s) (l := l) (f := f) (n := n)).2 e)
  clear hA hB hC
  generalize validM s l n m o f g h = r at *
  generalize marksB g m s = r1 at *
  generalize marksB h o s = r2 at *
  cases h0 : inB s 1 16
  · have H0 := Lib.hid (between_is h0)
    rw [h0] at HU
    clear h0
    go_enter Try.func26, Try.ntmps26
    go_wp2_with ((go_at_call 60; refine (H0.out _).mono ?_; rintro e w' ⟨rfl, rfl⟩))
    go_ret
    exact ⟨ret_bool (by rw [HU.out]; rfl), (by repeat (first | exact Below.refl _ _ | exact Hid.out (by assumption) | refine below_alloc ?_ _ | refine Below.setCell ?_ (by simp <;> omega) _ | refine Below.alloc ?_ (by simp <;> omega) _ | refine Below.drew ?_ | refine below_drewN ?_ _))⟩
  · obtain ⟨s1, s2⟩ := inB_iff.1 h0
    have H0 := Lib.hid (between_is h0)
    rw [h0] at HU
    clear h0
    cases h1 : inB l 1 4
    · have H1 := Lib.hid (between_is h1)
      rw [h1] at HU
      clear h1
      go_enter Try.func26, Try.ntmps26
      go_wp2_with ((first | (go_at_call_of 60 (Value.int IntKind.i64 s); refine (H0.out _).mono ?_) | (go_at_call_of 60 (Value.int IntKind.i64 l); refine (H1.out _).mono ?_)); rintro e w' ⟨rfl, rfl⟩)
      go_ret
      exact ⟨ret_bool (by rw [HU.out]; rfl), (by repeat (first | exact Below.refl _ _ | exact Hid.out (by assumption) | refine below_alloc ?_ _ | refine Below.setCell ?_ (by simp <;> omega) _ | refine Below.alloc ?_ (by simp <;> omega) _ | refine Below.drew ?_ | refine below_drewN ?_ _))⟩
    · obtain ⟨l1, l2⟩ := inB_iff.1 h1
      have H1 := Lib.hid (between_is h1)
      rw [h1] at HU
      clear h1
      have HI := Lib.hid (fun u0 u1 u2 u3 W => isArcOf_any s l A B C n c m d o q u0 u1 u2 u3 W s1 s2 l1 l2)
      by_cases h2 : n ≤ 128
      · have d2 : ¬ (128 : Int) < n := by omega
        have HU2 := Lib.hid (show r = (arcsB s l f n && (r1 && r2)) by rw [HU.out]; simp [h2])
        go_enter Try.func26, Try.ntmps26
        go_wp2_with ((first | (go_at_call_of 60 (Value.int IntKind.i64 s); refine (H0.out _).mono ?_) | (go_at_call_of 60 (Value.int IntKind.i64 l); refine (H1.out _).mono ?_)); rintro e w' ⟨rfl, rfl⟩)
        have X0 := Lib.hid (Box5.new w 38 (.int .i64 s) (.int .i64 l) (.slice A n c) (.slice B m d) (.slice C o q))
        go_loopw [4, 24] (fun _ i wr => ∃ k : Nat, k ≤ n ∧ i = .int .i64 k ∧ Hid (Below w.heap.size w wr ∧ Box5 wr w.heap.size (.int .i64 s) (.int .i64 l) (.slice A n c) (.slice B m d) (.slice C o q)) ∧ Hid (∀ j, j < k → arcB s l (f (j * 4)) (f (j * 4 + 1)) (f (j * 4 + 2)) (f (j * 4 + 3)) = true)) (fun _ i _ => n - (intOf i).toNat)
        case atStart => exact ⟨0, Nat.zero_le _, rfl, ⟨(by repeat (first | exact Below.refl _ _ | exact Hid.out (by assumption) | refine below_alloc ?_ _ | refine Below.setCell ?_ (by simp <;> omega) _ | refine Below.alloc ?_ (by simp <;> omega) _ | refine Below.drew ?_ | refine below_drewN ?_ _)), X0.out⟩, fun j hj => by omega⟩
        case round =>
          obtain ⟨k, hk, rfl, HB0, HX⟩ := hrel
          obtain ⟨a0, a1, a2, a3, a4⟩ := HB0.out.2
          by_cases hlt : k < n
          · have d1 : (k : Int) < n := by omega
            obtain ⟨x, rfl, -⟩ := HA.out (k * 4) (by omega)
            obtain ⟨p0, p1, p2, p3⟩ := four (wr := wr) HA.out hlt fun p hp => HB0.out.1.cell hp
            have z0 := HB0.out.2.a0
            have z1 := HB0.out.2.a1
            have z2 := HB0.out.2.a2
            have z3 := HB0.out.2.a3
            have z4 := HB0.out.2.a4
            have HK := Lib.hid (HN.out k hlt)
            have HS := Lib.hid (show arcB s l (f (k * 4)) (f (k * 4 + 1)) (f (k * 4 + 2)) (f (k * 4 + 3)) = true → ∀ j, j < k + 1 → arcB s l (f (j * 4)) (f (j * 4 + 1)) (f (j * 4 + 2)) (f (j * 4 + 3)) = true from fun e j hj => by
              rcases Nat.lt_or_ge j k with h | h
              · exact HX.out j h
              · have : j = k := by omega
                subst this
                exact e)
            have HBB := Lib.hid HB0.out.1
            clear HX HN HV
            generalize f (k * 4) = u0 at *
            generalize f (k * 4 + 1) = u1 at *
            generalize f (k * 4 + 2) = u2 at *
            generalize f (k * 4 + 3) = u3 at *
            have HQ := Lib.hid (HI.out u0 u1 u2 u3)
            cases e : arcB s l u0 u1 u2 u3
            · have HR := Lib.hid (HK.out e)
              have HE := Lib.hid e
              clear e HK HS
              go_wp2_with fail
              refine (HQ.out _).mono ?_
              rw [HE.out]
              rintro e w1 ⟨rfl, hb⟩
              have N1 := Lib.hid (show Below w.heap.size w w1 from Below.trans (by repeat (first | exact Below.refl _ _ | exact Hid.out (by assumption) | refine below_alloc ?_ _ | refine Below.setCell ?_ (by simp <;> omega) _ | refine Below.alloc ?_ (by simp <;> omega) _ | refine Below.drew ?_ | refine below_drewN ?_ _)) (hb.mono (by have := HBB.out.size; simp; omega)))
              clear hb
              go_wp2_with fail
              go_ret
              exact ⟨ret_bool (by rw [HU2.out, HR.out]; simp), N1.out⟩
            · have HR := Lib.hid (HS.out e)
              have HE := Lib.hid e
              clear e HK HS
              go_wp2_with fail
              refine (HQ.out _).mono ?_
              rw [HE.out]
              rintro e w1 ⟨rfl, hb⟩
              have N1 := Lib.hid (show Below w.heap.size w w1 from Below.trans (by repeat (first | exact Below.refl _ _ | exact Hid.out (by assumption) | refine below_alloc ?_ _ | refine Below.setCell ?_ (by simp <;> omega) _ | refine Below.alloc ?_ (by simp <;> omega) _ | refine Below.drew ?_ | refine below_drewN ?_ _)) (hb.mono (by have := HBB.out.size; simp; omega)))
              have X1 := Lib.hid (Box5.below (HB0.out.2.alloc _) hb)
              clear hb
              go_wp2_with fail
              exact ⟨⟨k + 1, by omega, by simp, ⟨N1.out, X1.out⟩, HR⟩, by simp [intOf]; omega⟩
          · have d1 : ¬ (k : Int) < n := by omega
            have e : k = n := by omega
            subst e
            have HR := Lib.hid (HV.out HX.out)
            have HBB := Lib.hid HB0.out.1
            clear HX HV HN
            cases r1
            · go_wp2_with ((go_at_call 62; refine (HG.out _ (HB.out.below (by repeat (first | exact Below.refl _ _ | exact Hid.out (by assumption) | refine below_alloc ?_ _ | refine Below.setCell ?_ (by simp <;> omega) _ | refine Below.alloc ?_ (by simp <;> omega) _ | refine Below.drew ?_ | refine below_drewN ?_ _)))).mono ?_; rintro e w1 ⟨rfl, rfl⟩))
              go_ret
              exact ⟨ret_bool (by rw [HU2.out, HR.out]; simp), HBB.out⟩
            · go_wp2_with ((first | (go_at_call_of 62 (Value.slice B m d); refine (HG.out _ (HB.out.below (by repeat (first | exact Below.refl _ _ | exact Hid.out (by assumption) | refine below_alloc ?_ _ | refine Below.setCell ?_ (by simp <;> omega) _ | refine Below.alloc ?_ (by simp <;> omega) _ | refine Below.drew ?_ | refine below_drewN ?_ _)))).mono ?_) | (go_at_call_of 62 (Value.slice C o q); refine (HH.out _ (HC.out.below (by repeat (first | exact Below.refl _ _ | exact Hid.out (by assumption) | refine below_alloc ?_ _ | refine Below.setCell ?_ (by simp <;> omega) _ | refine Below.alloc ?_ (by simp <;> omega) _ | refine Below.drew ?_ | refine below_drewN ?_ _)))).mono ?_)); rintro e w1 ⟨rfl, rfl⟩)
              go_ret
              exact ⟨ret_bool (by rw [HU2.out, HR.out]; simp), HBB.out⟩
      · have d2 : (128 : Int) < n := by omega
        go_enter Try.func26, Try.ntmps26
        go_wp2_with ((first | (go_at_call_of 60 (Value.int IntKind.i64 s); refine (H0.out _).mono ?_) | (go_at_call_of 60 (Value.int IntKind.i64 l); refine (H1.out _).mono ?_)); rintro e w' ⟨rfl, rfl⟩)
        go_ret
        exact ⟨ret_bool (by rw [HU.out]; simp [h2]), (by repeat (first | exact Below.refl _ _ | exact Hid.out (by assumption) | refine below_alloc ?_ _ | refine Below.setCell ?_ (by simp <;> omega) _ | refine Below.alloc ?_ (by simp <;> omega) _ | refine Below.drew ?_ | refine below_drewN ?_ _))⟩

set_option maxRecDepth 20000 in
set_option maxHeartbeats 2000000 in
theorem l02Is_any (P : Nat)
  (s l : Int) (A B C : Option Addr) (n c m d o q : Nat) (f g h : Nat → Int) (w : World) (hn : n ≤ 1048576) (hm : m ≤ 1048576) (ho : o ≤ 1048576) (hA : Cells w A (n * 4) (fun i => .int .i64 (f i))) (hB : Cells w B m (fun i => .int .i64 (g i))) (hC : Cells w C o (fun i => .int .i64 (h i)))
  (b : Box5 w P (.int .i64 s) (.int .i64 l) (.slice A n c) (.slice B m d) (.slice C o q))
  : Calls Try.prog 53 #[.pointer (some ⟨P, 0, none⟩)] w fun e w' => e = .returned (.bool (validM s l n m o f g h)) ∧ Below w.heap.size w w' := by
  have HU := Lib.hid (show validM s l n m o f g h = (inB s 1 16 && (inB l 1 4 && (decide (n ≤ 128) && (arcsB s l f n && (marksB g m s && marksB h o s))))) from rfl)
  have HA := Lib.hid hA
  have HG := Lib.hid (fun W k => l02Marks_any B m d g s W (by omega) k)
  have HH := Lib.hid (fun W k => l02Marks_any C o q h s W (by omega) k)
  have HB := Lib.hid hB
  have HC := Lib.hid hC
  have HN := Lib.hid (fun k (hk : k < n) e => arcsB_no (s := s) (l := l) (f := f) hk e)
  have HV := Lib.hid (fun e => (arcsB_iff (s := s) (l := l) (f := f) (n := n)).2 e)
  have X0 := Lib.hid b
  obtain ⟨a0, a1, a2, a3, a4⟩ := b
  clear hA hB hC
  generalize validM s l n m o f g h = r at *
  generalize marksB g m s = r1 at *
  generalize marksB h o s = r2 at *
  cases h0 : inB s 1 16
  · have H0 := Lib.hid (l00In_is h0)
    rw [h0] at HU
    clear h0
    go_enter Try.func53, Try.ntmps53
    go_wp2_with ((go_at_call 78; refine (H0.out _).mono ?_; rintro e w' ⟨rfl, hw⟩; obtain rfl := hw.symm; clear hw))
    go_ret
    exact ⟨ret_bool (by rw [HU.out]; rfl), (by repeat (first | exact Below.refl _ _ | exact Hid.out (by assumption) | refine below_alloc ?_ _ | refine Below.setCell ?_ (by simp <;> omega) _ | refine Below.alloc ?_ (by simp <;> omega) _ | refine Below.drew ?_ | refine below_drewN ?_ _))⟩
  · obtain ⟨s1, s2⟩ := inB_iff.1 h0
    have H0 := Lib.hid (l00In_is h0)
    rw [h0] at HU
    clear h0
    have hwr : IntKind.i64.wrap (s - 1) = s - 1 := by rw [IntKind.wrap_i64]; omega
    cases h1 : inB l 1 4
    · have H1 := Lib.hid (l00In_is h1)
      rw [h1] at HU
      clear h1
      go_enter Try.func53, Try.ntmps53
      go_wp2_with ((first | (go_at_call_of 78 (Value.int IntKind.i64 s); refine (H0.out _).mono ?_) | (go_at_call_of 78 (Value.int IntKind.i64 l); refine (H1.out _).mono ?_)); rintro e w' ⟨rfl, hw⟩; obtain rfl := hw.symm; clear hw)
      go_ret
      exact ⟨ret_bool (by rw [HU.out]; rfl), (by repeat (first | exact Below.refl _ _ | exact Hid.out (by assumption) | refine below_alloc ?_ _ | refine Below.setCell ?_ (by simp <;> omega) _ | refine Below.alloc ?_ (by simp <;> omega) _ | refine Below.drew ?_ | refine below_drewN ?_ _))⟩
    · obtain ⟨l1, l2⟩ := inB_iff.1 h1
      have H1 := Lib.hid (l00In_is h1)
      rw [h1] at HU
      clear h1
      have hwl : IntKind.i64.wrap (l - 1) = l - 1 := by rw [IntKind.wrap_i64]; omega
      by_cases h2 : n ≤ 128
      · have d2 : ¬ (128 : Int) < n := by omega
        have HU2 := Lib.hid (show r = (arcsB s l f n && (r1 && r2)) by rw [HU.out]; simp [h2])
        go_enter Try.func53, Try.ntmps53
        go_wp2_with ((first | (go_at_call_of 78 (Value.int IntKind.i64 s); refine (H0.out _).mono ?_) | (go_at_call_of 78 (Value.int IntKind.i64 l); refine (H1.out _).mono ?_)); rintro e w' ⟨rfl, hw⟩; obtain rfl := hw.symm; clear hw)
        go_loopw [3, 4] (fun i _ wr => ∃ k : Nat, k ≤ n ∧ i = .int .i64 k ∧ Hid (Below w.heap.size w wr) ∧ Hid (∀ j, j < k → arcB s l (f (j * 4)) (f (j * 4 + 1)) (f (j * 4 + 2)) (f (j * 4 + 3)) = true)) (fun i _ _ => n - (intOf i).toNat)
        case atStart => exact ⟨0, Nat.zero_le _, rfl, (by repeat (first | exact Below.refl _ _ | exact Hid.out (by assumption) | refine below_alloc ?_ _ | refine Below.setCell ?_ (by simp <;> omega) _ | refine Below.alloc ?_ (by simp <;> omega) _ | refine Below.drew ?_ | refine below_drewN ?_ _)), fun j hj => by omega⟩
        case round =>
          obtain ⟨k, hk, rfl, HB0, HX⟩ := hrel
          have X1 := Lib.hid (X0.out.below HB0.out)
          clear a0 a1 a2 a3 a4
          obtain ⟨a0, a1, a2, a3, a4⟩ := X1.out
          by_cases hlt : k < n
          · have d1 : (k : Int) < n := by omega
            obtain ⟨x, rfl, -⟩ := HA.out (k * 4) (by omega)
            obtain ⟨p0, p1, p2, p3⟩ := four (wr := wr) HA.out hlt fun p hp => HB0.out.cell hp
            have z0 := X1.out.a0
            have z1 := X1.out.a1
            have z2 := X1.out.a2
            have z3 := X1.out.a3
            have z4 := X1.out.a4
            have HK := Lib.hid (HN.out k hlt)
            have HS := Lib.hid (show arcB s l (f (k * 4)) (f (k * 4 + 1)) (f (k * 4 + 2)) (f (k * 4 + 3)) = true → ∀ j, j < k + 1 → arcB s l (f (j * 4)) (f (j * 4 + 1)) (f (j * 4 + 2)) (f (j * 4 + 3)) = true from fun e j hj => by
              rcases Nat.lt_or_ge j k with h | h
              · exact HX.out j h
              · have : j = k := by omega
                subst this
                exact e)
            clear HX HN HV
            generalize f (k * 4) = u0 at *
            generalize f (k * 4 + 1) = u1 at *
            generalize f (k * 4 + 2) = u2 at *
            generalize f (k * 4 + 3) = u3 at *
            have HE := Lib.hid (show arcB s l u0 u1 u2 u3 = (inB u0 0 (s - 1) && (inB u1 0 (s - 1) && (inB u2 (-1) (l - 1) && inB u3 0 1000))) from rfl)
            have HR1 := Lib.hid (show arcB s l u0 u1 u2 u3 = false → r = false from fun e => by rw [HU2.out, HK.out e]; rfl)
            clear HK
            generalize arcB s l u0 u1 u2 u3 = ra at *
            cases e0 : inB u0 0 (s - 1)
            · have J0 := Lib.hid (l00In_is e0)
              have HR := Lib.hid (HR1.out (by rw [HE.out, e0]; rfl))
              clear e0 HE HS HR1
              go_wp2_with fail
              go_quiet ((go_at_call_of 78 (Value.int IntKind.i64 u0); exact Calls.quiet_of_same (J0.out _)))
              go_wp2_with fail
              go_ret
              exact ⟨ret_bool HR.out.symm, (by repeat (first | exact Below.refl _ _ | exact Hid.out (by assumption) | refine below_alloc ?_ _ | refine Below.setCell ?_ (by simp <;> omega) _ | refine Below.alloc ?_ (by simp <;> omega) _ | refine Below.drew ?_ | refine below_drewN ?_ _))⟩
            · have J0 := Lib.hid (l00In_is e0)
              rw [e0] at HE
              clear e0
              cases e1 : inB u1 0 (s - 1)
              · have J1 := Lib.hid (l00In_is e1)
                have HR := Lib.hid (HR1.out (by rw [HE.out, e1]; rfl))
                clear e1 HE HS HR1
                go_wp2_with fail
                go_quiet ((first | (go_at_call_of 78 (Value.int IntKind.i64 u0); exact Calls.quiet_of_same (J0.out _)) | (go_at_call_of 78 (Value.int IntKind.i64 u1); exact Calls.quiet_of_same (J1.out _))))
                go_wp2_with fail
                go_ret
                exact ⟨ret_bool HR.out.symm, (by repeat (first | exact Below.refl _ _ | exact Hid.out (by assumption) | refine below_alloc ?_ _ | refine Below.setCell ?_ (by simp <;> omega) _ | refine Below.alloc ?_ (by simp <;> omega) _ | refine Below.drew ?_ | refine below_drewN ?_ _))⟩
              · have J1 := Lib.hid (l00In_is e1)
                rw [e1] at HE
                clear e1
                cases e2 : inB u2 (-1) (l - 1)
                · have J2 := Lib.hid (l00In_is e2)
                  have HR := Lib.hid (HR1.out (by rw [HE.out, e2]; rfl))
                  clear e2 HE HS HR1
                  go_wp2_with fail
                  go_quiet ((first | (go_at_call_of 78 (Value.int IntKind.i64 u0); exact Calls.quiet_of_same (J0.out _)) | (go_at_call_of 78 (Value.int IntKind.i64 u1); exact Calls.quiet_of_same (J1.out _)) | (go_at_call_of 78 (Value.int IntKind.i64 u2); exact Calls.quiet_of_same (J2.out _))))
                  go_wp2_with fail
                  go_ret
                  exact ⟨ret_bool HR.out.symm, (by repeat (first | exact Below.refl _ _ | exact Hid.out (by assumption) | refine below_alloc ?_ _ | refine Below.setCell ?_ (by simp <;> omega) _ | refine Below.alloc ?_ (by simp <;> omega) _ | refine Below.drew ?_ | refine below_drewN ?_ _))⟩
                · have J2 := Lib.hid (l00In_is e2)
                  rw [e2] at HE
                  clear e2
                  cases e3 : inB u3 0 1000
                  · have J3 := Lib.hid (l00In_is e3)
                    have HR := Lib.hid (HR1.out (by rw [HE.out, e3]; rfl))
                    clear e3 HE HS HR1
                    go_wp2_with fail
                    go_quiet ((first | (go_at_call_of 78 (Value.int IntKind.i64 u0); exact Calls.quiet_of_same (J0.out _)) | (go_at_call_of 78 (Value.int IntKind.i64 u1); exact Calls.quiet_of_same (J1.out _)) | (go_at_call_of 78 (Value.int IntKind.i64 u2); exact Calls.quiet_of_same (J2.out _)) | (go_at_call_of 78 (Value.int IntKind.i64 u3); exact Calls.quiet_of_same (J3.out _))))
                    go_wp2_with fail
                    go_ret
                    exact ⟨ret_bool HR.out.symm, (by repeat (first | exact Below.refl _ _ | exact Hid.out (by assumption) | refine below_alloc ?_ _ | refine Below.setCell ?_ (by simp <;> omega) _ | refine Below.alloc ?_ (by simp <;> omega) _ | refine Below.drew ?_ | refine below_drewN ?_ _))⟩
                  · have J3 := Lib.hid (l00In_is e3)
                    have HR := Lib.hid (HS.out (by rw [HE.out, e3]; rfl))
                    clear e3 HE HS HR1
                    go_wp2_with fail
                    go_quiet ((first | (go_at_call_of 78 (Value.int IntKind.i64 u0); exact Calls.quiet_of_same (J0.out _)) | (go_at_call_of 78 (Value.int IntKind.i64 u1); exact Calls.quiet_of_same (J1.out _)) | (go_at_call_of 78 (Value.int IntKind.i64 u2); exact Calls.quiet_of_same (J2.out _)) | (go_at_call_of 78 (Value.int IntKind.i64 u3); exact Calls.quiet_of_same (J3.out _))))
                    go_wp2_with fail
                    exact ⟨⟨k + 1, by omega, by simp, (by repeat (first | exact Below.refl _ _ | exact Hid.out (by assumption) | refine below_alloc ?_ _ | refine Below.setCell ?_ (by simp <;> omega) _ | refine Below.alloc ?_ (by simp <;> omega) _ | refine Below.drew ?_ | refine below_drewN ?_ _)), HR⟩, by simp [intOf]; omega⟩
          · have d1 : ¬ (k : Int) < n := by omega
            have e : k = n := by omega
            subst e
            have HR := Lib.hid (HV.out HX.out)
            have HGG := Lib.hid (fun u => (HG.out (wr.drewN u) (HB.out.below (below_drewN HB0.out u))).mono fun e w' q => (⟨q.1, q.2.symm⟩ : e = .returned (.bool r1) ∧ w' = wr.drewN u))
            have HHH := Lib.hid (fun u => (HH.out (wr.drewN u) (HC.out.below (below_drewN HB0.out u))).mono fun e w' q => (⟨q.1, q.2.symm⟩ : e = .returned (.bool r2) ∧ w' = wr.drewN u))
            clear HX HV HN
            cases r1
            · go_wp2_with fail
              go_quiet ((exact Calls.quiet_of_same (HGG.out _)))
              go_wp2_with fail
              go_ret
              exact ⟨ret_bool (by rw [HU2.out, HR.out]; simp), (by repeat (first | exact Below.refl _ _ | exact Hid.out (by assumption) | refine below_alloc ?_ _ | refine Below.setCell ?_ (by simp <;> omega) _ | refine Below.alloc ?_ (by simp <;> omega) _ | refine Below.drew ?_ | refine below_drewN ?_ _))⟩
            · go_wp2_with fail
              go_quiet ((first | (go_at_call_of 79 (Value.slice B m d); exact Calls.quiet_of_same (HGG.out _)) | (go_at_call_of 79 (Value.slice C o q); exact Calls.quiet_of_same (HHH.out _))))
              go_wp2_with fail
              go_ret
              exact ⟨ret_bool (by rw [HU2.out, HR.out]; simp), (by repeat (first | exact Below.refl _ _ | exact Hid.out (by assumption) | refine below_alloc ?_ _ | refine Below.setCell ?_ (by simp <;> omega) _ | refine Below.alloc ?_ (by simp <;> omega) _ | refine Below.drew ?_ | refine below_drewN ?_ _))⟩
      · have d2 : (128 : Int) < n := by omega
        go_enter Try.func53, Try.ntmps53
        go_wp2_with ((first | (go_at_call_of 78 (Value.int IntKind.i64 s); refine (H0.out _).mono ?_) | (go_at_call_of 78 (Value.int IntKind.i64 l); refine (H1.out _).mono ?_)); rintro e w' ⟨rfl, hw⟩; obtain rfl := hw.symm; clear hw)
        go_ret
        exact ⟨ret_bool (by rw [HU.out]; simp [h2]), (by repeat (first | exact Below.refl _ _ | exact Hid.out (by assumption) | refine below_alloc ?_ _ | refine Below.setCell ?_ (by simp <;> omega) _ | refine Below.alloc ?_ (by simp <;> omega) _ | refine Below.drew ?_ | refine below_drewN ?_ _))⟩

end Go.Proofs.Yteagfbedbbnomaa
