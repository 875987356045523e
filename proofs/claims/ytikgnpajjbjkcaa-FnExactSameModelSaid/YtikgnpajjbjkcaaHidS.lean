/- The chance of a word with states: the reference's. -/
import Derived.Test.YtikgnpajjbjkcaaModV3
import Derived.Test.YtikgnpajjbjkcaaWordC
set_option linter.unusedVariables false
namespace Go.Proofs.Ytikgnpajjbjkcaa
open Go.RowKit

/-- What a valid model tells. -/
theorem validMod_nat {s l : Int} {n m o : Nat} {f g h : Nat → Nat} (k : validMod s l n m o f g h = true) : ∃ S L : Nat, s = S ∧ l = L ∧ 1 ≤ S ∧ S ≤ 5 ∧ 1 ≤ L ∧ L ≤ 4 ∧ n = S ∧ m = S * S ∧ o = S * L ∧ (∀ i, i < S → _root_.Go.Proofs.Ytikgnpajjbjkcaa.S 149 (f i)) ∧ (∀ i, i < S * S → _root_.Go.Proofs.Ytikgnpajjbjkcaa.S 149 (g i)) ∧ (∀ i, i < S * L → _root_.Go.Proofs.Ytikgnpajjbjkcaa.S 149 (h i)) := by
  obtain ⟨⟨s1, s2⟩, ⟨l1, l2⟩, -, -, -, -, -⟩ := validMod_iff.1 k
  obtain ⟨S, rfl⟩ : ∃ S : Nat, s = S := ⟨s.toNat, by omega⟩
  obtain ⟨L, rfl⟩ : ∃ L : Nat, l = L := ⟨l.toNat, by omega⟩
  rw [validMod_chances (by omega) (by omega) (by omega) (by omega), Bool.and_eq_true, Bool.and_eq_true, chances_iff, chances_iff, chances_iff] at k
  obtain ⟨⟨a1, a2, -⟩, ⟨b1, b2, -⟩, ⟨c1, c2, -⟩⟩ := k
  exact ⟨S, L, rfl, rfl, by omega, by omega, by omega, by omega, by omega, b1, c1, fun i hi => (share_S (a2 i (by omega))).1, fun i hi => (share_S (b2 i (by omega))).1, fun i hi => (share_S (c2 i (by omega))).1⟩

/-- A list of states, one more than letters. -/
def statesB (u : Nat → Int) (r p : Nat) (s : Int) : Bool := allIn u r (s - 1) && decide (r = p + 1)
def hidOk (s l : Int) (n m o : Nat) (f g h : Nat → Nat) (v : Nat → Int) (p : Nat) (u : Nat → Int) (r : Nat) : Bool := (validMod s l n m o f g h && wordB v p (l - 1)) && statesB u r p s
/-- The chance of the first k letters, with their states. -/
def hidF (f g h : Nat → Nat) (s l : Int) (v u : Nat → Int) : Nat → Nat
  | 0 => f (u 0).toNat
  | k + 1 => mul32 (mul32 (hidF f g h s l v u k) (h (u k * l + v k).toNat)) (g (u k * s + u (k + 1)).toNat)
def hidV (s l : Int) (n m o : Nat) (f g h : Nat → Nat) (v : Nat → Int) (p : Nat) (u : Nat → Int) (r : Nat) : Nat := if hidOk s l n m o f g h v p u r then hidF f g h s l v u p else 0
theorem mul_149 {x y : Nat} (hx : S 149 x) (hy : S 149 y) : floatBits .mul .f32 x y = some (mul32 x y) ∧ S 149 (mul32 x y) := by
  have h := mul32_ok hx hy (by omega) (by omega)
  have e : 149 + 149 - 149 = 149 := by omega
  rw [e] at h
  exact h
theorem add_succ' (y : Addr) (k : Nat) : y.add (k + 1) = ⟨y.block, y.off + (k + 1), none⟩ := by unfold Addr.add; simp
/-- What the walk is told of states and letters at k. -/
theorem hid_at {N L k p r : Nat} {v u : Nat → Int} (hw : wordB v p ((L : Int) - 1) = true) (hs : statesB u r p N = true) (hk : k < p) :
    ∃ a b z : Nat, u k = a ∧ u (k + 1) = b ∧ v k = z ∧ a < N ∧ b < N ∧ z < L ∧ a * L + z < N * L ∧ a * N + b < N * N := by
  obtain ⟨h1, h2⟩ := wordB_iff.1 hw
  unfold statesB at hs
  rw [Bool.and_eq_true, decide_eq_true_eq] at hs
  obtain ⟨h3, h4⟩ := hs
  have h3 := allIn_iff.1 h3
  obtain ⟨a1, a2⟩ := h3 k (by omega)
  obtain ⟨b1, b2⟩ := h3 (k + 1) (by omega)
  obtain ⟨z1, z2⟩ := h1 k hk
  have e : ∀ M : Nat, (u k).toNat * M + M ≤ N * M := fun M => by rw [← Nat.succ_mul]; exact Nat.mul_le_mul_right _ (by omega)
  refine ⟨(u k).toNat, (u (k + 1)).toNat, (v k).toNat, by omega, by omega, by omega, by omega, by omega, by omega, ?_, ?_⟩
  · have := e L; omega
  · have := e N; omega
theorem hidF_step {f g h : Nat → Nat} {N L k a b z : Nat} {v u : Nat → Int} (ha : u k = a) (hb : u (k + 1) = b) (hz : v k = z) :
    hidF f g h N L v u (k + 1) = mul32 (mul32 (hidF f g h N L v u k) (h (a * L + z))) (g (a * N + b)) := by
  show mul32 (mul32 _ (h (u k * L + v k).toNat)) (g (u k * N + u (k + 1)).toNat) = _
  rw [ha, hb, hz, ← Int.natCast_mul, ← Int.natCast_mul]
  rfl
theorem hidF_S {f g h : Nat → Nat} {N L p r : Nat} {v u : Nat → Int} (hw : wordB v p ((L : Int) - 1) = true) (hs : statesB u r p N = true) (hf : ∀ i, i < N → S 149 (f i)) (hg : ∀ i, i < N * N → S 149 (g i)) (hh : ∀ i, i < N * L → S 149 (h i)) :
    ∀ k, k ≤ p → S 149 (hidF f g h N L v u k) := by
  intro k hk
  induction k with
  | zero =>
    unfold statesB at hs
    rw [Bool.and_eq_true, decide_eq_true_eq] at hs
    obtain ⟨a1, a2⟩ := allIn_iff.1 hs.1 0 (by omega)
    exact hf _ (by omega)
  | succ k ih =>
    obtain ⟨a, b, z, e1, e2, e3, a1, b1, z1, i1, i2⟩ := hid_at hw hs (show k < p by omega)
    rw [hidF_step e1 e2 e3]
    exact (mul_149 (mul_149 (ih (by omega)) (hh _ i1)).2 (hg _ i2)).2
theorem hidV_nan (s l : Int) (n m o : Nat) (f g h : Nat → Nat) (v : Nat → Int) (p : Nat) (u : Nat → Int) (r : Nat) : nanB .f32 (hidV s l n m o f g h v p u r) = false := by
  unfold hidV
  cases e : hidOk s l n m o f g h v p u r
  · rw [if_neg (by decide)]; decide
  · have e0 := e
    unfold hidOk at e
    rw [Bool.and_eq_true, Bool.and_eq_true] at e
    obtain ⟨N, L, rfl, rfl, _, _, _, _, _, _, _, hf, hg, hh⟩ := validMod_nat e.1.1
    exact S_nan (hidF_S e.1.2 e.2 hf hg hh p (Nat.le_refl _))

theorem l03Word_any (P : Nat)
  (s l : Int) (A B C : Option Addr) (n c m d o q : Nat) (f g h : Nat → Nat)
  (D : Option Addr) (p e : Nat) (v : Nat → Int) (w : World)
  (hn : n ≤ 1048576) (hm : m ≤ 1048576) (ho : o ≤ 1048576) (hc : n ≤ c ∧ c ≤ 1048576) (hd : m ≤ d ∧ d ≤ 1048576) (hq : o ≤ q ∧ q ≤ 1048576) (hA : Cells w A n (fun i => .float .f32 (f i))) (hB : Cells w B m (fun i => .float .f32 (g i))) (hC : Cells w C o (fun i => .float .f32 (h i)))
  (hp : p ≤ 1048576) (hD : Cells w D p (fun i => .int .i64 (v i))) (b : Box5 w P (.int .i64 s) (.int .i64 l) (.slice A n c) (.slice B m d) (.slice C o q)) :
    Calls Try.prog 70 #[.pointer (some ⟨P, 0, none⟩), .slice D p e] w fun e w' => e = .returned (.bool (validMod s l n m o f g h && wordB v p (l - 1))) ∧ w = w' := by
  have HP := Lib.hid (fun W k1 k2 k3 b => l03Is_any P s l A B C n c m d o q f g h W hn hm ho hc hd hq k1 k2 k3 b)
  have HW := Lib.hid (fun W h1 h2 h => l02Word_any D p e v l W (by omega) h h1 h2)
  have HL := Lib.hid (fun k => (validMod_iff (s := s) (l := l) (n := n) (m := m) (o := o) (f := f) (g := g) (h := h)).1 k)
  have HA := Lib.hid hA
  have HB := Lib.hid hB
  have HC := Lib.hid hC
  have HD := Lib.hid hD
  have X := Lib.hid b
  clear hA hB hC hD b
  cases hv : validMod s l n m o f g h
  · rw [hv] at HP
    clear hv
    obtain ⟨x0, x1, x2, x3, x4⟩ := X.out
    go_enter Try.func70, Try.ntmps70
    go_wp2_with fail
    refine (HP.out _ HA.out HB.out HC.out X.out).mono ?_
    rintro e w' ⟨rfl, rfl⟩
    go_wp2_with fail
    go_ret
    exact ⟨rfl, rfl⟩
  · obtain ⟨-, ⟨l1, l2⟩, -⟩ := HL.out hv
    rw [hv] at HP
    clear hv HL
    obtain ⟨x0, x1, x2, x3, x4⟩ := X.out
    generalize wordB v p (l - 1) = r at *
    go_enter Try.func70, Try.ntmps70
    go_wp2_with fail
    refine (HP.out _ HA.out HB.out HC.out X.out).mono ?_
    rintro e w' ⟨rfl, rfl⟩
    go_wp2_with fail
    refine (HW.out _ l1 l2 HD.out).mono ?_
    rintro e w' ⟨rfl, rfl⟩
    go_wp2_with fail
    go_ret
    exact ⟨by cases r <;> rfl, rfl⟩

theorem l03States_any (P : Nat) (N : Nat) (v1 v2 v3 v4 : Value) (D : Option Addr) (p e : Nat) (E : Option Addr) (r i : Nat) (u : Nat → Int) (w : World) (hN : 1 ≤ N ∧ N ≤ 5) (hp : p ≤ 1048576) (hr : r ≤ 1048576) (hE : Cells w E r (fun i => .int .i64 (u i)))
    (b : Box5 w P (.int .i64 N) v1 v2 v3 v4) :
    Calls Try.prog 99 #[.pointer (some ⟨P, 0, none⟩), .slice D p e, .slice E r i] w fun e w' => e = .returned (.bool (statesB u r p N)) ∧ ∃ q, w' = w.drewN q := by
  have HE := Lib.hid hE
  have X := Lib.hid b
  obtain ⟨N1, N2⟩ := hN
  have HNO := Lib.hid (fun k (hk : k < r) (h : inB (u k) 0 ((N : Int) - 1) = false) => show statesB u r p N = false by unfold statesB; rw [allIn_no hk h]; rfl)
  have HYES := Lib.hid (fun (h : ∀ k, k < r → inB (u k) 0 ((N : Int) - 1) = true) => show statesB u r p N = decide (r = p + 1) by
    unfold statesB; rw [allIn_iff.2 fun k hk => inB_iff.1 (h k hk)]; rfl)
  have hws : IntKind.i64.wrap ((N : Int) - 1) = (N : Int) - 1 := by rw [IntKind.wrap_i64]; omega
  clear hE b
  generalize statesB u r p N = R at *
  go_enter Try.func99, Try.ntmps99
  go_wp2_with fail
  go_loopw [7, 10] (fun _ j wr => ∃ k t : Nat, k ≤ r ∧ j = .int .i64 k ∧ Hid (wr = w.drewN t) ∧ Hid (∀ j, j < k → inB (u j) 0 ((N : Int) - 1) = true)) (fun _ j _ => r - (intOf j).toNat)
  case atStart => exact ⟨0, 0, Nat.zero_le _, rfl, rfl, fun j hj => by omega⟩
  case round =>
    obtain ⟨k, t, hk, rfl, hw, HP⟩ := hrel
    have X2 := Lib.hid (show Box5 wr P (.int .i64 N) v1 v2 v3 v4 by rw [hw.out]; exact X.out.drewN t)
    obtain ⟨x0, x1, x2, x3, x4⟩ := X2.out
    by_cases hlt : k < r
    · have d1 : (k : Int) < r := by omega
      obtain ⟨y, rfl, hy0⟩ := HE.out k hlt
      have hy : wr.cell? (y.add k) = some (.int .i64 (u k)) := by rw [hw.out]; exact hy0
      clear hy0
      have HNk := Lib.hid (HNO.out k hlt)
      have HPk := Lib.hid (show inB (u k) 0 ((N : Int) - 1) = true → ∀ j, j < k + 1 → inB (u j) 0 ((N : Int) - 1) = true from fun e j hj => by
        rcases Nat.lt_or_ge j k with h | h
        · exact HP.out j h
        · have : j = k := by omega
          subst this
          exact e)
      generalize u k = z at *
      cases hz : inB z 0 ((N : Int) - 1)
      · have HI := Lib.hid (fun W => l00In_is hz W)
        have HR := Lib.hid (HNk.out hz)
        clear hz HNk HPk
        go_wp2_with fail
        go_quiet ((go_at_call 62; exact Calls.quiet_of_same (HI.out _)))
        go_wp2_with fail
        go_ret
        exact ⟨ret_bool HR.out.symm, by rw [hw.out]; exact ⟨_, World.drewN_drewN ..⟩⟩
      · have HI := Lib.hid (fun W => l00In_is hz W)
        have HR := Lib.hid (HPk.out hz)
        clear hz HNk HPk
        go_wp2_with fail
        go_quiet ((go_at_call 62; exact Calls.quiet_of_same (HI.out _)))
        go_wp2_with fail
        exact ⟨⟨k + 1, t + nq, by omega, by simp, by rw [hw.out]; exact World.drewN_drewN .., HR.out⟩, by simp [intOf]; omega⟩
    · have d1 : ¬ (k : Int) < r := by omega
      obtain rfl : r = k := by omega
      have HR := Lib.hid (HYES.out HP.out)
      by_cases e : r = p + 1
      · have d2 : ((r : Int) == (p : Int) + 1) = true := by simp; omega
        have HD := Lib.hid (decide_eq_true e)
        clear e
        go_wp2_with fail
        go_ret
        exact ⟨ret_bool (by rw [HR.out, HD.out]), ⟨t, hw.out⟩⟩
      · have d2 : ((r : Int) == (p : Int) + 1) = false := by simp; omega
        have HD := Lib.hid (decide_eq_false e)
        clear e
        go_wp2_with fail
        go_ret
        exact ⟨ret_bool (by rw [HR.out, HD.out]), ⟨t, hw.out⟩⟩

set_option maxRecDepth 20000 in
set_option maxHeartbeats 4000000 in
theorem specHiddenChance_any
  (s l : Int) (A B C : Option Addr) (n c m d o q : Nat) (f g h : Nat → Nat)
  (D : Option Addr) (p e : Nat) (v : Nat → Int) (E : Option Addr) (r i : Nat) (u : Nat → Int) (w : World)
  (hn : n ≤ 1048576) (hm : m ≤ 1048576) (ho : o ≤ 1048576) (hc : n ≤ c ∧ c ≤ 1048576) (hd : m ≤ d ∧ d ≤ 1048576) (hq : o ≤ q ∧ q ≤ 1048576) (hA : Cells w A n (fun i => .float .f32 (f i))) (hB : Cells w B m (fun i => .float .f32 (g i))) (hC : Cells w C o (fun i => .float .f32 (h i)))
  (hp : p ≤ 1048576) (hD : Cells w D p (fun i => .int .i64 (v i))) (hr : r ≤ 1048576) (hE : Cells w E r (fun i => .int .i64 (u i)))
  : Calls Try.prog 50 #[.agg #[.int .i64 s, .int .i64 l, .slice A n c, .slice B m d, .slice C o q], .slice D p e, .slice E r i] w fun e w' => e = .returned (.tuple #[.float .f32 (hidV s l n m o f g h v p u r), .bool (hidOk s l n m o f g h v p u r)]) ∧ Below w.heap.size w w' := by
  have HWd := Lib.hid (fun P W k1 k2 k3 k4 b => l03Word_any P s l A B C n c m d o q f g h D p e v W hn hm ho hc hd hq k1 k2 k3 hp k4 b)
  have HA := Lib.hid hA
  have HB := Lib.hid hB
  have HC := Lib.hid hC
  have HD := Lib.hid hD
  have HE := Lib.hid hE
  have HO := Lib.hid (show hidOk s l n m o f g h v p u r = ((validMod s l n m o f g h && wordB v p (l - 1)) && statesB u r p s) from rfl)
  have HV := Lib.hid (show hidOk s l n m o f g h v p u r = false → hidV s l n m o f g h v p u r = 0 from fun k => by unfold hidV; rw [k]; rfl)
  have HV2 := Lib.hid (show hidOk s l n m o f g h v p u r = true → hidV s l n m o f g h v p u r = hidF f g h s l v u p from fun k => by unfold hidV; rw [k]; rfl)
  clear hA hB hC hD hE
  cases h1 : (validMod s l n m o f g h && wordB v p (l - 1))
  · have k1 : hidOk s l n m o f g h v p u r = false := by rw [HO.out, h1]; rfl
    rw [k1, HV.out k1]
    rw [h1] at HWd
    clear k1 h1 HO HV HV2
    go_enter Try.func50, Try.ntmps50
    go_wp2_with fail
    refine (HWd.out w.heap.size _ (HA.out.below (by repeat (first | exact Below.refl _ _ | exact Hid.out (by assumption) | refine below_alloc ?_ _ | refine Below.setCell ?_ (by simp <;> omega) _ | refine Below.alloc ?_ (by simp <;> omega) _ | refine Below.drew ?_ | refine below_drewN ?_ _))) (HB.out.below (by repeat (first | exact Below.refl _ _ | exact Hid.out (by assumption) | refine below_alloc ?_ _ | refine Below.setCell ?_ (by simp <;> omega) _ | refine Below.alloc ?_ (by simp <;> omega) _ | refine Below.drew ?_ | refine below_drewN ?_ _))) (HC.out.below (by repeat (first | exact Below.refl _ _ | exact Hid.out (by assumption) | refine below_alloc ?_ _ | refine Below.setCell ?_ (by simp <;> omega) _ | refine Below.alloc ?_ (by simp <;> omega) _ | refine Below.drew ?_ | refine below_drewN ?_ _))) (HD.out.below (by repeat (first | exact Below.refl _ _ | exact Hid.out (by assumption) | refine below_alloc ?_ _ | refine Below.setCell ?_ (by simp <;> omega) _ | refine Below.alloc ?_ (by simp <;> omega) _ | refine Below.drew ?_ | refine below_drewN ?_ _))) (Box5.new w _ _ _ _ _ _)).mono ?_
    rintro e w' ⟨rfl, rfl⟩
    go_wp2_with fail
    refine bodyPost_ret (v := .tuple #[.float .f32 0, .bool false]) (by simp [results, Try.results50, go_sem]) rfl ⟨rfl, (by repeat (first | exact Below.refl _ _ | exact Hid.out (by assumption) | refine below_alloc ?_ _ | refine Below.setCell ?_ (by simp <;> omega) _ | refine Below.alloc ?_ (by simp <;> omega) _ | refine Below.drew ?_ | refine below_drewN ?_ _))⟩
  · have h1' := h1
    rw [Bool.and_eq_true] at h1'
    obtain ⟨hv, hw⟩ := h1'
    obtain ⟨N, L, rfl, rfl, N1, N2, L1, L2, rfl, rfl, rfl, hf, hg, hh⟩ := validMod_nat hv
    rw [h1] at HWd
    have HSt := Lib.hid (fun P W k b => l03States_any P n (.int .i64 L) (.slice A n c) (.slice B (n * n) d) (.slice C (n * L) q) D p e E r i u W ⟨N1, N2⟩ hp hr k b)
    cases h2 : statesB u r p n
    · have k1 : hidOk n L n (n * n) (n * L) f g h v p u r = false := by rw [HO.out, h1, h2]; rfl
      rw [k1, HV.out k1]
      rw [h2] at HSt
      clear k1 h1 h2 HO HV HV2 hv hw hf hg hh
      go_enter Try.func50, Try.ntmps50
      go_wp2_with fail
      refine (HWd.out w.heap.size _ (HA.out.below (by repeat (first | exact Below.refl _ _ | exact Hid.out (by assumption) | refine below_alloc ?_ _ | refine Below.setCell ?_ (by simp <;> omega) _ | refine Below.alloc ?_ (by simp <;> omega) _ | refine Below.drew ?_ | refine below_drewN ?_ _))) (HB.out.below (by repeat (first | exact Below.refl _ _ | exact Hid.out (by assumption) | refine below_alloc ?_ _ | refine Below.setCell ?_ (by simp <;> omega) _ | refine Below.alloc ?_ (by simp <;> omega) _ | refine Below.drew ?_ | refine below_drewN ?_ _))) (HC.out.below (by repeat (first | exact Below.refl _ _ | exact Hid.out (by assumption) | refine below_alloc ?_ _ | refine Below.setCell ?_ (by simp <;> omega) _ | refine Below.alloc ?_ (by simp <;> omega) _ | refine Below.drew ?_ | refine below_drewN ?_ _))) (HD.out.below (by repeat (first | exact Below.refl _ _ | exact Hid.out (by assumption) | refine below_alloc ?_ _ | refine Below.setCell ?_ (by simp <;> omega) _ | refine Below.alloc ?_ (by simp <;> omega) _ | refine Below.drew ?_ | refine below_drewN ?_ _))) (Box5.new w _ _ _ _ _ _)).mono ?_
      rintro e w' ⟨rfl, rfl⟩
      go_wp2_with fail
      refine (HSt.out w.heap.size _ (HE.out.below (by repeat (first | exact Below.refl _ _ | exact Hid.out (by assumption) | refine below_alloc ?_ _ | refine Below.setCell ?_ (by simp <;> omega) _ | refine Below.alloc ?_ (by simp <;> omega) _ | refine Below.drew ?_ | refine below_drewN ?_ _))) (Box5.new w _ _ _ _ _ _)).mono ?_
      rintro e w' ⟨rfl, t, rfl⟩
      go_wp2_with fail
      refine bodyPost_ret (v := .tuple #[.float .f32 0, .bool false]) (by simp [results, Try.results50, go_sem]) rfl ⟨rfl, (by repeat (first | exact Below.refl _ _ | exact Hid.out (by assumption) | refine below_alloc ?_ _ | refine Below.setCell ?_ (by simp <;> omega) _ | refine Below.alloc ?_ (by simp <;> omega) _ | refine Below.drew ?_ | refine below_drewN ?_ _))⟩
    · have k1 : hidOk n L n (n * n) (n * L) f g h v p u r = true := by rw [HO.out, h1, h2]; rfl
      rw [k1, HV2.out k1]
      rw [h2] at HSt
      have HAt := Lib.hid (fun k (hk : k < p) => hid_at (k := k) hw h2 hk)
      have HFS := Lib.hid (hidF_S hw h2 hf hg hh)
      have HG := Lib.hid hg
      have HH := Lib.hid hh
      have hr1 : r = p + 1 ∧ 0 ≤ u 0 ∧ u 0 ≤ (n : Int) - 1 := by
        unfold statesB at h2
        rw [Bool.and_eq_true, decide_eq_true_eq] at h2
        exact ⟨h2.2, allIn_iff.1 h2.1 0 (by omega)⟩
      obtain ⟨hr1, u1, u2⟩ := hr1
      obtain ⟨U, hU⟩ : ∃ U : Nat, u 0 = U := ⟨(u 0).toNat, by omega⟩
      have HF0 := Lib.hid (show hidF f g h n L v u 0 = f U by show f (u 0).toNat = _; rw [hU]; rfl)
      have dU : (U : Int) < n := by omega
      have dr : (0 : Int) < r := by omega
      have HU := Lib.hid hU
      have HR1 := Lib.hid hr1
      clear hU hr1 u1 u2
      have bS : n * n ≤ 25 := Nat.mul_le_mul N2 N2
      have bL : n * L ≤ 20 := Nat.mul_le_mul N2 L2
      clear k1 h1 h2 HO HV HV2 hv hw hf hg hh
      go_enter Try.func50, Try.ntmps50
      go_wp2_with fail
      refine (HWd.out w.heap.size _ (HA.out.below (by repeat (first | exact Below.refl _ _ | exact Hid.out (by assumption) | refine below_alloc ?_ _ | refine Below.setCell ?_ (by simp <;> omega) _ | refine Below.alloc ?_ (by simp <;> omega) _ | refine Below.drew ?_ | refine below_drewN ?_ _))) (HB.out.below (by repeat (first | exact Below.refl _ _ | exact Hid.out (by assumption) | refine below_alloc ?_ _ | refine Below.setCell ?_ (by simp <;> omega) _ | refine Below.alloc ?_ (by simp <;> omega) _ | refine Below.drew ?_ | refine below_drewN ?_ _))) (HC.out.below (by repeat (first | exact Below.refl _ _ | exact Hid.out (by assumption) | refine below_alloc ?_ _ | refine Below.setCell ?_ (by simp <;> omega) _ | refine Below.alloc ?_ (by simp <;> omega) _ | refine Below.drew ?_ | refine below_drewN ?_ _))) (HD.out.below (by repeat (first | exact Below.refl _ _ | exact Hid.out (by assumption) | refine below_alloc ?_ _ | refine Below.setCell ?_ (by simp <;> omega) _ | refine Below.alloc ?_ (by simp <;> omega) _ | refine Below.drew ?_ | refine below_drewN ?_ _))) (Box5.new w _ _ _ _ _ _)).mono ?_
      rintro e w' ⟨rfl, rfl⟩
      go_wp2_with fail
      refine (HSt.out w.heap.size _ (HE.out.below (by repeat (first | exact Below.refl _ _ | exact Hid.out (by assumption) | refine below_alloc ?_ _ | refine Below.setCell ?_ (by simp <;> omega) _ | refine Below.alloc ?_ (by simp <;> omega) _ | refine Below.drew ?_ | refine below_drewN ?_ _))) (Box5.new w _ _ _ _ _ _)).mono ?_
      rintro e w' ⟨rfl, t, rfl⟩
      obtain ⟨wb, hwb⟩ : ∃ wb, wb = (w.alloc (.cells #[.int .i64 n, .int .i64 L, .slice A n c, .slice B (n * n) d, .slice C (n * L) q] 27)).drewN t := ⟨_, rfl⟩
      rw [← hwb]
      have NB := Lib.hid (show Below w.heap.size w wb by rw [hwb]; exact (by repeat (first | exact Below.refl _ _ | exact Hid.out (by assumption) | refine below_alloc ?_ _ | refine Below.setCell ?_ (by simp <;> omega) _ | refine Below.alloc ?_ (by simp <;> omega) _ | refine Below.drew ?_ | refine below_drewN ?_ _)))
      have XB := Lib.hid (show Box5 wb w.heap.size (.int .i64 n) (.int .i64 L) (.slice A n c) (.slice B (n * n) d) (.slice C (n * L) q) by rw [hwb]; exact (Box5.new w _ _ _ _ _ _).drewN t)
      clear hwb HWd HSt
      obtain ⟨x0, x1, x2, x3, x4⟩ := XB.out
      obtain ⟨y, rfl, hy0⟩ := HE.out 0 (by have := HR1.out; omega)
      have hy : wb.cell? y = some (.int .i64 U) := by
        have := (HE.out.below NB.out) 0 (by have := HR1.out; omega)
        obtain ⟨y', e', h'⟩ := this
        cases e'
        rw [← HU.out, show y = y.add 0 from (by unfold Addr.add; rw [if_pos rfl])]
        exact h'
      obtain ⟨z, rfl, hz0⟩ := HA.out U (by omega)
      have hz : wb.cell? (z.add U) = some (.float .f32 (f U)) := by rw [NB.out.cell (World.block_lt_of_cell? _ _ hz0)]; exact hz0
      clear hy0 hz0
      generalize f U = F0 at *
      go_wp2_with fail
      go_quiet (fail)
      go_wp2_with fail
      go_loopw [8, 9, 28] (fun x _ j wr => ∃ k t : Nat, k ≤ p ∧ j = .int .i64 k ∧ x = .float .f32 (hidF f g h n L v u k) ∧ Hid (wr = wb.drewN t)) (fun _ _ j _ => p - (intOf j).toNat)
      case atStart => exact ⟨0, _, Nat.zero_le _, rfl, by rw [HF0.out], rfl⟩
      case round =>
        obtain ⟨k, t, hk, rfl, rfl, hw⟩ := hrel
        clear x0 x1 x2 x3 x4 hy hz
        have XR := Lib.hid (show Box5 wr w.heap.size (.int .i64 n) (.int .i64 L) (.slice (some z) n c) (.slice B (n * n) d) (.slice C (n * L) q) by rw [hw.out]; exact XB.out.drewN t)
        obtain ⟨x0, x1, x2, x3, x4⟩ := XR.out
        have NR := Lib.hid (show Below w.heap.size w wr by rw [hw.out]; exact below_drewN NB.out t)
        by_cases hlt : k < p
        · have d1 : (k : Int) < p := by omega
          obtain ⟨a, b, zz, e1, e2, e3, ha, hb, hzz, i1, i2⟩ := HAt.out k hlt
          have hrr := HR1.out
          have d2 : (k : Int) < r := by omega
          have d3 : (k : Int) + 1 < r := by omega
          obtain ⟨y1, q1, hy1⟩ := HE.out k (by omega)
          cases q1
          obtain ⟨y2, q2, hy2⟩ := HE.out (k + 1) (by omega)
          cases q2
          obtain ⟨y3, rfl, hy3⟩ := HD.out k hlt
          obtain ⟨y4, rfl, hy4⟩ := HC.out (a * L + zz) i1
          obtain ⟨y5, rfl, hy5⟩ := HB.out (a * n + b) i2
          have k1 : wr.cell? (y.add k) = some (.int .i64 a) := by rw [NR.out.cell (World.block_lt_of_cell? _ _ hy1), hy1, ← e1]
          have k2 : wr.cell? ⟨y.block, y.off + (k + 1), none⟩ = some (.int .i64 b) := by rw [← add_succ', NR.out.cell (World.block_lt_of_cell? _ _ hy2), hy2, ← e2]
          have k3 : wr.cell? (y3.add k) = some (.int .i64 zz) := by rw [NR.out.cell (World.block_lt_of_cell? _ _ hy3), hy3, ← e3]
          have k4 : wr.cell? (y4.add (a * L + zz)) = some (.float .f32 (h (a * L + zz))) := by rw [NR.out.cell (World.block_lt_of_cell? _ _ hy4), hy4]
          have k5 : wr.cell? (y5.add (a * n + b)) = some (.float .f32 (g (a * n + b))) := by rw [NR.out.cell (World.block_lt_of_cell? _ _ hy5), hy5]
          have m1 := mul_149 (HFS.out k hk) (HH.out _ i1)
          have m2 := mul_149 m1.2 (HG.out _ i2)
          have hm1 := fun W => run_float_arith (P := Try.prog) W .mul 36 .f32 _ _ _ m1.1
          have hm2 := fun W => run_float_arith (P := Try.prog) W .mul 36 .f32 _ _ _ m2.1
          have HS := Lib.hid (hidF_step (f := f) (g := g) (h := h) (N := n) (L := L) e1 e2 e3)
          have w1 : IntKind.i64.wrap ((a : Int) * L) = ((a * L : Nat) : Int) := by rw [← Int.natCast_mul, IntKind.wrap_i64]; omega
          have w2 : IntKind.i64.wrap ((a : Int) * n) = ((a * n : Nat) : Int) := by rw [← Int.natCast_mul, IntKind.wrap_i64]; omega
          have d4 : ((a * L : Nat) : Int) + zz < (n : Int) * L := by rw [← Int.natCast_mul]; omega
          have d5 : ((a * n : Nat) : Int) + b < (n : Int) * n := by rw [← Int.natCast_mul]; omega
          have b1 : a * L ≤ 1048576 := by omega
          have b2 : a * n ≤ 1048576 := by omega
          clear m1 m2 hy1 hy2 hy3 hy4 hy5 e1 e2 e3 hrr i1 i2
          generalize hidF f g h n L v u k = x at *
          generalize h (a * L + zz) = hx at *
          generalize g (a * n + b) = gx at *
          generalize mul32 (mul32 x hx) gx = r2 at *
          generalize mul32 x hx = r1 at *
          generalize a * L = al at *
          generalize a * n = an at *
          have w3 : IntKind.i64.wrap ((k : Int) + 1) = (k : Int) + 1 := by rw [IntKind.wrap_i64]; omega
          have t3 : ((k : Int) + 1).toNat = k + 1 := by omega
          have t4 : (0 : Int) ≤ (k : Int) + 1 := by omega
          go_wp2_with fail
          go_quiet (fail)
          go_wp2_with fail
          go_quiet (fail)
          go_wp2_with fail
          clear w3 t3
          exact ⟨⟨k + 1, _, by omega, by simp, by rw [HS.out], by rw [hw.out]; exact World.drewN_drewN ..⟩, by simp [intOf]; omega⟩
        · have d1 : ¬ (k : Int) < p := by omega
          obtain rfl : p = k := by omega
          go_wp2_with fail
          refine bodyPost_ret (v := .tuple #[.float .f32 (hidF f g h n L v u p), .bool true]) (by simp [results, Try.results50, go_sem]) rfl ⟨rfl, NR.out⟩
end Go.Proofs.Ytikgnpajjbjkcaa
