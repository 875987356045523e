/- Games: whether they are valid: the program. -/
import Derived.Test.YtfpombhhnojjhaaGameM
import Derived.Test.YtfpombhhnojjhaaAreA
import Derived.Test.YtfpombhhnojjhaaIn
set_option linter.unusedVariables false
set_option linter.unusedSimpArgs false
namespace Go.Proofs.Ytfpombhhnojjhaa
open Go.RowKit
/-- The number before the one with index k. -/
def prevF (f : Nat → Int) (k : Nat) : Int := if k = 0 then -1 else f (k - 1)
def stepB (cnt : Int) (f : Nat → Int) (k : Nat) : Bool := inB (f k) (prevF f k + 1) (cnt - 1)
def ascB (cnt : Int) (n : Nat) (f : Nat → Int) : Bool := allP (stepB cnt f) (fun i => i) n
/-- The moves of a node: some, ascending, to nodes. -/
def movesB (cnt : Int) (n : Nat) (f : Nat → Int) : Bool := decide (0 < n) && ascB cnt n f
def gameB (n m o : Nat) (L : Nat → Nat) (f g : Nat → Int) (F : Nat → Nat → Int) : Bool :=
  inB (o : Int) 1 16 && (mostB (o : Int) 1 n f && (mostB (o : Int) 8 m g && allP (fun i => movesB (o : Int) (L i) (F i)) (fun i => i) o))
theorem isAscending_any (A : Option Addr) (n c : Nat) (f : Nat → Int) (cnt : Int) (w : World) (hn : n ≤ 1048576) (h0 : 0 ≤ cnt) (h1 : cnt ≤ 1048576) (hA : Cells w A n (fun i => .int .i64 (f i))) :
    Calls Try.prog 95 #[.slice A n c, .int .i64 cnt] w fun e w' => e = .returned (.bool (ascB cnt n f)) ∧ w = w' := by
  have HA := Lib.hid hA
  have HNO := Lib.hid (fun k (hk : k < n) (h : stepB cnt f k = false) => show ascB cnt n f = false from allP_no (f := fun i => i) hk h)
  have HYES := Lib.hid (fun (h : ∀ k, k < n → stepB cnt f k = true) => show ascB cnt n f = true from allP_iff.2 h)
  have HPR := Lib.hid (fun k => show prevF f (k + 1) = f k from rfl)
  have hwc : IntKind.i64.wrap (cnt - 1) = cnt - 1 := by rw [IntKind.wrap_i64]; omega
  clear hA
  generalize ascB cnt n f = R at *
  go_enter Try.func95, Try.ntmps95
  go_wp2_with fail
  go_loop [5, 7, 10] (fun bv _ j => ∃ k : Nat, k ≤ n ∧ j = .int .i64 k ∧ bv = .int .i64 (prevF f k) ∧ Hid (-1 ≤ prevF f k ∧ prevF f k ≤ 1048576) ∧ Hid (∀ j, j < k → stepB cnt f j = true)) (fun _ _ j => n - (intOf j).toNat)
  case atStart => exact ⟨0, Nat.zero_le _, rfl, rfl, Lib.hid ⟨by unfold prevF; simp, by unfold prevF; simp⟩, fun j hj => by omega⟩
  case round =>
    obtain ⟨k, hk, rfl, rfl, HB, HP⟩ := hrel
    by_cases hlt : k < n
    · have d1 : (k : Int) < n := by omega
      obtain ⟨y, rfl, hy0⟩ := HA.out k hlt
      have hy : w.cell? (y.add k) = some (.int .i64 (f k)) := hy0
      have HNk := Lib.hid (HNO.out k hlt)
      have HPk := Lib.hid (show stepB cnt f k = true → ∀ j, j < k + 1 → stepB cnt f j = true from fun e j hj => by
        rcases Nat.lt_or_ge j k with h | h
        · exact HP.out j h
        · have : j = k := by omega
          subst this
          exact e)
      have HSk := Lib.hid (show stepB cnt f k = inB (f k) (prevF f k + 1) (cnt - 1) from rfl)
      have HPv := Lib.hid (HPR.out k)
      obtain ⟨q1, q2⟩ := HB.out
      clear hy0 HPR
      generalize stepB cnt f k = sk at *
      generalize f k = z at *
      generalize prevF f k = pv at *
      have hwp : IntKind.i64.wrap (pv + 1) = pv + 1 := by rw [IntKind.wrap_i64]; omega
      cases hz : inB z (pv + 1) (cnt - 1)
      · have HC := Lib.hid (between_is hz)
        have HR := Lib.hid (HNk.out (by rw [HSk.out, hz]))
        clear hz HNk HPk HSk
        go_wp2_with fail
        refine (HC.out _).mono ?_
        rintro e w' ⟨rfl, hw⟩
        obtain rfl := hw.symm
        go_wp2_with fail
        go_ret
        exact ⟨ret_bool HR.out.symm, rfl⟩
      · have HC := Lib.hid (between_is hz)
        have HR := Lib.hid (HPk.out (by rw [HSk.out, hz]))
        have hzz := Lib.hid (inB_iff.1 hz)
        clear hz HNk HPk HSk
        go_wp2_with fail
        refine (HC.out _).mono ?_
        rintro e w' ⟨rfl, hw⟩
        obtain rfl := hw.symm
        go_wp2_with fail
        go_round
        case rel => exact ⟨k + 1, by omega, by go_num, by rw [HPv.out], Lib.hid (by rw [HPv.out]; have := hzz.out; omega), HR.out⟩
        case measure => simp [intOf]; omega
    · have d1 : ¬ (k : Int) < n := by omega
      obtain rfl : n = k := by omega
      have HR := Lib.hid (HYES.out HP.out)
      generalize prevF f n = pv at *
      go_wp2_with fail
      go_ret
      exact ⟨ret_bool HR.out.symm, rfl⟩
theorem validGame1_any (q1 : Nat) (A : Option Addr) (n c : Nat) (f : Nat → Int) (cnt : Int) (w : World) (hn : n ≤ 1048576) (h0 : 0 ≤ cnt) (h1 : cnt ≤ 1048576) (hA : Cells w A n (fun i => .int .i64 (f i))) (b : w.cell? ⟨q1, 0, none⟩ = some (.int .i64 cnt)) :
    Calls Try.prog 94 #[.slice A n c, .pointer (some ⟨q1, 0, none⟩)] w fun e w' => e = .returned (.bool (!movesB cnt n f)) ∧ w = w' := by
  have HU := Lib.hid (show movesB cnt n f = (decide (0 < n) && ascB cnt n f) from rfl)
  have HC := Lib.hid (isAscending_any A n c f cnt w hn h0 h1 hA)
  clear hA
  generalize movesB cnt n f = r at *
  generalize ascB cnt n f = r1 at *
  by_cases hz : n = 0
  · have HR := Lib.hid (show r = false by rw [HU.out, hz]; rfl)
    have e1 : ((n : Int) == 0) = true := by simp [hz]
    clear HU hz
    go_enter Try.func94, Try.ntmps94
    go_wp2_with fail
    go_ret
    exact ⟨ret_bool (by rw [HR.out]; rfl), rfl⟩
  · have HR := Lib.hid (show r = r1 by rw [HU.out, decide_eq_true (by omega)]; rfl)
    have e1 : ((n : Int) == 0) = false := by simp [hz]
    have e2 : ¬ (n : Int) = 0 := by omega
    clear HU
    go_enter Try.func94, Try.ntmps94
    go_wp2_with fail
    refine HC.out.mono ?_
    rintro e w' ⟨rfl, rfl⟩
    go_wp2_with fail
    go_ret
    exact ⟨ret_bool (by rw [HR.out] <;> cases r1 <;> rfl), rfl⟩
theorem indexMoves (q1 : Nat) (pr : Nat → Bool) (E : Option Addr) (r i : Nat) (P : Nat → Option Addr) (L K : Nat → Nat) (w : World) (hr : r ≤ 1048576) (hE : Cells w E r (fun i => .slice (P i) (L i) (K i)))
    (hC : ∀ k, k < r → Calls Try.prog 94 #[.slice (P k) (L k) (K k), .pointer (some ⟨q1, 0, none⟩)] w fun e w' => e = .returned (.bool (!pr k)) ∧ w = w') :
    Calls Try.prog 142 #[.slice E r i, .func (.func 94) #[] #[.pointer (some ⟨q1, 0, none⟩)]] w fun e w' => IdxRes (!allP pr (fun i => i) r) r e ∧ w = w' := by
  have HE := Lib.hid hE
  have HC := Lib.hid hC
  have HNO := Lib.hid (fun k (hk : k < r) (h : pr k = false) => allP_no (p := pr) (f := fun i => i) hk h)
  have HYES := Lib.hid (fun (h : ∀ k, k < r → pr k = true) => show allP pr (fun i => i) r = true from allP_iff.2 h)
  clear hE hC
  generalize allP pr (fun i => i) r = R at *
  go_enter Try.func142, Try.ntmps142
  go_wp2_with fail
  go_loop [5, 8] (fun _ j => ∃ k : Nat, k ≤ r ∧ j = .int .i64 k ∧ Hid (∀ j, j < k → pr j = true)) (fun _ j => r - (intOf j).toNat)
  case atStart => exact ⟨0, Nat.zero_le _, rfl, fun j hj => by omega⟩
  case round =>
    obtain ⟨k, hk, rfl, HP⟩ := hrel
    by_cases hlt : k < r
    · have d1 : (k : Int) < r := by omega
      obtain ⟨y, rfl, hy0⟩ := HE.out k hlt
      have hy : w.cell? (y.add k) = some (.slice (P k) (L k) (K k)) := hy0
      clear hy0
      have HNk := Lib.hid (HNO.out k hlt)
      have HPk := Lib.hid (show pr k = true → ∀ j, j < k + 1 → pr j = true from fun e j hj => by
        rcases Nat.lt_or_ge j k with h | h
        · exact HP.out j h
        · have : j = k := by omega
          subst this
          exact e)
      have HCk := Lib.hid (HC.out k hlt)
      clear HC
      cases hz : pr k
      · rw [hz] at HCk
        have HR := Lib.hid (HNk.out hz)
        clear hz HNk HPk
        go_wp2_with fail
        refine HCk.out.mono ?_
        rintro e w' ⟨rfl, rfl⟩
        go_wp2_with fail
        go_ret
        exact ⟨⟨k, rfl, by rw [HR.out]; simp, by omega, by omega⟩, rfl⟩
      · rw [hz] at HCk
        have HR := Lib.hid (HPk.out hz)
        clear hz HNk HPk
        go_wp2_with fail
        refine HCk.out.mono ?_
        rintro e w' ⟨rfl, rfl⟩
        go_wp2_with fail
        go_round
        case rel => exact ⟨k + 1, by omega, by go_num, HR.out⟩
        case measure => simp [intOf]; omega
    · have d1 : ¬ (k : Int) < r := by omega
      obtain rfl : r = k := by omega
      have HR := Lib.hid (HYES.out HP.out)
      go_wp2_with fail
      go_ret
      exact ⟨⟨-1, rfl, by rw [HR.out]; rfl, by omega, by omega⟩, rfl⟩
theorem containsMoves (q1 : Nat) (pr : Nat → Bool) (E : Option Addr) (r i : Nat) (P : Nat → Option Addr) (L K : Nat → Nat) (w : World) (hr : r ≤ 1048576) (hE : Cells w E r (fun i => .slice (P i) (L i) (K i)))
    (hC : ∀ k, k < r → Calls Try.prog 94 #[.slice (P k) (L k) (K k), .pointer (some ⟨q1, 0, none⟩)] w fun e w' => e = .returned (.bool (!pr k)) ∧ w = w') :
    Calls Try.prog 98 #[.slice E r i, .func (.func 94) #[] #[.pointer (some ⟨q1, 0, none⟩)]] w fun e w' => e = .returned (.bool (!allP pr (fun i => i) r)) ∧ w = w' := by
  have HI := Lib.hid (indexMoves q1 pr E r i P L K w hr hE hC)
  clear hE hC
  generalize allP pr (fun i => i) r = R at *
  go_enter Try.func98, Try.ntmps98
  go_wp2_with fail
  refine HI.out.mono ?_
  rintro e w' ⟨⟨j, rfl, hj, j1, j2⟩, rfl⟩
  have HJ := Lib.hid hj
  clear hj
  by_cases h : 0 ≤ j
  · have HD := Lib.hid (decide_eq_true h)
    go_wp2_with fail
    go_ret
    exact ⟨ret_bool (by rw [← HJ.out, HD.out]), rfl⟩
  · have HD := Lib.hid (decide_eq_false h)
    go_wp2_with fail
    go_ret
    exact ⟨ret_bool (by rw [← HJ.out, HD.out]), rfl⟩
set_option maxHeartbeats 4000000 in
theorem implValidGame_any (A B C : Option Addr) (n c m d o q : Nat) (P : Nat → Option Addr) (L K : Nat → Nat) (f g : Nat → Int) (F : Nat → Nat → Int) (w : World) (hn : n ≤ 1048576) (hm : m ≤ 1048576) (ho : o ≤ 1048576) (hL : ∀ i, i < o → L i ≤ 1048576)
    (hA : Cells w A n (fun i => .int .i64 (f i))) (hB : Cells w B m (fun i => .int .i64 (g i))) (hC : RRows w C o P L K F) :
    Calls Try.prog 32 #[.agg #[.slice A n c, .slice B m d, .slice C o q]] w fun e w' => e = .returned (.bool (gameB n m o L f g F)) ∧ Below w.heap.size w w' := by
  have HU := Lib.hid (show gameB n m o L f g F = (inB (o : Int) 1 16 && (mostB (o : Int) 1 n f && (mostB (o : Int) 8 m g && allP (fun i => movesB (o : Int) (L i) (F i)) (fun i => i) o))) from rfl)
  have hA := Lib.hid hA
  have hB := Lib.hid hB
  have hC := Lib.hid hC
  have H1 := Lib.hid (fun W => between_any (o : Int) 1 16 W)
  have H2 := Lib.hid (fun W h => areAll_any A n c f (o : Int) 1 W hn h)
  have H3 := Lib.hid (fun W h => areAll_any B m d g (o : Int) 8 W hm h)
  have H4 := Lib.hid (fun q1 W (h : RRows W C o P L K F) b => containsMoves q1 (fun i => movesB (o : Int) (L i) (F i)) C o q P L K W ho h.top (fun k hk => validGame1_any q1 (P k) (L k) (K k) (F k) (o : Int) W (hL k hk) (by omega) (by omega) (h.row k hk) b))
  have hmf : ∀ (fn : Fn) (first cap : Array Value) (w : World), (Instr.makeFunc fn first cap).run Try.prog w = .ok (.func fn first cap) w := fun _ _ _ _ => rfl
  clear hL
  generalize gameB n m o L f g F = r at *
  generalize inB (o : Int) 1 16 = r1 at *
  generalize mostB (o : Int) 1 n f = r2 at *
  generalize mostB (o : Int) 8 m g = r3 at *
  generalize allP (fun i => movesB (o : Int) (L i) (F i)) (fun i => i) o = r4 at *
  have X0 := Lib.hid (Box3.alloc (Box3.new w 48 (.slice A n c) (.slice B m d) (.slice C o q)) (.cells #[.int .i64 (o : Int)] 3))
  have Y0 := Lib.hid (show ((w.alloc (.cells #[.slice A n c, .slice B m d, .slice C o q] 48)).alloc (.cells #[.int .i64 (o : Int)] 3)).cell? ⟨w.heap.size + 1, 0, none⟩ = some (.int .i64 (o : Int)) from by simp [go_sem])
  cases r1
  · skip
    go_enter Try.func32, Try.ntmps32
    go_wp2_with fail
    refine (H1.out _).mono ?_
    rintro e w' ⟨rfl, rfl⟩
    go_wp2_with fail
    go_ret
    exact ⟨ret_bool (by rw [HU.out]; rfl), (by repeat (first | with_reducible exact Below.refl _ _ | exact Hid.out (by with_reducible assumption) | refine Below.setCell ?_ (by simp <;> omega) _ | refine below_alloc ?_ _ | refine Below.alloc ?_ (by simp <;> omega) _ | refine Below.drew ?_ | refine below_drewN ?_ _ | exact Below.refl _ _))⟩
  cases r2
  · skip
    go_enter Try.func32, Try.ntmps32
    go_wp2_with fail
    refine (H1.out _).mono ?_
    rintro e w' ⟨rfl, rfl⟩
    go_wp2_with fail
    refine (H2.out _ (hA.out.below (by repeat (first | with_reducible exact Below.refl _ _ | exact Hid.out (by with_reducible assumption) | refine Below.setCell ?_ (by simp <;> omega) _ | refine below_alloc ?_ _ | refine Below.alloc ?_ (by simp <;> omega) _ | refine Below.drew ?_ | refine below_drewN ?_ _ | exact Below.refl _ _)))).mono ?_
    rintro e w1 ⟨rfl, hb⟩
    have N1 := Lib.hid (show Below w.heap.size w w1 from Below.trans (by repeat (first | with_reducible exact Below.refl _ _ | exact Hid.out (by with_reducible assumption) | refine Below.setCell ?_ (by simp <;> omega) _ | refine below_alloc ?_ _ | refine Below.alloc ?_ (by simp <;> omega) _ | refine Below.drew ?_ | refine below_drewN ?_ _ | exact Below.refl _ _)) (hb.mono (by simp <;> omega)))
    clear hb
    go_wp2_with fail
    go_ret
    exact ⟨ret_bool (by rw [HU.out]; rfl), N1.out⟩
  cases r3
  · skip
    go_enter Try.func32, Try.ntmps32
    go_wp2_with fail
    refine (H1.out _).mono ?_
    rintro e w' ⟨rfl, rfl⟩
    go_wp2_with fail
    refine (H2.out _ (hA.out.below (by repeat (first | with_reducible exact Below.refl _ _ | exact Hid.out (by with_reducible assumption) | refine Below.setCell ?_ (by simp <;> omega) _ | refine below_alloc ?_ _ | refine Below.alloc ?_ (by simp <;> omega) _ | refine Below.drew ?_ | refine below_drewN ?_ _ | exact Below.refl _ _)))).mono ?_
    rintro e w1 ⟨rfl, hb⟩
    have N1 := Lib.hid (show Below w.heap.size w w1 from Below.trans (by repeat (first | with_reducible exact Below.refl _ _ | exact Hid.out (by with_reducible assumption) | refine Below.setCell ?_ (by simp <;> omega) _ | refine below_alloc ?_ _ | refine Below.alloc ?_ (by simp <;> omega) _ | refine Below.drew ?_ | refine below_drewN ?_ _ | exact Below.refl _ _)) (hb.mono (by simp <;> omega)))
    have X1 := Lib.hid (X0.out.below hb)
    have Y1 := Lib.hid (show w1.cell? ⟨w.heap.size + 1, 0, none⟩ = some (.int .i64 (o : Int)) from (hb.cell (p := ⟨w.heap.size + 1, 0, none⟩) (by simp)).trans Y0.out)
    have S1 : w.heap.size + 1 < w1.heap.size := by have := hb.size; simp at this; omega
    clear hb
    obtain ⟨x0, x1, x2⟩ := X1.out
    have y0 := Y1.out
    go_wp2_with fail
    refine (H3.out _ (hB.out.below (by repeat (first | with_reducible exact Below.refl _ _ | exact Hid.out (by with_reducible assumption) | refine Below.setCell ?_ (by simp <;> omega) _ | refine below_alloc ?_ _ | refine Below.alloc ?_ (by simp <;> omega) _ | refine Below.drew ?_ | refine below_drewN ?_ _ | exact Below.refl _ _)))).mono ?_
    rintro e w2 ⟨rfl, hb⟩
    have N2 := Lib.hid (show Below w.heap.size w w2 from Below.trans (by repeat (first | with_reducible exact Below.refl _ _ | exact Hid.out (by with_reducible assumption) | refine Below.setCell ?_ (by simp <;> omega) _ | refine below_alloc ?_ _ | refine Below.alloc ?_ (by simp <;> omega) _ | refine Below.drew ?_ | refine below_drewN ?_ _ | exact Below.refl _ _)) (hb.mono (by omega)))
    have X2 := Lib.hid (X1.out.below hb)
    have Y2 := Lib.hid (show w2.cell? ⟨w.heap.size + 1, 0, none⟩ = some (.int .i64 (o : Int)) from (hb.cell (p := ⟨w.heap.size + 1, 0, none⟩) S1).trans Y1.out)
    clear hb x0 x1 x2 y0
    obtain ⟨x0, x1, x2⟩ := X2.out
    have y0 := Y2.out
    go_wp2_with fail
    go_ret
    exact ⟨ret_bool (by rw [HU.out]; rfl), N2.out⟩
  go_enter Try.func32, Try.ntmps32
  go_wp2_with fail
  refine (H1.out _).mono ?_
  rintro e w' ⟨rfl, rfl⟩
  go_wp2_with fail
  refine (H2.out _ (hA.out.below (by repeat (first | with_reducible exact Below.refl _ _ | exact Hid.out (by with_reducible assumption) | refine Below.setCell ?_ (by simp <;> omega) _ | refine below_alloc ?_ _ | refine Below.alloc ?_ (by simp <;> omega) _ | refine Below.drew ?_ | refine below_drewN ?_ _ | exact Below.refl _ _)))).mono ?_
  rintro e w1 ⟨rfl, hb⟩
  have N1 := Lib.hid (show Below w.heap.size w w1 from Below.trans (by repeat (first | with_reducible exact Below.refl _ _ | exact Hid.out (by with_reducible assumption) | refine Below.setCell ?_ (by simp <;> omega) _ | refine below_alloc ?_ _ | refine Below.alloc ?_ (by simp <;> omega) _ | refine Below.drew ?_ | refine below_drewN ?_ _ | exact Below.refl _ _)) (hb.mono (by simp <;> omega)))
  have X1 := Lib.hid (X0.out.below hb)
  have Y1 := Lib.hid (show w1.cell? ⟨w.heap.size + 1, 0, none⟩ = some (.int .i64 (o : Int)) from (hb.cell (p := ⟨w.heap.size + 1, 0, none⟩) (by simp)).trans Y0.out)
  have S1 : w.heap.size + 1 < w1.heap.size := by have := hb.size; simp at this; omega
  clear hb
  obtain ⟨x0, x1, x2⟩ := X1.out
  have y0 := Y1.out
  go_wp2_with fail
  refine (H3.out _ (hB.out.below (by repeat (first | with_reducible exact Below.refl _ _ | exact Hid.out (by with_reducible assumption) | refine Below.setCell ?_ (by simp <;> omega) _ | refine below_alloc ?_ _ | refine Below.alloc ?_ (by simp <;> omega) _ | refine Below.drew ?_ | refine below_drewN ?_ _ | exact Below.refl _ _)))).mono ?_
  rintro e w2 ⟨rfl, hb⟩
  have N2 := Lib.hid (show Below w.heap.size w w2 from Below.trans (by repeat (first | with_reducible exact Below.refl _ _ | exact Hid.out (by with_reducible assumption) | refine Below.setCell ?_ (by simp <;> omega) _ | refine below_alloc ?_ _ | refine Below.alloc ?_ (by simp <;> omega) _ | refine Below.drew ?_ | refine below_drewN ?_ _ | exact Below.refl _ _)) (hb.mono (by omega)))
  have X2 := Lib.hid (X1.out.below hb)
  have Y2 := Lib.hid (show w2.cell? ⟨w.heap.size + 1, 0, none⟩ = some (.int .i64 (o : Int)) from (hb.cell (p := ⟨w.heap.size + 1, 0, none⟩) S1).trans Y1.out)
  clear hb x0 x1 x2 y0
  obtain ⟨x0, x1, x2⟩ := X2.out
  have y0 := Y2.out
  go_wp2_with fail
  refine (H4.out (w.heap.size + 1) _ (hC.out.below (by repeat (first | with_reducible exact Below.refl _ _ | exact Hid.out (by with_reducible assumption) | refine Below.setCell ?_ (by simp <;> omega) _ | refine below_alloc ?_ _ | refine Below.alloc ?_ (by simp <;> omega) _ | refine Below.drew ?_ | refine below_drewN ?_ _ | exact Below.refl _ _))) y0).mono ?_
  rintro e w' ⟨rfl, rfl⟩
  go_wp2_with fail
  go_ret
  exact ⟨ret_bool (by rw [HU.out] <;> cases r4 <;> rfl), N2.out⟩
end Go.Proofs.Ytfpombhhnojjhaa
