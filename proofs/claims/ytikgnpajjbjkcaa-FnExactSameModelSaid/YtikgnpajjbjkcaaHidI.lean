/- The chance of a word with states: the program's. -/
import Derived.Test.YtikgnpajjbjkcaaHidS
set_option linter.unusedVariables false
namespace Go.Proofs.Ytikgnpajjbjkcaa
open Go.RowKit

theorem canShow_any
  (s l : Int) (A B C : Option Addr) (n c m d o q : Nat) (f g h : Nat → Nat)
  (D : Option Addr) (p e : Nat) (v : Nat → Int) (w : World)
  (hn : n ≤ 1048576) (hm : m ≤ 1048576) (ho : o ≤ 1048576) (hc : n ≤ c ∧ c ≤ 1048576) (hd : m ≤ d ∧ d ≤ 1048576) (hq : o ≤ q ∧ q ≤ 1048576) (hA : Cells w A n (fun i => .float .f32 (f i))) (hB : Cells w B m (fun i => .float .f32 (g i))) (hC : Cells w C o (fun i => .float .f32 (h i)))
  (hp : p ≤ 1048576) (hD : Cells w D p (fun i => .int .i64 (v i))) :
    Calls Try.prog 73 #[.agg #[.int .i64 s, .int .i64 l, .slice A n c, .slice B m d, .slice C o q], .slice D p e] w fun e w' => e = .returned (.bool (validMod s l n m o f g h && wordB v p (l - 1))) ∧ Below w.heap.size w w' := by
  have HP := Lib.hid (fun W k1 k2 k3 => implValidModel_any s l A B C n c m d o q f g h W hn hm ho hc hd hq k1 k2 k3)
  have HW := Lib.hid (fun W h => implIsWord_any D p e v l W (by omega) h)
  have HL := Lib.hid (fun k => (validMod_iff (s := s) (l := l) (n := n) (m := m) (o := o) (f := f) (g := g) (h := h)).1 k)
  have HA := Lib.hid hA
  have HB := Lib.hid hB
  have HC := Lib.hid hC
  have HD := Lib.hid hD
  clear hA hB hC hD
  cases hv : validMod s l n m o f g h
  · rw [hv] at HP
    clear hv
    go_enter Try.func73, Try.ntmps73
    go_wp2_with fail
    refine (HP.out _ (HA.out.below (by repeat (first | exact Below.refl _ _ | exact Hid.out (by assumption) | refine below_alloc ?_ _ | refine Below.setCell ?_ (by simp <;> omega) _ | refine Below.alloc ?_ (by simp <;> omega) _ | refine Below.drew ?_ | refine below_drewN ?_ _))) (HB.out.below (by repeat (first | exact Below.refl _ _ | exact Hid.out (by assumption) | refine below_alloc ?_ _ | refine Below.setCell ?_ (by simp <;> omega) _ | refine Below.alloc ?_ (by simp <;> omega) _ | refine Below.drew ?_ | refine below_drewN ?_ _))) (HC.out.below (by repeat (first | exact Below.refl _ _ | exact Hid.out (by assumption) | refine below_alloc ?_ _ | refine Below.setCell ?_ (by simp <;> omega) _ | refine Below.alloc ?_ (by simp <;> omega) _ | refine Below.drew ?_ | refine below_drewN ?_ _)))).mono ?_
    rintro e w1 ⟨rfl, hb⟩
    have N1 := Lib.hid (show Below w.heap.size w w1 from Below.trans (by repeat (first | exact Below.refl _ _ | exact Hid.out (by assumption) | refine below_alloc ?_ _ | refine Below.setCell ?_ (by simp <;> omega) _ | refine Below.alloc ?_ (by simp <;> omega) _ | refine Below.drew ?_ | refine below_drewN ?_ _)) (hb.mono (by simp)))
    clear hb
    go_wp2_with fail
    go_ret
    exact ⟨rfl, N1.out⟩
  · obtain ⟨-, ⟨l1, l2⟩, -⟩ := HL.out hv
    rw [hv] at HP
    have HI := Lib.hid (show inB l 1 4 = true from inB_iff.2 ⟨l1, l2⟩)
    clear hv HL
    generalize wordB v p (l - 1) = r at *
    go_enter Try.func73, Try.ntmps73
    go_wp2_with fail
    refine (HP.out _ (HA.out.below (by repeat (first | exact Below.refl _ _ | exact Hid.out (by assumption) | refine below_alloc ?_ _ | refine Below.setCell ?_ (by simp <;> omega) _ | refine Below.alloc ?_ (by simp <;> omega) _ | refine Below.drew ?_ | refine below_drewN ?_ _))) (HB.out.below (by repeat (first | exact Below.refl _ _ | exact Hid.out (by assumption) | refine below_alloc ?_ _ | refine Below.setCell ?_ (by simp <;> omega) _ | refine Below.alloc ?_ (by simp <;> omega) _ | refine Below.drew ?_ | refine below_drewN ?_ _))) (HC.out.below (by repeat (first | exact Below.refl _ _ | exact Hid.out (by assumption) | refine below_alloc ?_ _ | refine Below.setCell ?_ (by simp <;> omega) _ | refine Below.alloc ?_ (by simp <;> omega) _ | refine Below.drew ?_ | refine below_drewN ?_ _)))).mono ?_
    rintro e w1 ⟨rfl, hb⟩
    have N1 := Lib.hid (show Below w.heap.size w w1 from Below.trans (by repeat (first | exact Below.refl _ _ | exact Hid.out (by assumption) | refine below_alloc ?_ _ | refine Below.setCell ?_ (by simp <;> omega) _ | refine Below.alloc ?_ (by simp <;> omega) _ | refine Below.drew ?_ | refine below_drewN ?_ _)) (hb.mono (by simp)))
    have X1 := Lib.hid (Box5.below (Box5.new w 27 (.int .i64 s) (.int .i64 l) (.slice A n c) (.slice B m d) (.slice C o q)) hb)
    obtain ⟨x0, x1, x2, x3, x4⟩ := X1.out
    clear hb
    go_wp2_with fail
    refine (HW.out _ (HD.out.below N1.out)).mono ?_
    rw [HI.out]
    rintro e w2 ⟨rfl, rfl⟩
    go_wp2_with fail
    go_ret
    exact ⟨by cases r <;> rfl, N1.out⟩

theorem areHidden1_any (P : Nat) (N : Nat) (v1 v2 v3 v4 : Value) (z : Int) (w : World) (hN : 1 ≤ N ∧ N ≤ 5) (b : Box5 w P (.int .i64 N) v1 v2 v3 v4) :
    Calls Try.prog 128 #[.int .i64 z, .pointer (some ⟨P, 0, none⟩)] w fun e w' => e = .returned (.bool (!inB z 0 ((N : Int) - 1))) ∧ w = w' := by
  obtain ⟨N1, N2⟩ := hN
  have HI := Lib.hid (fun W => between_any z 0 ((N : Int) - 1) W)
  obtain ⟨x0, x1, x2, x3, x4⟩ := b
  have hws : IntKind.i64.wrap ((N : Int) - 1) = (N : Int) - 1 := by rw [IntKind.wrap_i64]; omega
  generalize inB z 0 ((N : Int) - 1) = r at *
  go_enter Try.func128, Try.ntmps128
  go_wp2_with fail
  refine (HI.out _).mono ?_
  rintro e w' ⟨rfl, rfl⟩
  go_wp2_with fail
  go_ret
  exact ⟨rfl, rfl⟩
/-- Whether a list has a number out of range, told by its index. -/
def IdxRes (b : Bool) (r : Nat) (e : Ending) : Prop := ∃ i : Int, e = .returned (.int .i64 i) ∧ (decide (0 ≤ i)) = b ∧ -1 ≤ i ∧ i ≤ r
theorem indexFunc_any (P : Nat) (N : Nat) (v1 v2 v3 v4 : Value) (E : Option Addr) (r i : Nat) (u : Nat → Int) (w : World) (hN : 1 ≤ N ∧ N ≤ 5) (hr : r ≤ 1048576) (hE : Cells w E r (fun i => .int .i64 (u i))) (b : Box5 w P (.int .i64 N) v1 v2 v3 v4) :
    Calls Try.prog 143 #[.slice E r i, .func (.func 128) #[] #[.pointer (some ⟨P, 0, none⟩)]] w fun e w' => IdxRes (!allIn u r ((N : Int) - 1)) r e ∧ w = w' := by
  have HE := Lib.hid hE
  have X := Lib.hid b
  have HC := Lib.hid (fun z => areHidden1_any P N v1 v2 v3 v4 z w hN b)
  have HNO := Lib.hid (fun k (hk : k < r) (h : inB (u k) 0 ((N : Int) - 1) = false) => allIn_no hk h)
  have HYES := Lib.hid (fun (h : ∀ k, k < r → inB (u k) 0 ((N : Int) - 1) = true) => show allIn u r ((N : Int) - 1) = true from allIn_iff.2 fun k hk => inB_iff.1 (h k hk))
  clear hE b
  generalize allIn u r ((N : Int) - 1) = R at *
  go_enter Try.func143, Try.ntmps143
  go_wp2_with fail
  go_loop [5, 8] (fun _ j => ∃ k : Nat, k ≤ r ∧ j = .int .i64 k ∧ Hid (∀ j, j < k → inB (u j) 0 ((N : Int) - 1) = true)) (fun _ j => r - (intOf j).toNat)
  case atStart => exact ⟨0, Nat.zero_le _, rfl, fun j hj => by omega⟩
  case round =>
    obtain ⟨k, hk, rfl, HP⟩ := hrel
    by_cases hlt : k < r
    · have d1 : (k : Int) < r := by omega
      obtain ⟨y, rfl, hy0⟩ := HE.out k hlt
      have hy : w.cell? (y.add k) = some (.int .i64 (u k)) := hy0
      clear hy0
      have HNk := Lib.hid (HNO.out k hlt)
      have HPk := Lib.hid (show inB (u k) 0 ((N : Int) - 1) = true → ∀ j, j < k + 1 → inB (u j) 0 ((N : Int) - 1) = true from fun e j hj => by
        rcases Nat.lt_or_ge j k with h | h
        · exact HP.out j h
        · have : j = k := by omega
          subst this
          exact e)
      generalize u k = z at *
      have HCk := Lib.hid (HC.out z)
      cases hz : inB z 0 ((N : Int) - 1)
      · rw [hz] at HCk
        have HR := Lib.hid (HNk.out hz)
        clear hz HNk HPk
        go_wp2_with fail
        refine HCk.out.mono ?_
        rintro e w' ⟨rfl, rfl⟩
        go_wp2_with fail
        go_ret
        exact ⟨⟨k, rfl, by rw [HR.out]; simp, by omega, by omega⟩, rfl⟩
      · rw [hz] at HCk
        have HR := Lib.hid (HPk.out hz)
        clear hz HNk HPk
        go_wp2_with fail
        refine HCk.out.mono ?_
        rintro e w' ⟨rfl, rfl⟩
        go_wp2_with fail
        go_round
        case rel => exact ⟨k + 1, by omega, by go_num, HR.out⟩
        case measure => simp [intOf]; omega
    · have d1 : ¬ (k : Int) < r := by omega
      obtain rfl : r = k := by omega
      have HR := Lib.hid (HYES.out HP.out)
      go_wp2_with fail
      go_ret
      exact ⟨⟨-1, rfl, by rw [HR.out]; rfl, by omega, by omega⟩, rfl⟩
theorem containsFunc_any (P : Nat) (N : Nat) (v1 v2 v3 v4 : Value) (E : Option Addr) (r i : Nat) (u : Nat → Int) (w : World) (hN : 1 ≤ N ∧ N ≤ 5) (hr : r ≤ 1048576) (hE : Cells w E r (fun i => .int .i64 (u i))) (b : Box5 w P (.int .i64 N) v1 v2 v3 v4) :
    Calls Try.prog 129 #[.slice E r i, .func (.func 128) #[] #[.pointer (some ⟨P, 0, none⟩)]] w fun e w' => e = .returned (.bool (!allIn u r ((N : Int) - 1))) ∧ w = w' := by
  have HI := Lib.hid (indexFunc_any P N v1 v2 v3 v4 E r i u w hN hr hE b)
  clear hE b
  generalize allIn u r ((N : Int) - 1) = R at *
  go_enter Try.func129, Try.ntmps129
  go_wp2_with fail
  refine HI.out.mono ?_
  rintro e w' ⟨⟨j, rfl, hj, j1, j2⟩, rfl⟩
  have HJ := Lib.hid hj
  clear hj
  by_cases h : 0 ≤ j
  · have HD := Lib.hid (decide_eq_true h)
    go_wp2_with fail
    go_ret
    exact ⟨ret_bool (by rw [← HJ.out, HD.out]), rfl⟩
  · have HD := Lib.hid (decide_eq_false h)
    go_wp2_with fail
    go_ret
    exact ⟨ret_bool (by rw [← HJ.out, HD.out]), rfl⟩
theorem areHidden_any (N : Nat) (v1 v2 v3 v4 : Value) (D : Option Addr) (p e : Nat) (E : Option Addr) (r i : Nat) (u : Nat → Int) (w : World) (hN : 1 ≤ N ∧ N ≤ 5) (hp : p ≤ 1048576) (hr : r ≤ 1048576) (hE : Cells w E r (fun i => .int .i64 (u i))) :
    Calls Try.prog 100 #[.agg #[.int .i64 N, v1, v2, v3, v4], .slice D p e, .slice E r i] w fun e w' => e = .returned (.bool (statesB u r p N)) ∧ Below w.heap.size w w' := by
  have HE := Lib.hid hE
  have HC := Lib.hid (fun P W k b => containsFunc_any P N v1 v2 v3 v4 E r i u W hN hr k b)
  have HS := Lib.hid (show statesB u r p N = (allIn u r ((N : Int) - 1) && decide (r = p + 1)) from rfl)
  have hmf : ∀ (fn : Fn) (first cap : Array Value) (w : World), (Instr.makeFunc fn first cap).run Try.prog w = .ok (.func fn first cap) w := fun _ _ _ _ => rfl
  clear hE
  generalize statesB u r p N = R at *
  generalize allIn u r ((N : Int) - 1) = R2 at *
  by_cases h : r = p + 1
  · have d2 : ((r : Int) == (p : Int) + 1) = true := by simp; omega
    have HD := Lib.hid (decide_eq_true h)
    clear h
    go_enter Try.func100, Try.ntmps100
    go_wp2_with fail
    refine (HC.out w.heap.size _ (HE.out.below (by repeat (first | exact Below.refl _ _ | exact Hid.out (by assumption) | refine below_alloc ?_ _ | refine Below.setCell ?_ (by simp <;> omega) _ | refine Below.alloc ?_ (by simp <;> omega) _ | refine Below.drew ?_ | refine below_drewN ?_ _))) (Box5.new w _ _ _ _ _ _)).mono ?_
    rintro e w' ⟨rfl, rfl⟩
    go_wp2_with fail
    go_ret
    exact ⟨ret_bool (by rw [HS.out, HD.out]; cases R2 <;> rfl), (by repeat (first | exact Below.refl _ _ | exact Hid.out (by assumption) | refine below_alloc ?_ _ | refine Below.setCell ?_ (by simp <;> omega) _ | refine Below.alloc ?_ (by simp <;> omega) _ | refine Below.drew ?_ | refine below_drewN ?_ _))⟩
  · have d2 : ((r : Int) == (p : Int) + 1) = false := by simp; omega
    have HD := Lib.hid (decide_eq_false h)
    clear h
    go_enter Try.func100, Try.ntmps100
    go_wp2_with fail
    go_ret
    exact ⟨ret_bool (by rw [HS.out, HD.out]; cases R2 <;> rfl), (by repeat (first | exact Below.refl _ _ | exact Hid.out (by assumption) | refine below_alloc ?_ _ | refine Below.setCell ?_ (by simp <;> omega) _ | refine Below.alloc ?_ (by simp <;> omega) _ | refine Below.drew ?_ | refine below_drewN ?_ _))⟩

/-- A product of a number and those of a row, from left to right. -/
def prodF (x : Nat) (t : Nat → Nat) : Nat → Nat
  | 0 => x
  | k + 1 => mul32 (prodF x t k) (t k)
theorem product_any (x : Nat) (E : Option Addr) (r i : Nat) (t : Nat → Nat) (w : World) (hr : r ≤ 1048576) (hE : Cells w E r (fun i => .float .f32 (t i))) (hmul : ∀ k, k < r → floatBits .mul .f32 (prodF x t k) (t k) = some (prodF x t (k + 1))) :
    Calls Try.prog 93 #[.float .f32 x, .slice E r i] w fun e w' => e = .returned (.float .f32 (prodF x t r)) ∧ w = w' := by
  have HE := Lib.hid hE
  have HM := Lib.hid hmul
  clear hE hmul
  go_enter Try.func93, Try.ntmps93
  go_wp2_with fail
  go_loop [0, 6, 9] (fun a _ j => ∃ k : Nat, k ≤ r ∧ j = .int .i64 k ∧ a = .float .f32 (prodF x t k)) (fun _ _ j => r - (intOf j).toNat)
  case atStart => exact ⟨0, Nat.zero_le _, rfl, rfl⟩
  case round =>
    obtain ⟨k, hk, rfl, rfl⟩ := hrel
    by_cases hlt : k < r
    · have d1 : (k : Int) < r := by omega
      obtain ⟨y, rfl, hy0⟩ := HE.out k hlt
      have hy : w.cell? (y.add k) = some (.float .f32 (t k)) := hy0
      have hm := fun W => run_float_arith (P := Try.prog) W .mul 36 .f32 _ _ _ (HM.out k hlt)
      clear hy0
      generalize hs1 : prodF x t (k + 1) = s1 at *
      have HS1 := Lib.hid hs1
      clear hs1
      generalize prodF x t k = s0 at *
      generalize t k = z at *
      go_wp2_with fail
      go_round
      case rel => exact ⟨k + 1, by omega, by go_num, by rw [HS1.out]⟩
      case measure => simp [intOf]; omega
    · have d1 : ¬ (k : Int) < r := by omega
      obtain rfl : r = k := by omega
      go_wp2_with fail
      go_ret
      exact ⟨rfl, rfl⟩

theorem showOf_any (N L : Nat) (A B C : Option Addr) (n c m d o q : Nat) (h : Nat → Nat) (a b : Nat) (w : World) (hl : o ≤ 1048576) (hi : a * L + b < o) (hC : Cells w C o (fun i => .float .f32 (h i))) :
    Calls Try.prog 94 #[.agg #[.int .i64 N, .int .i64 L, .slice A n c, .slice B m d, .slice C o q], .int .i64 a, .int .i64 b] w fun e w' => e = .returned (.float .f32 (h (a * L + b))) ∧ Below w.heap.size w w' := by
  obtain ⟨x, rfl, hx0⟩ := hC (a * L + b) hi
  have hxa : ∀ o, (w.alloc o).cell? (x.add (a * L + b)) = some (.float .f32 (h (a * L + b))) := fun o => by rw [World.cell?_alloc_lt w o _ (World.block_lt_of_cell? _ _ hx0)]; exact hx0
  have w1 : IntKind.i64.wrap ((a : Int) * L) = ((a * L : Nat) : Int) := by rw [← Int.natCast_mul, IntKind.wrap_i64]; omega
  have d1 : ((a * L : Nat) : Int) + b < o := by omega
  clear hC hx0
  generalize h (a * L + b) = u at *
  generalize a * L = ab at *
  go_enter Try.func94, Try.ntmps94
  go_wp2_with fail
  go_ret
  exact ⟨rfl, (by repeat (first | exact Below.refl _ _ | exact Hid.out (by assumption) | refine below_alloc ?_ _ | refine Below.setCell ?_ (by simp <;> omega) _ | refine Below.alloc ?_ (by simp <;> omega) _ | refine Below.drew ?_ | refine below_drewN ?_ _))⟩
theorem stepOf_any (N L : Nat) (A B C : Option Addr) (n c m d o q : Nat) (h : Nat → Nat) (a b : Nat) (w : World) (hl : m ≤ 1048576) (hi : a * N + b < m) (hC : Cells w B m (fun i => .float .f32 (h i))) :
    Calls Try.prog 95 #[.agg #[.int .i64 N, .int .i64 L, .slice A n c, .slice B m d, .slice C o q], .int .i64 a, .int .i64 b] w fun e w' => e = .returned (.float .f32 (h (a * N + b))) ∧ Below w.heap.size w w' := by
  obtain ⟨x, rfl, hx0⟩ := hC (a * N + b) hi
  have hxa : ∀ o, (w.alloc o).cell? (x.add (a * N + b)) = some (.float .f32 (h (a * N + b))) := fun o => by rw [World.cell?_alloc_lt w o _ (World.block_lt_of_cell? _ _ hx0)]; exact hx0
  have w1 : IntKind.i64.wrap ((a : Int) * N) = ((a * N : Nat) : Int) := by rw [← Int.natCast_mul, IntKind.wrap_i64]; omega
  have d1 : ((a * N : Nat) : Int) + b < m := by omega
  clear hC hx0
  generalize h (a * N + b) = u at *
  generalize a * N = ab at *
  go_enter Try.func95, Try.ntmps95
  go_wp2_with fail
  go_ret
  exact ⟨rfl, (by repeat (first | exact Below.refl _ _ | exact Hid.out (by assumption) | refine below_alloc ?_ _ | refine Below.setCell ?_ (by simp <;> omega) _ | refine Below.alloc ?_ (by simp <;> omega) _ | refine Below.drew ?_ | refine below_drewN ?_ _))⟩
end Go.Proofs.Ytikgnpajjbjkcaa
