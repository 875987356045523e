/- Words read by plain machines, on both sides. -/
import Derived.Test.YtgkmdbbdfjgggaaPlainV
import Derived.Test.YtgkmdbbdfjgggaaWordC
import Derived.Test.YtgkmdbbdfjgggaaBoxP
import Derived.Test.YtgkmdbbdfjgggaaRowk
set_option linter.unusedVariables false
namespace Go.Proofs.Ytgkmdbbdfjgggaa
open Go.RowKit

theorem isRow_len {w : World} {A : Option Addr} {n c : Nat} {zs : List Int} (h : IsRow .i64 w A n c zs) : n ≤ 9223372036854775807 := by
  rcases h with ⟨_, h, _⟩ | ⟨x, _, h1, h2, _⟩
  · omega
  · unfold maxLen at h2; omega
theorem V64c.ofRow {w : World} {A : Option Addr} {n c : Nat} {zs : List Int} (h : IsRow .i64 w A n c zs) : Cells w A n (fun i => .int .i64 ((fun i => zs.getD i 0) i)) := by
  rcases h with ⟨_, h, _⟩ | ⟨x, hx, h1, h2, h3, h4, _⟩
  · subst h; exact Cells.zero
  · exact fun k hk => ⟨x, hx, h4 k (by omega)⟩

/-- The state to which k letters lead. -/
def stP (l : Int) (f v : Nat → Int) : Nat → Int
  | 0 => 0
  | k + 1 => f (stP l f v k * l + v k).toNat
theorem ix_range {s l t v : Int} {n : Nat} (h1 : 1 ≤ l) (h2 : l ≤ 4) (hn : (n : Int) = s * l) (t1 : 0 ≤ t) (t2 : t ≤ s - 1) (v1 : 0 ≤ v) (v2 : v ≤ l - 1) : 0 ≤ t * l ∧ t * l + v < n ∧ 0 ≤ t * l + v := by
  have : l = 1 ∨ l = 2 ∨ l = 3 ∨ l = 4 := by omega
  rcases this with rfl | rfl | rfl | rfl <;> omega
theorem stP_range {s l : Int} {n m : Nat} {f v : Nat → Int} {k nw : Nat} (hv : validP s l n m f = true) (hw : ∀ i, i < nw → 0 ≤ v i ∧ v i ≤ l - 1) (hk : k ≤ nw) : 0 ≤ stP l f v k ∧ stP l f v k ≤ s - 1 := by
  obtain ⟨s1, s2, l1, l2, h3, h4, h5⟩ := validP_iff.1 hv
  induction k with
  | zero => exact ⟨Int.le_refl _, by unfold stP; omega⟩
  | succ k ih =>
    obtain ⟨t1, t2⟩ := ih (by omega)
    obtain ⟨v1, v2⟩ := hw k (by omega)
    obtain ⟨_, r2, r3⟩ := ix_range l1 l2 h3 t1 t2 v1 v2
    exact h5 _ (by omega)
def readsOk (s l : Int) (n m : Nat) (f v : Nat → Int) (nw : Nat) : Bool := validP s l n m f && wordB v nw (l - 1)
def readsB (s l : Int) (n m : Nat) (f : Nat → Int) (g : Nat → Bool) (v : Nat → Int) (nw : Nat) : Bool := readsOk s l n m f v nw && g (stP l f v nw).toNat

theorem nextOf_any (s l : Int) (A B : Option Addr) (n c m d : Nat) (f : Nat → Int) (t v : Int) (w : World) (hn : n ≤ 1048576) (h1 : 0 ≤ t * l) (h2 : t * l + v < n) (h3 : 0 ≤ t * l + v) (hv : 0 ≤ v) (hA : Cells w A n (fun i => .int .i64 (f i))) :
    Calls Try.prog 58 #[.agg #[.int .i64 s, .int .i64 l, .slice A n c, .slice B m d], .int .i64 t, .int .i64 v] w fun e w' => e = .returned (.int .i64 (f (t * l + v).toNat)) ∧ Below w.heap.size w w' := by
  obtain ⟨ix, hix⟩ : ∃ ix : Nat, t * l + v = ix := ⟨(t * l + v).toNat, by omega⟩
  have HX := Lib.hid hix
  have d1 : (ix : Int) < n := by omega
  obtain ⟨x, rfl, hx0⟩ := hA ix (by omega)
  have hxa : ∀ o, (w.alloc o).cell? (x.add ix) = some (.int .i64 (f ix)) := fun o => by rw [World.cell?_alloc_lt w o _ (World.block_lt_of_cell? _ _ hx0)]; exact hx0
  have HF := Lib.hid (show f ix = f (t * l + v).toNat by rw [hix]; rfl)
  have d2 : t * l ≤ 1048576 := by omega
  clear hA hx0
  generalize f ix = u at *
  go_enter Try.func58, Try.ntmps58
  go_wp2_with fail
  go_ret
  exact ⟨by first | rfl | (rw [HF.out]; rfl), (by repeat (first | exact Below.refl _ _ | exact Hid.out (by assumption) | refine below_alloc ?_ _ | refine Below.setCell ?_ (by simp <;> omega) _ | refine Below.alloc ?_ (by simp <;> omega) _ | refine Below.drew ?_ | refine below_drewN ?_ _))⟩

theorem l02At_any (P : Nat) (s l : Int) (A B C : Option Addr) (n c m d nw q : Nat) (f v : Nat → Int) (w : World) (hn : n ≤ 1048576) (hq : nw ≤ 1048576) (hA : Cells w A n (fun i => .int .i64 (f i))) (hC : Cells w C nw (fun i => .int .i64 (v i)))
    (b : Box4 w P (.int .i64 s) (.int .i64 l) (.slice A n c) (.slice B m d)) (hv : validP s l n m f = true) (hw : ∀ i, i < nw → 0 ≤ v i ∧ v i ≤ l - 1) :
    Calls Try.prog 99 #[.pointer (some ⟨P, 0, none⟩), .slice C nw q] w fun e w' => e = .returned (.int .i64 (stP l f v nw)) ∧ ∃ r, w' = w.drewN r := by
  have BP := Lib.hid b
  have HA := Lib.hid hA
  have HC := Lib.hid hC
  have HT := Lib.hid (fun k (hk : k ≤ nw) => stP_range hv hw hk)
  obtain ⟨s1, s2, l1, l2, h3, h4, h5⟩ := validP_iff.1 hv
  have HI := Lib.hid (fun t v t1 t2 v1 v2 => ix_range (v := v) (t := t) l1 l2 h3 t1 t2 v1 v2)
  have HW := Lib.hid hw
  clear hA hC b hv hw h3 h4 h5
  go_enter Try.func99, Try.ntmps99
  go_wp2_with fail
  go_loopw [5, 6] (fun t r wr => ∃ k u : Nat, k ≤ nw ∧ r = .int .i64 k ∧ t = .int .i64 (stP l f v k) ∧ Hid (wr = w.drewN u)) (fun _ r _ => nw - (intOf r).toNat)
  case atStart => exact ⟨0, 0, Nat.zero_le _, rfl, rfl, rfl⟩
  case round =>
    obtain ⟨k, u, hk, rfl, rfl, hw⟩ := hrel
    by_cases hlt : k < nw
    · have d1 : (k : Int) < nw := by omega
      obtain ⟨y, rfl, hy0⟩ := HC.out k hlt
      have hy : wr.cell? (y.add k) = some (.int .i64 (v k)) := by rw [hw.out]; exact hy0
      have BP2 := Lib.hid (show Box4 wr P _ _ _ _ by rw [hw.out]; exact BP.out.drewN u)
      obtain ⟨r0, r1, r2, r3⟩ := BP2.out
      obtain ⟨t1, t2⟩ := HT.out k hk
      obtain ⟨v1, v2⟩ := HW.out k hlt
      have HS := Lib.hid (show stP l f v (k + 1) = f (stP l f v k * l + v k).toNat from rfl)
      clear hy0
      generalize stP l f v k = t at *
      generalize v k = z at *
      obtain ⟨i1, i2, i3⟩ := HI.out t z t1 t2 v1 v2
      obtain ⟨ix, hix⟩ : ∃ ix : Nat, t * l + z = ix := ⟨(t * l + z).toNat, by omega⟩
      have HX := Lib.hid hix
      have d2 : (ix : Int) < n := by omega
      obtain ⟨x, rfl, hx0⟩ := HA.out ix (by omega)
      have hx : wr.cell? (x.add ix) = some (.int .i64 (f ix)) := by rw [hw.out]; exact hx0
      have hwm : IntKind.i64.wrap (t * l) = t * l := by rw [IntKind.wrap_i64]; omega
      have hwa : IntKind.i64.wrap (t * l + z) = ix := by rw [IntKind.wrap_i64]; omega
      have hwi : IntKind.i64.wrap (ix : Int) = ix := by rw [IntKind.wrap_i64]; omega
      have HF := Lib.hid (show f ix = stP l f v (k + 1) by rw [HS.out, hix]; rfl)
      clear hx0
      generalize f ix = y2 at *
      go_wp2_with fail
      go_quiet (fail)
      go_wp2_with fail
      exact ⟨⟨k + 1, u + nq, by omega, by simp, by rw [HF.out], by rw [hw.out]; exact World.drewN_drewN ..⟩, by simp [intOf]; omega⟩
    · have d1 : ¬ (k : Int) < nw := by omega
      have e : k = nw := by omega
      subst e
      go_wp2_with fail
      go_ret
      exact ⟨rfl, _, hw.out⟩

theorem l02Run_any (P : Nat) (s l : Int) (A B C : Option Addr) (n c m d nw q : Nat) (f v : Nat → Int) (g : Nat → Bool) (w : World) (hn : n ≤ 1048576) (hq : nw ≤ 1048576) (hA : Cells w A n (fun i => .int .i64 (f i))) (hB : Cells w B m (fun i => .bool (g i))) (hC : Cells w C nw (fun i => .int .i64 (v i)))
    (b : Box4 w P (.int .i64 s) (.int .i64 l) (.slice A n c) (.slice B m d)) (hv : validP s l n m f = true) (hw : ∀ i, i < nw → 0 ≤ v i ∧ v i ≤ l - 1) :
    Calls Try.prog 56 #[.pointer (some ⟨P, 0, none⟩), .slice C nw q] w fun e w' => e = .returned (.bool (g (stP l f v nw).toNat)) ∧ ∃ r, w' = w.drewN r := by
  obtain ⟨t1, t2⟩ := stP_range hv hw (Nat.le_refl nw)
  obtain ⟨s1, s2, l1, l2, h3, h4, h5⟩ := validP_iff.1 hv
  have HAt := Lib.hid (fun r => l02At_any P s l A B C n c m d nw q f v (w.drewN r) hn hq hA hC (b.drewN r) hv hw)
  generalize stP l f v nw = t at *
  obtain ⟨ix, rfl⟩ : ∃ ix : Nat, t = ix := ⟨t.toNat, by omega⟩
  have d2 : (ix : Int) < m := by omega
  obtain ⟨x, rfl, hx0⟩ := hB ix (by omega)
  have hx : w.cell? (x.add ix) = some (.bool (g ix)) := hx0
  obtain ⟨r0, r1, r2, r3⟩ := b
  have HF := Lib.hid (show g ix = g ((ix : Int)).toNat from rfl)
  clear hA hB hC hv hw h3 h4 h5 hx0
  generalize g ix = y at *
  go_enter Try.func56, Try.ntmps56
  go_wp2_with fail
  go_quiet (exact Calls.quiet_of (HAt.out _))
  go_wp2_with fail
  go_ret
  exact ⟨ret_bool HF.out, _, rfl⟩

theorem specReadsWord_any
  (s l : Int) (A B : Option Addr) (n c m d : Nat) (f : Nat → Int) (g : Nat → Bool) (C : Option Addr) (nw q : Nat) (v : Nat → Int) (w : World) (hn : n ≤ 1048576) (hm : m ≤ 1048576) (hA : Cells w A n (fun i => .int .i64 (f i))) (hB : Cells w B m (fun i => .bool (g i))) (hq : nw ≤ 1048576) (hC : Cells w C nw (fun i => .int .i64 (v i)))
  : Calls Try.prog 20 #[.agg #[.int .i64 s, .int .i64 l, .slice A n c, .slice B m d], .slice C nw q] w fun e w' => e = .returned (.tuple #[.bool (readsB s l n m f g v nw), .bool (readsOk s l n m f v nw)]) ∧ Below w.heap.size w w' := by
  have HU := Lib.hid (show readsB s l n m f g v nw = (readsOk s l n m f v nw && g (stP l f v nw).toNat) from rfl)
  have HO := Lib.hid (show readsOk s l n m f v nw = (validP s l n m f && wordB v nw (l - 1)) from rfl)
  have HP := Lib.hid (fun P W b h => l02Plain_any P s l A B n c m d f W (by omega) (by omega) h (Box4.c0 b) (Box4.c1 b) (Box4.c2 b) (Box4.c3 b))
  have HW := Lib.hid (fun W h h1 h2 => l02Word_any C nw q v l W (by omega) h h1 h2)
  have HR := Lib.hid (fun P W h1 h2 h3 b hv hw => l02Run_any P s l A B C n c m d nw q f v g W hn hq h1 h2 h3 b hv hw)
  have HV := Lib.hid (fun h => (validP_iff (s := s) (l := l) (n := n) (m := m) (f := f)).1 h)
  have HN := Lib.hid (fun h => (wordB_iff (f := v) (n := nw) (b := l - 1)).1 h)
  have HA := Lib.hid hA
  have HB := Lib.hid hB
  have HC := Lib.hid hC
  clear hA hB hC
  generalize readsB s l n m f g v nw = r1 at *
  generalize readsOk s l n m f v nw = r2 at *
  cases hv : validP s l n m f
  · have hv' := Lib.hid hv
    go_enter Try.func20, Try.ntmps20
    go_wp2_with fail
    refine (HP.out _ _ (Box4.new w _ _ _ _ _) (HA.out.below (by repeat (first | exact Below.refl _ _ | exact Hid.out (by assumption) | refine below_alloc ?_ _ | refine Below.setCell ?_ (by simp <;> omega) _ | refine Below.alloc ?_ (by simp <;> omega) _ | refine Below.drew ?_ | refine below_drewN ?_ _)))).mono ?_
    rw [hv'.out]
    rintro e w1 ⟨rfl, u, rfl⟩
    have h2 : r2 = false := by rw [HO.out, hv'.out]; rfl
    have h1 : r1 = false := by rw [HU.out, h2]; rfl
    subst h1 h2
    clear hv
    go_wp2_with fail
    refine bodyPost_ret (v := .tuple #[.bool false, .bool false]) (by simp [results, Try.results20, go_sem]) rfl ⟨rfl, (by repeat (first | exact Below.refl _ _ | exact Hid.out (by assumption) | refine below_alloc ?_ _ | refine Below.setCell ?_ (by simp <;> omega) _ | refine Below.alloc ?_ (by simp <;> omega) _ | refine Below.drew ?_ | refine below_drewN ?_ _))⟩
  · obtain ⟨s1, s2, l1, l2, -, -, -⟩ := HV.out hv
    have hv' := Lib.hid hv
    cases hw : wordB v nw (l - 1)
    · have hw' := Lib.hid hw
      have h2 : r2 = false := by rw [HO.out, hv'.out, hw'.out]; rfl
      have h1 : r1 = false := by rw [HU.out, h2]; rfl
      subst h1 h2
      clear hv hw
      go_enter Try.func20, Try.ntmps20
      go_wp2_with fail
      refine (HP.out _ _ (Box4.new w _ _ _ _ _) (HA.out.below (by repeat (first | exact Below.refl _ _ | exact Hid.out (by assumption) | refine below_alloc ?_ _ | refine Below.setCell ?_ (by simp <;> omega) _ | refine Below.alloc ?_ (by simp <;> omega) _ | refine Below.drew ?_ | refine below_drewN ?_ _)))).mono ?_
      rw [hv'.out]
      rintro e w1 ⟨rfl, u, rfl⟩
      go_wp2_with fail
      refine (HW.out _ (HC.out.below (by repeat (first | exact Below.refl _ _ | exact Hid.out (by assumption) | refine below_alloc ?_ _ | refine Below.setCell ?_ (by simp <;> omega) _ | refine Below.alloc ?_ (by simp <;> omega) _ | refine Below.drew ?_ | refine below_drewN ?_ _))) l1 l2).mono ?_
      rw [hw'.out]
      rintro e w1 ⟨rfl, rfl⟩
      go_wp2_with fail
      refine bodyPost_ret (v := .tuple #[.bool false, .bool false]) (by simp [results, Try.results20, go_sem]) rfl ⟨rfl, (by repeat (first | exact Below.refl _ _ | exact Hid.out (by assumption) | refine below_alloc ?_ _ | refine Below.setCell ?_ (by simp <;> omega) _ | refine Below.alloc ?_ (by simp <;> omega) _ | refine Below.drew ?_ | refine below_drewN ?_ _))⟩
    · have hw' := Lib.hid hw
      have h2 : r2 = true := by rw [HO.out, hv'.out, hw'.out]; rfl
      have h1 : r1 = g (stP l f v nw).toNat := by rw [HU.out, h2]; rfl
      subst h1 h2
      clear hv hw
      go_enter Try.func20, Try.ntmps20
      go_wp2_with fail
      refine (HP.out _ _ (Box4.new w _ _ _ _ _) (HA.out.below (by repeat (first | exact Below.refl _ _ | exact Hid.out (by assumption) | refine below_alloc ?_ _ | refine Below.setCell ?_ (by simp <;> omega) _ | refine Below.alloc ?_ (by simp <;> omega) _ | refine Below.drew ?_ | refine below_drewN ?_ _)))).mono ?_
      rw [hv'.out]
      rintro e w1 ⟨rfl, u, rfl⟩
      go_wp2_with fail
      refine (HW.out _ (HC.out.below (by repeat (first | exact Below.refl _ _ | exact Hid.out (by assumption) | refine below_alloc ?_ _ | refine Below.setCell ?_ (by simp <;> omega) _ | refine Below.alloc ?_ (by simp <;> omega) _ | refine Below.drew ?_ | refine below_drewN ?_ _))) l1 l2).mono ?_
      rw [hw'.out]
      rintro e w1 ⟨rfl, rfl⟩
      go_wp2_with fail
      refine (HR.out _ _ (HA.out.below (by repeat (first | exact Below.refl _ _ | exact Hid.out (by assumption) | refine below_alloc ?_ _ | refine Below.setCell ?_ (by simp <;> omega) _ | refine Below.alloc ?_ (by simp <;> omega) _ | refine Below.drew ?_ | refine below_drewN ?_ _))) (HB.out.below (by repeat (first | exact Below.refl _ _ | exact Hid.out (by assumption) | refine below_alloc ?_ _ | refine Below.setCell ?_ (by simp <;> omega) _ | refine Below.alloc ?_ (by simp <;> omega) _ | refine Below.drew ?_ | refine below_drewN ?_ _))) (HC.out.below (by repeat (first | exact Below.refl _ _ | exact Hid.out (by assumption) | refine below_alloc ?_ _ | refine Below.setCell ?_ (by simp <;> omega) _ | refine Below.alloc ?_ (by simp <;> omega) _ | refine Below.drew ?_ | refine below_drewN ?_ _))) ((Box4.new w _ _ _ _ _).drewN _) hv'.out (HN.out hw'.out).1).mono ?_
      rintro e w1 ⟨rfl, u2, rfl⟩
      go_wp2_with fail
      refine bodyPost_ret (v := .tuple #[.bool (g (stP l f v nw).toNat), .bool true]) (by simp [results, Try.results20, go_sem]) rfl ⟨rfl, (by repeat (first | exact Below.refl _ _ | exact Hid.out (by assumption) | refine below_alloc ?_ _ | refine Below.setCell ?_ (by simp <;> omega) _ | refine Below.alloc ?_ (by simp <;> omega) _ | refine Below.drew ?_ | refine below_drewN ?_ _))⟩

theorem implReadsWord_any
  (s l : Int) (A B : Option Addr) (n c m d : Nat) (f : Nat → Int) (g : Nat → Bool) (C : Option Addr) (nw q : Nat) (v : Nat → Int) (w : World) (hn : n ≤ 1048576) (hm : m ≤ 1048576) (hA : Cells w A n (fun i => .int .i64 (f i))) (hB : Cells w B m (fun i => .bool (g i))) (hq : nw ≤ 1048576) (hC : Cells w C nw (fun i => .int .i64 (v i)))
  : Calls Try.prog 22 #[.agg #[.int .i64 s, .int .i64 l, .slice A n c, .slice B m d], .slice C nw q] w fun e w' => e = .returned (.tuple #[.bool (readsB s l n m f g v nw), .bool (readsOk s l n m f v nw)]) ∧ Below w.heap.size w w' := by
  have HU := Lib.hid (show readsB s l n m f g v nw = (readsOk s l n m f v nw && g (stP l f v nw).toNat) from rfl)
  have HO := Lib.hid (show readsOk s l n m f v nw = (validP s l n m f && wordB v nw (l - 1)) from rfl)
  have HP := Lib.hid (fun W h => implValidPlain_any s l A B n c m d f W (by omega) (by omega) h)
  have HW := Lib.hid (fun W h => implIsWord_any C nw q v l W (by omega) h)
  have HX := Lib.hid (fun t z W h1 h2 h3 h4 h => nextOf_any s l A B n c m d f t z W hn h1 h2 h3 h4 h)
  have HV := Lib.hid (fun h => (validP_iff (s := s) (l := l) (n := n) (m := m) (f := f)).1 h)
  have HN := Lib.hid (fun h => (wordB_iff (f := v) (n := nw) (b := l - 1)).1 h)
  have HT := Lib.hid (fun k hv hw (hk : k ≤ nw) => stP_range (k := k) (nw := nw) (s := s) (l := l) (n := n) (m := m) (f := f) (v := v) hv hw hk)
  have HA := Lib.hid hA
  have HB := Lib.hid hB
  have HC := Lib.hid hC
  clear hA hB hC
  generalize readsB s l n m f g v nw = r1 at *
  generalize readsOk s l n m f v nw = r2 at *
  cases hv : validP s l n m f
  · have hv' := Lib.hid hv
    have h2 : r2 = false := by rw [HO.out, hv'.out]; rfl
    have h1 : r1 = false := by rw [HU.out, h2]; rfl
    subst h1 h2
    clear hv
    go_enter Try.func22, Try.ntmps22
    go_wp2_with fail
    refine (HP.out _ (HA.out.below (by repeat (first | exact Below.refl _ _ | exact Hid.out (by assumption) | refine below_alloc ?_ _ | refine Below.setCell ?_ (by simp <;> omega) _ | refine Below.alloc ?_ (by simp <;> omega) _ | refine Below.drew ?_ | refine below_drewN ?_ _)))).mono ?_
    rw [hv'.out]
    rintro e w1 ⟨rfl, hb⟩
    have N1 := Lib.hid (show Below w.heap.size w w1 from Below.trans (by repeat (first | exact Below.refl _ _ | exact Hid.out (by assumption) | refine below_alloc ?_ _ | refine Below.setCell ?_ (by simp <;> omega) _ | refine Below.alloc ?_ (by simp <;> omega) _ | refine Below.drew ?_ | refine below_drewN ?_ _)) (hb.mono (by simp)))
    clear hb
    go_wp2_with fail
    refine bodyPost_ret (v := .tuple #[.bool false, .bool false]) (by simp [results, Try.results22, go_sem]) rfl ⟨rfl, N1.out⟩
  · obtain ⟨s1, s2, l1, l2, e3, e4, -⟩ := HV.out hv
    have hl : inB l 1 4 = true := inB_iff.2 ⟨l1, l2⟩
    have HL := Lib.hid hl
    have E3 := Lib.hid e3
    have E4 := Lib.hid e4
    clear hl e3 e4
    have hv' := Lib.hid hv
    cases hw : wordB v nw (l - 1)
    · have hw' := Lib.hid hw
      have h2 : r2 = false := by rw [HO.out, hv'.out, hw'.out]; rfl
      have h1 : r1 = false := by rw [HU.out, h2]; rfl
      subst h1 h2
      clear hv hw
      go_enter Try.func22, Try.ntmps22
      go_wp2_with fail
      refine (HP.out _ (HA.out.below (by repeat (first | exact Below.refl _ _ | exact Hid.out (by assumption) | refine below_alloc ?_ _ | refine Below.setCell ?_ (by simp <;> omega) _ | refine Below.alloc ?_ (by simp <;> omega) _ | refine Below.drew ?_ | refine below_drewN ?_ _)))).mono ?_
      rw [hv'.out]
      rintro e w1 ⟨rfl, hb⟩
      have N1 := Lib.hid (show Below w.heap.size w w1 from Below.trans (by repeat (first | exact Below.refl _ _ | exact Hid.out (by assumption) | refine below_alloc ?_ _ | refine Below.setCell ?_ (by simp <;> omega) _ | refine Below.alloc ?_ (by simp <;> omega) _ | refine Below.drew ?_ | refine below_drewN ?_ _)) (hb.mono (by simp)))
      obtain ⟨c0, c1, c2, c3⟩ := Box4.below (Box4.new w 28 (.int .i64 s) (.int .i64 l) (.slice A n c) (.slice B m d)) hb
      clear hb
      go_wp2_with fail
      refine (HW.out _ (HC.out.below (by repeat (first | exact Below.refl _ _ | exact Hid.out (by assumption) | refine below_alloc ?_ _ | refine Below.setCell ?_ (by simp <;> omega) _ | refine Below.alloc ?_ (by simp <;> omega) _ | refine Below.drew ?_ | refine below_drewN ?_ _)))).mono ?_
      rw [HL.out, hw'.out]
      rintro e w1 ⟨rfl, rfl⟩
      go_wp2_with fail
      refine bodyPost_ret (v := .tuple #[.bool false, .bool false]) (by simp [results, Try.results22, go_sem]) rfl ⟨rfl, N1.out⟩
    · have hw' := Lib.hid hw
      have HWW := Lib.hid (HN.out hw').1
      have h2 : r2 = true := by rw [HO.out, hv'.out, hw'.out]; rfl
      have h1 : r1 = g (stP l f v nw).toNat := by rw [HU.out, h2]; rfl
      subst h1 h2
      clear hv hw
      go_enter Try.func22, Try.ntmps22
      go_wp2_with fail
      refine (HP.out _ (HA.out.below (by repeat (first | exact Below.refl _ _ | exact Hid.out (by assumption) | refine below_alloc ?_ _ | refine Below.setCell ?_ (by simp <;> omega) _ | refine Below.alloc ?_ (by simp <;> omega) _ | refine Below.drew ?_ | refine below_drewN ?_ _)))).mono ?_
      rw [hv'.out]
      rintro e w1 ⟨rfl, hb⟩
      have N1 := Lib.hid (show Below w.heap.size w w1 from Below.trans (by repeat (first | exact Below.refl _ _ | exact Hid.out (by assumption) | refine below_alloc ?_ _ | refine Below.setCell ?_ (by simp <;> omega) _ | refine Below.alloc ?_ (by simp <;> omega) _ | refine Below.drew ?_ | refine below_drewN ?_ _)) (hb.mono (by simp)))
      have X1 := Lib.hid (Box4.below (Box4.new w 28 (.int .i64 s) (.int .i64 l) (.slice A n c) (.slice B m d)) hb)
      obtain ⟨c0, c1, c2, c3⟩ := X1.out
      clear hb
      go_wp2_with fail
      refine (HW.out _ (HC.out.below (by repeat (first | exact Below.refl _ _ | exact Hid.out (by assumption) | refine below_alloc ?_ _ | refine Below.setCell ?_ (by simp <;> omega) _ | refine Below.alloc ?_ (by simp <;> omega) _ | refine Below.drew ?_ | refine below_drewN ?_ _)))).mono ?_
      rw [HL.out, hw'.out]
      rintro e w1x ⟨rfl, rfl⟩
      go_wp2_with fail
      go_loopw [6, 8, 21] (fun t _ r wr => ∃ k : Nat, k ≤ nw ∧ r = .int .i64 k ∧ t = .int .i64 (stP l f v k) ∧ Hid (Below w1.heap.size w1 wr)) (fun _ _ r _ => nw - (intOf r).toNat)
      case atStart => exact ⟨0, Nat.zero_le _, rfl, rfl, Below.refl _ _⟩
      case round =>
        obtain ⟨k, hk, rfl, rfl, HB1⟩ := hrel
        clear c0 c1 c2 c3
        have XR := Lib.hid (X1.out.below HB1.out)
        have NR := Lib.hid (show Below w.heap.size w wr from N1.out.trans (HB1.out.mono N1.out.size))
        obtain ⟨c0, c1, c2, c3⟩ := XR.out
        obtain ⟨t1, t2⟩ := HT.out k hv'.out HWW.out hk
        by_cases hlt : k < nw
        · have d1 : (k : Int) < nw := by omega
          obtain ⟨y, rfl, hy0⟩ := HC.out k hlt
          have hy : wr.cell? (y.add k) = some (.int .i64 (v k)) := by rw [NR.out.cell (World.block_lt_of_cell? _ _ hy0)]; exact hy0
          obtain ⟨v1, v2⟩ := HWW.out k hlt
          have HS := Lib.hid (show stP l f v (k + 1) = f (stP l f v k * l + v k).toNat from rfl)
          clear hy0
          generalize stP l f v k = t at *
          generalize v k = z at *
          obtain ⟨i1, i2, i3⟩ := ix_range l1 l2 E3.out t1 t2 v1 v2
          have HXX := Lib.hid (HX.out t z wr i1 i2 i3 v1 (HA.out.below NR.out))
          clear i1 i2 i3
          go_wp2_with fail
          refine HXX.out.mono ?_
          rintro e w2 ⟨rfl, hb⟩
          have N2 := Lib.hid (HB1.out.trans (hb.mono HB1.out.size))
          clear hb
          go_wp2_with fail
          exact ⟨⟨k + 1, by omega, by simp, by rw [HS.out], N2.out⟩, by simp [intOf]; omega⟩
        · have d1 : ¬ (k : Int) < nw := by omega
          have e : k = nw := by omega
          subst e
          obtain ⟨ix, hix⟩ : ∃ ix : Nat, stP l f v k = ix := ⟨(stP l f v k).toNat, by omega⟩
          have HXX := Lib.hid hix
          have d2 : (ix : Int) < m := by have := E4.out; omega
          obtain ⟨x, rfl, hx0⟩ := HB.out ix (by omega)
          have hx : wr.cell? (x.add ix) = some (.bool (g ix)) := by rw [NR.out.cell (World.block_lt_of_cell? _ _ hx0)]; exact hx0
          have HF := Lib.hid (show g ix = g ((ix : Int)).toNat from rfl)
          clear hx0
          generalize g ix = y at *
          go_wp2_with fail
          refine bodyPost_ret (v := .tuple #[.bool y, .bool true]) (by simp [results, Try.results22, go_sem]) rfl ⟨by first | exact congrArg (fun b => Ending.returned (Value.tuple #[Value.bool b, Value.bool true])) HF.out | rw [HXX.out]; exact congrArg (fun b => Ending.returned (Value.tuple #[Value.bool b, Value.bool true])) HF.out, NR.out⟩
end Go.Proofs.Ytgkmdbbdfjgggaa
