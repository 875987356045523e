/- The state of a tree, on both sides. -/
import Derived.Test.YtgbiablibfbilaaStateS
import Derived.Test.YtgbiablibfbilaaDeepI
set_option linter.unusedVariables false
namespace Go.Proofs.Ytgbiablibfbilaa
open Go.RowKit
/-- The state of a list's tree, 0 if there is none. -/
def stateV (s l : Int) (n m o : Nat) (f g : Nat → Int) (L : List Int) : Int := if validT s l n m o f g = true then (match trOf l L with
  | some t => (stN s.toNat f g t : Int)
  | none => 0) else 0
def stateOk (s l : Int) (n m o : Nat) (f g : Nat → Int) (L : List Int) : Bool := validT s l n m o f g && (trOf l L).isSome
theorem nodeOfT_in {l : Int} (hl : 1 ≤ l ∧ l ≤ 4) (L : List Int) : nodeOfT l L = trOf l L := by unfold nodeOfT; rw [if_pos (inB_iff.2 hl)]
theorem treeAt_ofl {w : World} {A : Option Addr} {n c : Nat} {f : Nat → Int} {t : Tr} {l : Int} (hl : l ≤ 4) (h : Cells w A n (fun i => .int .i64 (f i))) (hc : n ≤ c ∧ c ≤ 1048576) (ht : trOf l (rowL f n) = some t) : TreeAt w t A n c := by
  obtain ⟨_, ho, he⟩ := trOf_some.1 ht
  exact ⟨⟨f, h, he⟩, ok_more hl ho, hc⟩
set_option maxHeartbeats 1000000 in
theorem specStateOfTree_any
  (s l : Int) (A B C : Option Addr) (n c m d o q : Nat) (f g : Nat → Int) (h : Nat → Bool) (A1 : Option Addr) (n1 c1 : Nat) (u : Nat → Int) (w : World) (hn : n ≤ 1048576) (hm : m ≤ 1048576) (ho : o ≤ 1048576)
  (hA : Cells w A n (fun i => .int .i64 (f i))) (hB : Cells w B m (fun i => .int .i64 (g i))) (hC : Cells w C o (fun i => .bool (h i))) (hn1 : n1 ≤ 1048576) (hc1 : n1 ≤ c1 ∧ c1 ≤ 1048576) (hU : Cells w A1 n1 (fun i => .int .i64 (u i)))
  : Calls Try.prog 40 #[.agg #[.int .i64 s, .int .i64 l, .slice A n c, .slice B m d, .slice C o q], .slice A1 n1 c1] w fun e w' => e = .returned (.tuple #[.int .i64 (stateV s l n m o f g (rowL u n1)), .bool (stateOk s l n m o f g (rowL u n1))]) ∧ Below w.heap.size w w' := by
  have HT := Lib.hid (fun P W h1 h2 b => l06Trees_any P s l A B C n c m d o q f g W hn hm h1 h2 b)
  have HA := Lib.hid hA
  have HB := Lib.hid hB
  have HU := Lib.hid hU
  have X := Lib.hid (Box5.new w 28 (.int .i64 s) (.int .i64 l) (.slice A n c) (.slice B m d) (.slice C o q))
  cases hv : validT s l n m o f g
  · have HR := Lib.hid (show stateV s l n m o f g (rowL u n1) = 0 ∧ stateOk s l n m o f g (rowL u n1) = false by unfold stateV stateOk; rw [hv]; simp)
    rw [hv] at HT
    clear hA hB hC hU hv
    go_enter Try.func40, Try.ntmps40
    go_wp2_with fail
    refine (HT.out w.heap.size _ (HA.out.below (by repeat (first | with_reducible exact Below.refl _ _ | exact Hid.out (by with_reducible assumption) | refine Below.setCell ?_ (by simp <;> omega) _ | refine below_alloc ?_ _ | refine Below.alloc ?_ (by simp <;> omega) _ | refine Below.drew ?_ | refine below_drewN ?_ _ | exact Below.refl _ _))) (HB.out.below (by repeat (first | with_reducible exact Below.refl _ _ | exact Hid.out (by with_reducible assumption) | refine Below.setCell ?_ (by simp <;> omega) _ | refine below_alloc ?_ _ | refine Below.alloc ?_ (by simp <;> omega) _ | refine Below.drew ?_ | refine below_drewN ?_ _ | exact Below.refl _ _))) X.out).mono ?_
    rintro e w1 ⟨rfl, q1, rfl⟩
    go_wp2_with fail
    refine bodyPost_ret (v := .tuple #[.int .i64 0, .bool false]) (by simp [results, Try.results40, go_sem]) rfl ?_
    exact ⟨by rw [HR.out.1, HR.out.2], (by repeat (first | with_reducible exact Below.refl _ _ | exact Hid.out (by with_reducible assumption) | refine Below.setCell ?_ (by simp <;> omega) _ | refine below_alloc ?_ _ | refine Below.alloc ?_ (by simp <;> omega) _ | refine Below.drew ?_ | refine below_drewN ?_ _ | exact Below.refl _ _))⟩
  obtain ⟨vt, hs, -⟩ := validT_VT hv
  have hl := vt.hl
  cases ht : trOf l (rowL u n1) with
  | none =>
    have HR := Lib.hid (show stateV s l n m o f g (rowL u n1) = 0 ∧ stateOk s l n m o f g (rowL u n1) = false by unfold stateV stateOk; rw [hv, ht]; simp)
    have HI := Lib.hid (fun W h => l06IsTree_any A1 n1 c1 u l W hn1 hl h)
    rw [ht] at HI
    rw [hv] at HT
    clear hA hB hC hU hv hl hs vt ht
    go_enter Try.func40, Try.ntmps40
    go_wp2_with fail
    refine (HT.out w.heap.size _ (HA.out.below (by repeat (first | with_reducible exact Below.refl _ _ | exact Hid.out (by with_reducible assumption) | refine Below.setCell ?_ (by simp <;> omega) _ | refine below_alloc ?_ _ | refine Below.alloc ?_ (by simp <;> omega) _ | refine Below.drew ?_ | refine below_drewN ?_ _ | exact Below.refl _ _))) (HB.out.below (by repeat (first | with_reducible exact Below.refl _ _ | exact Hid.out (by with_reducible assumption) | refine Below.setCell ?_ (by simp <;> omega) _ | refine below_alloc ?_ _ | refine Below.alloc ?_ (by simp <;> omega) _ | refine Below.drew ?_ | refine below_drewN ?_ _ | exact Below.refl _ _))) X.out).mono ?_
    rintro e w1 ⟨rfl, q1, rfl⟩
    obtain ⟨x0, x1, x2, x3, x4⟩ := (X.out.drewN q1)
    go_wp2_with fail
    refine (HI.out _ (HU.out.below (by repeat (first | with_reducible exact Below.refl _ _ | exact Hid.out (by with_reducible assumption) | refine Below.setCell ?_ (by simp <;> omega) _ | refine below_alloc ?_ _ | refine Below.alloc ?_ (by simp <;> omega) _ | refine Below.drew ?_ | refine below_drewN ?_ _ | exact Below.refl _ _)))).mono ?_
    rintro e w1 ⟨rfl, rfl⟩
    go_wp2_with fail
    refine bodyPost_ret (v := .tuple #[.int .i64 0, .bool false]) (by simp [results, Try.results40, go_sem]) rfl ?_
    exact ⟨by rw [HR.out.1, HR.out.2], (by repeat (first | with_reducible exact Below.refl _ _ | exact Hid.out (by with_reducible assumption) | refine Below.setCell ?_ (by simp <;> omega) _ | refine below_alloc ?_ _ | refine Below.alloc ?_ (by simp <;> omega) _ | refine Below.drew ?_ | refine below_drewN ?_ _ | exact Below.refl _ _))⟩
  | some t =>
    have HR := Lib.hid (show stateV s l n m o f g (rowL u n1) = (stN s.toNat f g t : Int) ∧ stateOk s l n m o f g (rowL u n1) = true by unfold stateV stateOk; rw [hv, ht]; simp)
    have HI := Lib.hid (fun W h => l06IsTree_any A1 n1 c1 u l W hn1 hl h)
    have HTA := Lib.hid (fun W (h : Cells W A1 n1 (fun i => .int .i64 (u i))) => treeAt_ofl hl.2 h hc1 ht)
    have HS := Lib.hid (fun P W h1 h2 h3 b => l06State_any P s.toNat l A B C n c m d o q f g vt t A1 n1 c1 W (trOf_some.1 ht).2.1 h1 h2 h3 (by rw [← hs]; exact b))
    rw [ht] at HI
    rw [hv] at HT
    clear hA hB hC hU hv hl hs vt ht
    generalize (stN s.toNat f g t : Int) = sv at *
    go_enter Try.func40, Try.ntmps40
    go_wp2_with fail
    refine (HT.out w.heap.size _ (HA.out.below (by repeat (first | with_reducible exact Below.refl _ _ | exact Hid.out (by with_reducible assumption) | refine Below.setCell ?_ (by simp <;> omega) _ | refine below_alloc ?_ _ | refine Below.alloc ?_ (by simp <;> omega) _ | refine Below.drew ?_ | refine below_drewN ?_ _ | exact Below.refl _ _))) (HB.out.below (by repeat (first | with_reducible exact Below.refl _ _ | exact Hid.out (by with_reducible assumption) | refine Below.setCell ?_ (by simp <;> omega) _ | refine below_alloc ?_ _ | refine Below.alloc ?_ (by simp <;> omega) _ | refine Below.drew ?_ | refine below_drewN ?_ _ | exact Below.refl _ _))) X.out).mono ?_
    rintro e w1 ⟨rfl, q1, rfl⟩
    obtain ⟨x0, x1, x2, x3, x4⟩ := (X.out.drewN q1)
    go_wp2_with fail
    refine (HI.out _ (HU.out.below (by repeat (first | with_reducible exact Below.refl _ _ | exact Hid.out (by with_reducible assumption) | refine Below.setCell ?_ (by simp <;> omega) _ | refine below_alloc ?_ _ | refine Below.alloc ?_ (by simp <;> omega) _ | refine Below.drew ?_ | refine below_drewN ?_ _ | exact Below.refl _ _)))).mono ?_
    rintro e w1 ⟨rfl, rfl⟩
    go_wp2_with fail
    refine (HS.out w.heap.size _ (HTA.out _ (HU.out.below (by repeat (first | with_reducible exact Below.refl _ _ | exact Hid.out (by with_reducible assumption) | refine Below.setCell ?_ (by simp <;> omega) _ | refine below_alloc ?_ _ | refine Below.alloc ?_ (by simp <;> omega) _ | refine Below.drew ?_ | refine below_drewN ?_ _ | exact Below.refl _ _)))) (HA.out.below (by repeat (first | with_reducible exact Below.refl _ _ | exact Hid.out (by with_reducible assumption) | refine Below.setCell ?_ (by simp <;> omega) _ | refine below_alloc ?_ _ | refine Below.alloc ?_ (by simp <;> omega) _ | refine Below.drew ?_ | refine below_drewN ?_ _ | exact Below.refl _ _))) (HB.out.below (by repeat (first | with_reducible exact Below.refl _ _ | exact Hid.out (by with_reducible assumption) | refine Below.setCell ?_ (by simp <;> omega) _ | refine below_alloc ?_ _ | refine Below.alloc ?_ (by simp <;> omega) _ | refine Below.drew ?_ | refine below_drewN ?_ _ | exact Below.refl _ _))) (X.out.drewN q1)).mono ?_
    rintro e w1 ⟨rfl, q2, rfl⟩
    go_wp2_with fail
    refine bodyPost_ret (v := .tuple #[.int .i64 sv, .bool true]) (by simp [results, Try.results40, go_sem]) rfl ?_
    exact ⟨by rw [HR.out.1, HR.out.2], (by repeat (first | with_reducible exact Below.refl _ _ | exact Hid.out (by with_reducible assumption) | refine Below.setCell ?_ (by simp <;> omega) _ | refine below_alloc ?_ _ | refine Below.alloc ?_ (by simp <;> omega) _ | refine Below.drew ?_ | refine below_drewN ?_ _ | exact Below.refl _ _))⟩
theorem state1_any (P S k : Nat) (l : Int) (A B C : Option Addr) (n c m d o q : Nat) (f : Nat → Int) (w : World) (hk : k < n) (hn : n ≤ 1048576) (hA : Cells w A n (fun i => .int .i64 (f i))) (hb : Box5 w P (.int .i64 S) (.int .i64 l) (.slice A n c) (.slice B m d) (.slice C o q)) :
    Calls Try.prog 79 #[.int .i64 (k : Int), .pointer (some ⟨P, 0, none⟩)] w fun e w' => e = .returned (.int .i64 (f k)) ∧ w = w' := by
  obtain ⟨z, rfl, hz⟩ := hA k hk
  have hz' : w.cell? (z.add k) = some (.int .i64 (f k)) := hz
  generalize f k = v at *
  obtain ⟨b0, b1, b2, b3, b4⟩ := hb
  have h1 : (k : Int) < n := by omega
  clear hz hA
  go_enter Try.func79, Try.ntmps79
  go_wp2_with fail
  go_ret
  exact ⟨rfl, rfl⟩
set_option maxRecDepth 20000 in
theorem branchState_any (S a b : Nat) (l : Int) (A B C : Option Addr) (n c m d o q : Nat) (g : Nat → Int) (w : World) (ha : a < S) (hb : b < S) (hS : S ≤ 16) (hm : m = S * S) (hB : Cells w B m (fun i => .int .i64 (g i))) :
    Calls Try.prog 65 #[.agg #[.int .i64 S, .int .i64 l, .slice A n c, .slice B m d, .slice C o q], .int .i64 (a : Int), .int .i64 (b : Int)] w fun e w' => e = .returned (.int .i64 (g (a * S + b))) ∧ Below w.heap.size w w' := by
  have hlt := sq_lt ha hb
  obtain ⟨p, hp'⟩ : ∃ p, p = a * S := ⟨_, rfl⟩
  obtain ⟨r, hr'⟩ : ∃ r, r = p + b := ⟨_, rfl⟩
  have hrm : r < m := by rw [hm, hr', hp']; exact hlt
  obtain ⟨z, rfl, hz⟩ := hB r hrm
  have hz' : w.cell? (z.add r) = some (.int .i64 (g r)) := hz
  have ha' : ∀ o, (w.alloc o).cell? (z.add r) = some (.int .i64 (g r)) := fun o => by rw [World.cell?_alloc_lt w o _ (World.block_lt_of_cell? _ _ hz')]; exact hz'
  have HS := Lib.hid (show g (a * S + b) = g r by rw [hr', hp'])
  have hm256 : m ≤ 256 := by rw [hm]; exact Nat.mul_le_mul hS hS
  have E1 : (a : Int) * (S : Int) = (p : Int) := by rw [hp', Int.natCast_mul]
  have E2 : (p : Int) + (b : Int) = (r : Int) := by rw [hr']; simp
  have W1 : IntKind.i64.wrap (p : Int) = (p : Int) := by rw [IntKind.wrap_i64]; omega
  have W2 : IntKind.i64.wrap (r : Int) = (r : Int) := by rw [IntKind.wrap_i64]; omega
  have hrm2 : (r : Int) < m := by omega
  generalize g (a * S + b) = v at *
  generalize g r = gr at *
  clear hB hz hm256 hrm hp' hr' hlt hm ha hb hS
  go_enter Try.func65, Try.ntmps65
  go_wp2_with fail
  go_ret
  exact ⟨ret_int HS.out.symm, (by repeat (first | with_reducible exact Below.refl _ _ | exact Hid.out (by with_reducible assumption) | refine Below.setCell ?_ (by simp <;> omega) _ | refine below_alloc ?_ _ | refine Below.alloc ?_ (by simp <;> omega) _ | refine Below.drew ?_ | refine below_drewN ?_ _ | exact Below.refl _ _))⟩
theorem state2_any (P S a b : Nat) (l : Int) (A B C : Option Addr) (n c m d o q : Nat) (g : Nat → Int) (w : World) (ha : a < S) (hb : b < S) (hS : S ≤ 16) (hm : m = S * S) (hB : Cells w B m (fun i => .int .i64 (g i))) (hx : Box5 w P (.int .i64 S) (.int .i64 l) (.slice A n c) (.slice B m d) (.slice C o q)) :
    Calls Try.prog 80 #[.int .i64 (a : Int), .int .i64 (b : Int), .pointer (some ⟨P, 0, none⟩)] w fun e w' => e = .returned (.int .i64 (g (a * S + b))) ∧ Below w.heap.size w w' := by
  have H := Lib.hid (fun W h => branchState_any S a b l A B C n c m d o q g W ha hb hS hm h)
  have HB := Lib.hid hB
  obtain ⟨b0, b1, b2, b3, b4⟩ := hx
  clear hB hm
  generalize g (a * S + b) = v at *
  go_enter Try.func80, Try.ntmps80
  go_wp2_with fail
  refine (H.out _ (HB.out.below (by repeat (first | with_reducible exact Below.refl _ _ | exact Hid.out (by with_reducible assumption) | refine Below.setCell ?_ (by simp <;> omega) _ | refine below_alloc ?_ _ | refine Below.alloc ?_ (by simp <;> omega) _ | refine Below.drew ?_ | refine below_drewN ?_ _ | exact Below.refl _ _)))).mono ?_
  rintro e w1 ⟨rfl, hb⟩
  have N1 := Lib.hid hb
  clear hb
  go_wp2_with fail
  go_ret
  exact ⟨rfl, N1.out⟩
set_option maxHeartbeats 2000000 in
set_option maxRecDepth 20000 in
theorem foldedS_any (P S : Nat) (l : Int) (A B C : Option Addr) (n c m d o q : Nat) (f g : Nat → Int) (v : VT S l n m f g) (hn : n ≤ 1048576) : ∀ (t : Tr) (w : World), t.ok l = true →
    Cells w A n (fun i => .int .i64 (f i)) → Cells w B m (fun i => .int .i64 (g i)) → Box5 w P (.int .i64 S) (.int .i64 l) (.slice A n c) (.slice B m d) (.slice C o q) →
    Calls Try.prog 73 #[trVal t, .func (.func 79) #[] #[.pointer (some ⟨P, 0, none⟩)], .func (.func 80) #[] #[.pointer (some ⟨P, 0, none⟩)]] w fun e w' => e = .returned (.int .i64 (stN S f g t : Int)) ∧ Below w.heap.size w w' := by
  intro t
  induction t with
  | leaf x =>
    intro w hok hA hB hb
    have hx := Tr.leaf_ok hok
    obtain ⟨k, rfl⟩ : ∃ k : Nat, x = k := ⟨x.toNat, by omega⟩
    have hk : k < n := by have := v.hn; omega
    have H1 := Lib.hid (state1_any P S k l A B C n c m d o q f w hk hn hA hb)
    have HT := Lib.hid (show (stN S f g (.leaf (k : Int)) : Int) = f k by have := v.hf k hk; simp only [stN, Int.toNat_natCast]; omega)
    have ht1 := run_isLeaf (.int .i64 (k : Int))
    rw [trVal]
    generalize (stN S f g (.leaf (k : Int)) : Int) = sv at *
    generalize f k = fk at *
    clear hA hB hb hok hx v
    go_enter Try.func73, Try.ntmps73
    go_wp2_with fail
    refine H1.out.mono ?_
    rintro e w' ⟨rfl, rfl⟩
    go_wp2_with fail
    go_ret
    exact ⟨ret_int HT.out.symm, (by repeat (first | with_reducible exact Below.refl _ _ | exact Hid.out (by with_reducible assumption) | refine Below.setCell ?_ (by simp <;> omega) _ | refine below_alloc ?_ _ | refine Below.alloc ?_ (by simp <;> omega) _ | refine Below.drew ?_ | refine below_drewN ?_ _ | exact Below.refl _ _))⟩
  | br a b iha ihb =>
    intro w hok hA hB hb
    obtain ⟨oa, ob⟩ := Tr.br_ok hok
    have la := stN_lt v oa
    have lb := stN_lt v ob
    have HT := Lib.hid (show (stN S f g (.br a b) : Int) = g (stN S f g a * S + stN S f g b) by have := v.hg _ (by rw [v.hm]; exact sq_lt la lb); simp only [stN]; omega)
    have IA := Lib.hid (fun W h1 h2 h3 => iha W oa h1 h2 h3)
    have IB := Lib.hid (fun W h1 h2 h3 => ihb W ob h1 h2 h3)
    have H2 := Lib.hid (fun W h1 h2 => state2_any P S _ _ l A B C n c m d o q g W la lb v.hs.2 v.hm h1 h2)
    obtain ⟨ta, va, ea⟩ := trVal_iface a
    obtain ⟨tb, vb, eb⟩ := trVal_iface b
    rw [ea] at IA
    rw [eb] at IB
    have ht1 := run_noLeaf (.agg #[.iface ta va, .iface tb vb])
    have ht2 := run_isBranch (.agg #[.iface ta va, .iface tb vb])
    rw [trVal, ea, eb]
    have HA := Lib.hid hA
    have HB := Lib.hid hB
    have HX := Lib.hid hb
    clear iha ihb ea eb la lb hA hB hb v hok oa ob
    generalize g (stN S f g a * S + stN S f g b) = gv at *
    generalize (stN S f g a : Int) = da at *
    generalize (stN S f g b : Int) = db at *
    generalize (stN S f g (.br a b) : Int) = dd at *
    go_enter Try.func73, Try.ntmps73
    go_wp2_with fail
    obtain ⟨w1, hw1⟩ : ∃ W, W = w.alloc (.cells #[.iface ta va, .iface tb vb] 75) := ⟨_, rfl⟩
    rw [← hw1]
    have BX := Lib.hid (show Box2 w1 w.heap.size (.iface ta va) (.iface tb vb) by rw [hw1]; exact Box2.new w 75 (.iface ta va) (.iface tb vb))
    have NW := Lib.hid (show Below w.heap.size w w1 by rw [hw1]; exact (Below.refl _ _).alloc (Nat.le_refl _) _)
    have HA1 := Lib.hid (HA.out.below NW.out)
    have HB1 := Lib.hid (HB.out.below NW.out)
    have HX1 := Lib.hid (HX.out.below NW.out)
    clear hw1 HA HB HX
    have HKeep := Lib.hid (show ∀ W, Below w1.heap.size w1 W → (W.cell? ⟨w.heap.size, 0, none⟩ = some (.iface ta va) ∧ W.cell? ⟨w.heap.size, 1, none⟩ = some (.iface tb vb)) from fun W hW => by
      have X := BX.out.below hW
      exact ⟨X.c0, X.c1⟩)
    go_region_held3 (fun W => W.cell? ⟨w.heap.size, 0, none⟩ = some (.iface ta va) ∧ W.cell? ⟨w.heap.size, 1, none⟩ = some (.iface tb vb))
      (exact HKeep.out _ (by repeat (first | with_reducible exact Below.refl _ _ | exact Hid.out (by with_reducible assumption) | refine Below.setCell ?_ (by simp <;> omega) _ | refine below_alloc ?_ _ | refine Below.alloc ?_ (by simp <;> omega) _ | refine Below.drew ?_ | refine below_drewN ?_ _ | exact Below.refl _ _)))
      (first
        | (go_at_call_of 73 (Value.iface ta va)
           refine (IA.out _ (HA1.out.below (by repeat (first | with_reducible exact Below.refl _ _ | exact Hid.out (by with_reducible assumption) | refine Below.setCell ?_ (by simp <;> omega) _ | refine below_alloc ?_ _ | refine Below.alloc ?_ (by simp <;> omega) _ | refine Below.drew ?_ | refine below_drewN ?_ _ | exact Below.refl _ _))) (HB1.out.below (by repeat (first | with_reducible exact Below.refl _ _ | exact Hid.out (by with_reducible assumption) | refine Below.setCell ?_ (by simp <;> omega) _ | refine below_alloc ?_ _ | refine Below.alloc ?_ (by simp <;> omega) _ | refine Below.drew ?_ | refine below_drewN ?_ _ | exact Below.refl _ _))) (HX1.out.below (by repeat (first | with_reducible exact Below.refl _ _ | exact Hid.out (by with_reducible assumption) | refine Below.setCell ?_ (by simp <;> omega) _ | refine below_alloc ?_ _ | refine Below.alloc ?_ (by simp <;> omega) _ | refine Below.drew ?_ | refine below_drewN ?_ _ | exact Below.refl _ _)))).mono ?_
           rintro e ua ⟨rfl, hb⟩
           have PA := Lib.hid (stepB (w := w1) (lo := w1.heap.size) (by repeat (first | with_reducible exact Below.refl _ _ | exact Hid.out (by with_reducible assumption) | refine Below.setCell ?_ (by simp <;> omega) _ | refine below_alloc ?_ _ | refine Below.alloc ?_ (by simp <;> omega) _ | refine Below.drew ?_ | refine below_drewN ?_ _ | exact Below.refl _ _)) (Nat.le_refl _) hb)
           clear hb)
        | (go_at_call_of 73 (Value.iface tb vb)
           refine (IB.out _ (HA1.out.below (by repeat (first | with_reducible exact Below.refl _ _ | exact Hid.out (by with_reducible assumption) | refine Below.setCell ?_ (by simp <;> omega) _ | refine below_alloc ?_ _ | refine Below.alloc ?_ (by simp <;> omega) _ | refine Below.drew ?_ | refine below_drewN ?_ _ | exact Below.refl _ _))) (HB1.out.below (by repeat (first | with_reducible exact Below.refl _ _ | exact Hid.out (by with_reducible assumption) | refine Below.setCell ?_ (by simp <;> omega) _ | refine below_alloc ?_ _ | refine Below.alloc ?_ (by simp <;> omega) _ | refine Below.drew ?_ | refine below_drewN ?_ _ | exact Below.refl _ _))) (HX1.out.below (by repeat (first | with_reducible exact Below.refl _ _ | exact Hid.out (by with_reducible assumption) | refine Below.setCell ?_ (by simp <;> omega) _ | refine below_alloc ?_ _ | refine Below.alloc ?_ (by simp <;> omega) _ | refine Below.drew ?_ | refine below_drewN ?_ _ | exact Below.refl _ _)))).mono ?_
           rintro e ub ⟨rfl, hb⟩
           have PB := Lib.hid (stepB (w := w1) (lo := w1.heap.size) (by repeat (first | with_reducible exact Below.refl _ _ | exact Hid.out (by with_reducible assumption) | refine Below.setCell ?_ (by simp <;> omega) _ | refine below_alloc ?_ _ | refine Below.alloc ?_ (by simp <;> omega) _ | refine Below.drew ?_ | refine below_drewN ?_ _ | exact Below.refl _ _)) (Nat.le_refl _) hb)
           clear hb)
        | (go_at_call 80
           refine (H2.out _ (HB1.out.below (by repeat (first | with_reducible exact Below.refl _ _ | exact Hid.out (by with_reducible assumption) | refine Below.setCell ?_ (by simp <;> omega) _ | refine below_alloc ?_ _ | refine Below.alloc ?_ (by simp <;> omega) _ | refine Below.drew ?_ | refine below_drewN ?_ _ | exact Below.refl _ _))) (HX1.out.below (by repeat (first | with_reducible exact Below.refl _ _ | exact Hid.out (by with_reducible assumption) | refine Below.setCell ?_ (by simp <;> omega) _ | refine below_alloc ?_ _ | refine Below.alloc ?_ (by simp <;> omega) _ | refine Below.drew ?_ | refine below_drewN ?_ _ | exact Below.refl _ _)))).mono ?_
           rintro e uc ⟨rfl, hb⟩
           have PC := Lib.hid (stepB (w := w1) (lo := w1.heap.size) (by repeat (first | with_reducible exact Below.refl _ _ | exact Hid.out (by with_reducible assumption) | refine Below.setCell ?_ (by simp <;> omega) _ | refine below_alloc ?_ _ | refine Below.alloc ?_ (by simp <;> omega) _ | refine Below.drew ?_ | refine below_drewN ?_ _ | exact Below.refl _ _)) (Nat.le_refl _) hb)
           clear hb))
    all_goals (
      go_wp2_with fail
      go_ret
      exact ⟨ret_int HT.out.symm, NW.out.trans ((show Below w1.heap.size w1 _ from (by repeat (first | with_reducible exact Below.refl _ _ | exact Hid.out (by with_reducible assumption) | refine Below.setCell ?_ (by simp <;> omega) _ | refine below_alloc ?_ _ | refine Below.alloc ?_ (by simp <;> omega) _ | refine Below.drew ?_ | refine below_drewN ?_ _ | exact Below.refl _ _))).mono NW.out.size)⟩)
set_option maxHeartbeats 1000000 in
theorem implStateOfTree_any
  (s l : Int) (A B C : Option Addr) (n c m d o q : Nat) (f g : Nat → Int) (h : Nat → Bool) (A1 : Option Addr) (n1 c1 : Nat) (u : Nat → Int) (w : World) (hn : n ≤ 1048576) (hm : m ≤ 1048576) (ho : o ≤ 1048576)
  (hA : Cells w A n (fun i => .int .i64 (f i))) (hB : Cells w B m (fun i => .int .i64 (g i))) (hC : Cells w C o (fun i => .bool (h i))) (hn1 : n1 ≤ 1048576) (hc1 : n1 ≤ c1 ∧ c1 ≤ 1048576) (hU : Cells w A1 n1 (fun i => .int .i64 (u i)))
  : Calls Try.prog 41 #[.agg #[.int .i64 s, .int .i64 l, .slice A n c, .slice B m d, .slice C o q], .slice A1 n1 c1] w fun e w' => e = .returned (.tuple #[.int .i64 (stateV s l n m o f g (rowL u n1)), .bool (stateOk s l n m o f g (rowL u n1))]) ∧ Below w.heap.size w w' := by
  have HT := Lib.hid (fun W h1 h2 h3 => implValidTrees_any s l A B C n c m d o q f g h W hn hm ho h1 h2 h3)
  have HA := Lib.hid hA
  have HB := Lib.hid hB
  have HC := Lib.hid hC
  have HU := Lib.hid hU
  have hmf : ∀ (fn : Fn) (first cap : Array Value) (w : World), (Instr.makeFunc fn first cap).run Try.prog w = .ok (.func fn first cap) w := fun _ _ _ _ => rfl
  have X := Lib.hid (Box5.new w 28 (.int .i64 s) (.int .i64 l) (.slice A n c) (.slice B m d) (.slice C o q))
  cases hv : validT s l n m o f g
  · have HR := Lib.hid (show stateV s l n m o f g (rowL u n1) = 0 ∧ stateOk s l n m o f g (rowL u n1) = false by unfold stateV stateOk; rw [hv]; simp)
    rw [hv] at HT
    clear hA hB hC hU hv
    go_enter Try.func41, Try.ntmps41
    go_wp2_with fail
    refine (HT.out _ (HA.out.below (by repeat (first | with_reducible exact Below.refl _ _ | exact Hid.out (by with_reducible assumption) | refine Below.setCell ?_ (by simp <;> omega) _ | refine below_alloc ?_ _ | refine Below.alloc ?_ (by simp <;> omega) _ | refine Below.drew ?_ | refine below_drewN ?_ _ | exact Below.refl _ _))) (HB.out.below (by repeat (first | with_reducible exact Below.refl _ _ | exact Hid.out (by with_reducible assumption) | refine Below.setCell ?_ (by simp <;> omega) _ | refine below_alloc ?_ _ | refine Below.alloc ?_ (by simp <;> omega) _ | refine Below.drew ?_ | refine below_drewN ?_ _ | exact Below.refl _ _))) (HC.out.below (by repeat (first | with_reducible exact Below.refl _ _ | exact Hid.out (by with_reducible assumption) | refine Below.setCell ?_ (by simp <;> omega) _ | refine below_alloc ?_ _ | refine Below.alloc ?_ (by simp <;> omega) _ | refine Below.drew ?_ | refine below_drewN ?_ _ | exact Below.refl _ _)))).mono ?_
    rintro e w1 ⟨rfl, hb⟩
    have N1 := Lib.hid (show Below w.heap.size w w1 from Below.trans (by repeat (first | with_reducible exact Below.refl _ _ | exact Hid.out (by with_reducible assumption) | refine Below.setCell ?_ (by simp <;> omega) _ | refine below_alloc ?_ _ | refine Below.alloc ?_ (by simp <;> omega) _ | refine Below.drew ?_ | refine below_drewN ?_ _ | exact Below.refl _ _)) (hb.mono (by simp)))
    clear hb
    go_wp2_with fail
    refine bodyPost_ret (v := .tuple #[.int .i64 0, .bool false]) (by simp [results, Try.results41, go_sem]) rfl ?_
    exact ⟨by rw [HR.out.1, HR.out.2], N1.out⟩
  obtain ⟨vt, hs, -⟩ := validT_VT hv
  have hl := vt.hl
  cases ht : trOf l (rowL u n1) with
  | none =>
    have HR := Lib.hid (show stateV s l n m o f g (rowL u n1) = 0 ∧ stateOk s l n m o f g (rowL u n1) = false by unfold stateV stateOk; rw [hv, ht]; simp)
    have HI := Lib.hid (fun W h => nodeOf_any A1 n1 c1 u l W h)
    rw [nodeOfT_in hl, ht, nodeV] at HI
    rw [hv] at HT
    clear hA hB hC hU hv hl hs vt ht
    go_enter Try.func41, Try.ntmps41
    go_wp2_with fail
    refine (HT.out _ (HA.out.below (by repeat (first | with_reducible exact Below.refl _ _ | exact Hid.out (by with_reducible assumption) | refine Below.setCell ?_ (by simp <;> omega) _ | refine below_alloc ?_ _ | refine Below.alloc ?_ (by simp <;> omega) _ | refine Below.drew ?_ | refine below_drewN ?_ _ | exact Below.refl _ _))) (HB.out.below (by repeat (first | with_reducible exact Below.refl _ _ | exact Hid.out (by with_reducible assumption) | refine Below.setCell ?_ (by simp <;> omega) _ | refine below_alloc ?_ _ | refine Below.alloc ?_ (by simp <;> omega) _ | refine Below.drew ?_ | refine below_drewN ?_ _ | exact Below.refl _ _))) (HC.out.below (by repeat (first | with_reducible exact Below.refl _ _ | exact Hid.out (by with_reducible assumption) | refine Below.setCell ?_ (by simp <;> omega) _ | refine below_alloc ?_ _ | refine Below.alloc ?_ (by simp <;> omega) _ | refine Below.drew ?_ | refine below_drewN ?_ _ | exact Below.refl _ _)))).mono ?_
    rintro e w1 ⟨rfl, hb⟩
    have N1 := Lib.hid (show Below w.heap.size w w1 from Below.trans (by repeat (first | with_reducible exact Below.refl _ _ | exact Hid.out (by with_reducible assumption) | refine Below.setCell ?_ (by simp <;> omega) _ | refine below_alloc ?_ _ | refine Below.alloc ?_ (by simp <;> omega) _ | refine Below.drew ?_ | refine below_drewN ?_ _ | exact Below.refl _ _)) (hb.mono (by simp)))
    obtain ⟨x0, x1, x2, x3, x4⟩ := X.out.below hb
    clear hb
    go_wp2_with fail
    refine (HI.out _ (HU.out.below (by repeat (first | with_reducible exact Below.refl _ _ | exact Hid.out (by with_reducible assumption) | refine Below.setCell ?_ (by simp <;> omega) _ | refine below_alloc ?_ _ | refine Below.alloc ?_ (by simp <;> omega) _ | refine Below.drew ?_ | refine below_drewN ?_ _ | exact Below.refl _ _)))).mono ?_
    rintro e w2 ⟨rfl, hb⟩
    have N2 := Lib.hid (stepB N1.out (Nat.le_refl _) hb)
    clear hb
    go_wp2_with fail
    refine bodyPost_ret (v := .tuple #[.int .i64 0, .bool false]) (by simp [results, Try.results41, go_sem]) rfl ?_
    exact ⟨by rw [HR.out.1, HR.out.2], N2.out⟩
  | some t =>
    have HR := Lib.hid (show stateV s l n m o f g (rowL u n1) = (stN s.toNat f g t : Int) ∧ stateOk s l n m o f g (rowL u n1) = true by unfold stateV stateOk; rw [hv, ht]; simp)
    have HI := Lib.hid (fun W h => nodeOf_any A1 n1 c1 u l W h)
    have HF := Lib.hid (fun P W h1 h2 b => foldedS_any P s.toNat l A B C n c m d o q f g vt hn t W (trOf_some.1 ht).2.1 h1 h2 (by rw [← hs]; exact b))
    obtain ⟨tt, tv, et⟩ := trVal_iface t
    rw [nodeOfT_in hl, ht, nodeV, et] at HI
    rw [et] at HF
    rw [hv] at HT
    clear hA hB hC hU hv hl hs vt ht et
    generalize (stN s.toNat f g t : Int) = sv at *
    go_enter Try.func41, Try.ntmps41
    go_wp2_with fail
    refine (HT.out _ (HA.out.below (by repeat (first | with_reducible exact Below.refl _ _ | exact Hid.out (by with_reducible assumption) | refine Below.setCell ?_ (by simp <;> omega) _ | refine below_alloc ?_ _ | refine Below.alloc ?_ (by simp <;> omega) _ | refine Below.drew ?_ | refine below_drewN ?_ _ | exact Below.refl _ _))) (HB.out.below (by repeat (first | with_reducible exact Below.refl _ _ | exact Hid.out (by with_reducible assumption) | refine Below.setCell ?_ (by simp <;> omega) _ | refine below_alloc ?_ _ | refine Below.alloc ?_ (by simp <;> omega) _ | refine Below.drew ?_ | refine below_drewN ?_ _ | exact Below.refl _ _))) (HC.out.below (by repeat (first | with_reducible exact Below.refl _ _ | exact Hid.out (by with_reducible assumption) | refine Below.setCell ?_ (by simp <;> omega) _ | refine below_alloc ?_ _ | refine Below.alloc ?_ (by simp <;> omega) _ | refine Below.drew ?_ | refine below_drewN ?_ _ | exact Below.refl _ _)))).mono ?_
    rintro e w1 ⟨rfl, hb⟩
    have N1 := Lib.hid (show Below w.heap.size w w1 from Below.trans (by repeat (first | with_reducible exact Below.refl _ _ | exact Hid.out (by with_reducible assumption) | refine Below.setCell ?_ (by simp <;> omega) _ | refine below_alloc ?_ _ | refine Below.alloc ?_ (by simp <;> omega) _ | refine Below.drew ?_ | refine below_drewN ?_ _ | exact Below.refl _ _)) (hb.mono (by simp)))
    have X1 := Lib.hid (X.out.below hb)
    obtain ⟨x0, x1, x2, x3, x4⟩ := X1.out
    clear hb
    go_wp2_with fail
    refine (HI.out _ (HU.out.below (by repeat (first | with_reducible exact Below.refl _ _ | exact Hid.out (by with_reducible assumption) | refine Below.setCell ?_ (by simp <;> omega) _ | refine below_alloc ?_ _ | refine Below.alloc ?_ (by simp <;> omega) _ | refine Below.drew ?_ | refine below_drewN ?_ _ | exact Below.refl _ _)))).mono ?_
    rintro e w2 ⟨rfl, hb⟩
    have N2 := Lib.hid (stepB N1.out (Nat.le_refl _) hb)
    have X2 := Lib.hid (X1.out.below hb)
    clear hb
    go_wp2_with fail
    refine (HF.out w.heap.size _ (HA.out.below (by repeat (first | with_reducible exact Below.refl _ _ | exact Hid.out (by with_reducible assumption) | refine Below.setCell ?_ (by simp <;> omega) _ | refine below_alloc ?_ _ | refine Below.alloc ?_ (by simp <;> omega) _ | refine Below.drew ?_ | refine below_drewN ?_ _ | exact Below.refl _ _))) (HB.out.below (by repeat (first | with_reducible exact Below.refl _ _ | exact Hid.out (by with_reducible assumption) | refine Below.setCell ?_ (by simp <;> omega) _ | refine below_alloc ?_ _ | refine Below.alloc ?_ (by simp <;> omega) _ | refine Below.drew ?_ | refine below_drewN ?_ _ | exact Below.refl _ _))) X2.out).mono ?_
    rintro e w3 ⟨rfl, hb⟩
    have N3 := Lib.hid (stepB N2.out (Nat.le_refl _) hb)
    clear hb
    go_wp2_with fail
    refine bodyPost_ret (v := .tuple #[.int .i64 sv, .bool true]) (by simp [results, Try.results41, go_sem]) rfl ?_
    exact ⟨by rw [HR.out.1, HR.out.2], N3.out⟩
end Go.Proofs.Ytgbiablibfbilaa
