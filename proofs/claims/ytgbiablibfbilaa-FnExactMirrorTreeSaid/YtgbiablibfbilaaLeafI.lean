/- The leaves of a tree: the program's. -/
import Derived.Test.YtgbiablibfbilaaLeafS
set_option linter.unusedVariables false
namespace Go.Proofs.Ytgbiablibfbilaa
open Go.RowKit
/-- A row of its own with a list. -/
def OwnL (w w' : World) (L : List Int) (e : Ending) : Prop := ∃ g cp, e = .returned (.slice (some ⟨g, 0, none⟩) L.length cp) ∧ w'.ownsRow w.heap.size 2 1 (.slice (some ⟨g, 0, none⟩) L.length cp) L.length (valsI L) ∧ Below w.heap.size w w'
set_option maxRecDepth 20000 in
set_option maxHeartbeats 2000000 in
theorem foldedL_any : ∀ (t : Tr) (w : World), t.enc.length ≤ 1048576 →
    Calls Try.prog 92 #[trVal t, .func (.func 90) #[] #[], .func (.func 91) #[] #[]] w fun e w' => OwnL w w' t.leaves e := by
  intro t
  induction t with
  | leaf x =>
    intro w _
    have H1 := Lib.hid (fun W => leaves1_any x W)
    have ht1 := run_isLeaf (.int .i64 x)
    rw [trVal]
    go_enter Try.func92, Try.ntmps92
    go_wp2_with fail
    refine (H1.out _).mono ?_
    rintro e w' ⟨rfl, rfl⟩
    go_wp2_with fail
    go_ret
    exact ⟨_, _, rfl, World.ownsRow_lit w #[.int .i64 x] 1 (Nat.le_refl _) (by unfold maxLen; omega) rfl, (Below.refl _ _).alloc (Nat.le_refl _) _⟩
  | br a b iha ihb =>
    intro w hl
    have IA := Lib.hid (fun W => iha W (by simp [Tr.enc] at hl; omega))
    have IB := Lib.hid (fun W => ihb W (by simp [Tr.enc] at hl; omega))
    have H2 := Lib.hid (fun base g1 c1 g2 c2 W h1 h2 h3 => leaves2_any base g1 a.leaves.length c1 g2 b.leaves.length c2 a.leaves b.leaves W h1 h2 h3 (by have := a.leaves_le; have := b.leaves_le; simp [Tr.enc] at hl; omega) a.leaves_pos)
    have HT := Lib.hid (show (Tr.br a b).leaves = a.leaves ++ b.leaves from rfl)
    have HTl := Lib.hid (show (Tr.br a b).leaves.length = a.leaves.length + b.leaves.length by rw [HT.out, List.length_append])
    obtain ⟨ta, va, ea⟩ := trVal_iface a
    obtain ⟨tb, vb, eb⟩ := trVal_iface b
    rw [ea] at IA
    rw [eb] at IB
    have ht1 := run_noLeaf (.agg #[.iface ta va, .iface tb vb])
    have ht2 := run_isBranch (.agg #[.iface ta va, .iface tb vb])
    rw [trVal, ea, eb]
    clear iha ihb ea eb hl
    generalize (Tr.br a b).leaves = L at *
    generalize a.leaves = La at *
    generalize b.leaves = Lb at *
    go_enter Try.func92, Try.ntmps92
    go_wp2_with fail
    obtain ⟨w1, hw1⟩ : ∃ W, W = w.alloc (.cells #[.iface ta va, .iface tb vb] 75) := ⟨_, rfl⟩
    rw [← hw1]
    have BX := Lib.hid (show Box2 w1 w.heap.size (.iface ta va) (.iface tb vb) by rw [hw1]; exact Box2.new w 75 (.iface ta va) (.iface tb vb))
    have NW := Lib.hid (show Below w.heap.size w w1 by rw [hw1]; exact (Below.refl _ _).alloc (Nat.le_refl _) _)
    clear hw1
    have HKeep := Lib.hid (show ∀ W, Below w1.heap.size w1 W → (W.cell? ⟨w.heap.size, 0, none⟩ = some (.iface ta va) ∧ W.cell? ⟨w.heap.size, 1, none⟩ = some (.iface tb vb)) from fun W hW => by
      have X := BX.out.below hW
      exact ⟨X.c0, X.c1⟩)
    go_region_held3 (fun W => W.cell? ⟨w.heap.size, 0, none⟩ = some (.iface ta va) ∧ W.cell? ⟨w.heap.size, 1, none⟩ = some (.iface tb vb))
      (exact HKeep.out _ (by repeat (first | with_reducible exact Below.refl _ _ | exact Hid.out (by with_reducible assumption) | refine Below.setCell ?_ (by simp <;> omega) _ | refine below_alloc ?_ _ | refine Below.alloc ?_ (by simp <;> omega) _ | refine Below.drew ?_ | refine below_drewN ?_ _ | exact Below.refl _ _)))
      (first
        | (go_at_call_of 92 (Value.iface ta va)
           refine (IA.out _).mono ?_
           rintro e ua ⟨ga, ca, rfl, hoa, hb⟩
           have PA := Lib.hid (stepB (w := w1) (lo := w1.heap.size) (by repeat (first | with_reducible exact Below.refl _ _ | exact Hid.out (by with_reducible assumption) | refine Below.setCell ?_ (by simp <;> omega) _ | refine below_alloc ?_ _ | refine Below.alloc ?_ (by simp <;> omega) _ | refine Below.drew ?_ | refine below_drewN ?_ _ | exact Below.refl _ _)) (Nat.le_refl _) hb)
           have OA := Lib.hid (own_base (b := w1.heap.size) hoa (Below.size (B := w1.heap.size) (by repeat (first | with_reducible exact Below.refl _ _ | exact Hid.out (by with_reducible assumption) | refine Below.setCell ?_ (by simp <;> omega) _ | refine below_alloc ?_ _ | refine Below.alloc ?_ (by simp <;> omega) _ | refine Below.drew ?_ | refine below_drewN ?_ _ | exact Below.refl _ _))))
           have RA := Lib.hid hb
           clear hb hoa)
        | (go_at_call_of 92 (Value.iface tb vb)
           refine (IB.out _).mono ?_
           rintro e ub ⟨gb, cb, rfl, hob, hb⟩
           have PB := Lib.hid (stepB (w := w1) (lo := w1.heap.size) (by repeat (first | with_reducible exact Below.refl _ _ | exact Hid.out (by with_reducible assumption) | refine Below.setCell ?_ (by simp <;> omega) _ | refine below_alloc ?_ _ | refine Below.alloc ?_ (by simp <;> omega) _ | refine Below.drew ?_ | refine below_drewN ?_ _ | exact Below.refl _ _)) (Nat.le_refl _) hb)
           have OB := Lib.hid (own_base (b := w1.heap.size) hob (Below.size (B := w1.heap.size) (by repeat (first | with_reducible exact Below.refl _ _ | exact Hid.out (by with_reducible assumption) | refine Below.setCell ?_ (by simp <;> omega) _ | refine below_alloc ?_ _ | refine Below.alloc ?_ (by simp <;> omega) _ | refine Below.drew ?_ | refine below_drewN ?_ _ | exact Below.refl _ _))))
           have RB := Lib.hid hb
           clear hb hob)
        | (go_at_call 91
           refine (H2.out w1.heap.size _ _ _ _ _ (own_belowR OA.out (by repeat (first | with_reducible exact Below.refl _ _ | exact Hid.out (by with_reducible assumption) | refine Below.setCell ?_ (by simp <;> omega) _ | refine below_alloc ?_ _ | refine Below.alloc ?_ (by simp <;> omega) _ | refine Below.drew ?_ | refine below_drewN ?_ _ | exact Below.refl _ _))) (own_belowR OB.out (by repeat (first | with_reducible exact Below.refl _ _ | exact Hid.out (by with_reducible assumption) | refine Below.setCell ?_ (by simp <;> omega) _ | refine below_alloc ?_ _ | refine Below.alloc ?_ (by simp <;> omega) _ | refine Below.drew ?_ | refine below_drewN ?_ _ | exact Below.refl _ _))) (by first | exact PB.out.size | exact PA.out.size)).mono ?_
           rintro e uc ⟨gc, cc, rfl, hoc, hb⟩
           have PC := Lib.hid (Below.trans (B := w1.heap.size) (a := w1) (by repeat (first | with_reducible exact Below.refl _ _ | exact Hid.out (by with_reducible assumption) | refine Below.setCell ?_ (by simp <;> omega) _ | refine below_alloc ?_ _ | refine Below.alloc ?_ (by simp <;> omega) _ | refine Below.drew ?_ | refine below_drewN ?_ _ | exact Below.refl _ _)) hb)
           have OC := Lib.hid hoc
           clear hb hoc))
    all_goals (
      go_wp2_with fail
      go_ret
      exact ⟨_, _, by rw [HTl.out]; rfl, by rw [HTl.out, HT.out]; exact own_base OC.out NW.out.size, NW.out.trans ((show Below w1.heap.size w1 _ from (by repeat (first | with_reducible exact Below.refl _ _ | exact Hid.out (by with_reducible assumption) | refine Below.setCell ?_ (by simp <;> omega) _ | refine below_alloc ?_ _ | refine Below.alloc ?_ (by simp <;> omega) _ | refine Below.drew ?_ | refine below_drewN ?_ _ | exact Below.refl _ _))).mono NW.out.size)⟩)
theorem leavesOf_any (t : Tr) (w : World) (h : t.enc.length ≤ 1048576) : Calls Try.prog 69 #[trVal t] w fun e w' => OwnL w w' t.leaves e := by
  have H := Lib.hid (fun W => foldedL_any t W h)
  obtain ⟨tt, tv, et⟩ := trVal_iface t
  rw [et] at H
  rw [et]
  clear et
  generalize t.leaves = L at *
  go_enter Try.func69, Try.ntmps69
  go_wp2_with fail
  refine (H.out _).mono ?_
  rintro e w1 ⟨g, c, rfl, ho, hb⟩
  have N1 := Lib.hid hb
  have O1 := Lib.hid ho
  clear hb ho
  go_wp2_with fail
  go_ret
  exact ⟨_, _, rfl, O1.out, N1.out⟩
theorem implLeavesOfTree_any (A : Option Addr) (n c : Nat) (f : Nat → Int) (w : World) (hn : n ≤ 1048576) (hc : n ≤ c ∧ c ≤ 1048576) (h : Cells w A n (fun i => .int .i64 (f i))) :
    Calls Try.prog 33 #[.slice A n c] w fun e w' => IRes w w' e (leafOk f n) (leafN f n) (leafF f n) := by
  have HN := Lib.hid (nodeOf_any A n c f 4 w h)
  unfold leafOk leafN leafF
  clear h
  cases ht : nodeOfT 4 (rowL f n) with
  | none =>
    rw [ht, nodeV] at HN
    clear ht
    go_enter Try.func33, Try.ntmps33
    go_wp2_with fail
    refine HN.out.mono ?_
    rintro e w1 ⟨rfl, hb⟩
    have N1 := Lib.hid hb
    clear hb
    go_wp2_with fail
    refine bodyPost_ret (v := .tuple #[.slice none 0 0, .bool false]) (by simp [results, Try.results33, go_sem]) rfl ?_
    exact IRes.none_ (n := 0) rfl N1.out
  | some t =>
    have HF := Lib.hid (fun W => leavesOf_any t W (by
      rw [nodeOfT4] at ht
      obtain ⟨h1, _, h3⟩ := trOf_some.1 ht
      rw [← h3]
      omega))
    rw [ht] at HN
    clear ht
    simp only [leavesO, Option.isSome_some]
    obtain ⟨tt, tv, et⟩ := trVal_iface t
    rw [nodeV, et] at HN
    rw [et] at HF
    clear et
    generalize t.leaves = L at *
    go_enter Try.func33, Try.ntmps33
    go_wp2_with fail
    refine HN.out.mono ?_
    rintro e w1 ⟨rfl, hb⟩
    have N1 := Lib.hid hb
    clear hb
    go_wp2_with fail
    refine (HF.out _).mono ?_
    rintro e w2 ⟨g, cp, rfl, ho, hb⟩
    have N2 := Lib.hid (stepB N1.out (Nat.le_refl _) hb)
    obtain ⟨A1, c1, e1, hr⟩ := IRes.row (own_base ho N1.out.size) rfl N2.out
    cases e1
    have HR := Lib.hid hr
    clear hb ho hr
    go_wp2_with fail
    refine bodyPost_ret (v := .tuple #[.slice (some ⟨g, 0, none⟩) L.length cp, .bool true]) (by simp [results, Try.results33, go_sem]) rfl ?_
    exact HR.out
end Go.Proofs.Ytgbiablibfbilaa
