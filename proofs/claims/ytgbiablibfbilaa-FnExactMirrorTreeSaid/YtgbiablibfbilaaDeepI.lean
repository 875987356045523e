/- How deep a tree is, on both sides. -/
import Derived.Test.YtgbiablibfbilaaDeepS
import Derived.Test.YtgbiablibfbilaaNodeQ
import Derived.Test.YtgbiablibfbilaaBoxN
import Derived.Deep.RegionHeldLaw
import Derived.Deep.RegionHeld3
set_option linter.unusedVariables false
namespace Go.Proofs.Ytgbiablibfbilaa
open Go.RowKit
def deepO : Option Tr → Int
  | none => 0
  | some t => (t.deep : Int)
theorem nodeOfT4 (L : List Int) : nodeOfT 4 L = trOf 4 L := by unfold nodeOfT; rw [if_pos (by decide)]
theorem treeAt_of {w : World} {A : Option Addr} {n c : Nat} {f : Nat → Int} {t : Tr} (h : Cells w A n (fun i => .int .i64 (f i))) (hc : n ≤ c ∧ c ≤ 1048576) (ht : trOf 4 (rowL f n) = some t) : TreeAt w t A n c := by
  obtain ⟨_, ho, he⟩ := trOf_some.1 ht
  exact ⟨⟨f, h, he⟩, ho, hc⟩
theorem stepB {lo : Nat} {w W W' : World} (h : Below lo w W) (hlo : lo ≤ w.heap.size) (h2 : Below W.heap.size W W') : Below lo w W' := h.trans (h2.mono (Nat.le_trans hlo h.size))
theorem specDeepOfTree_any (A : Option Addr) (n c : Nat) (f : Nat → Int) (w : World) (hn : n ≤ 1048576) (hc : n ≤ c ∧ c ≤ 1048576) (h : Cells w A n (fun i => .int .i64 (f i))) :
    Calls Try.prog 36 #[.slice A n c] w fun e w' => e = .returned (.tuple #[.int .i64 (deepO (nodeOfT 4 (rowL f n))), .bool (nodeOfT 4 (rowL f n)).isSome]) ∧ Below w.heap.size w w' := by
  have HT := Lib.hid (l06IsTree_any A n c f 4 w hn (by omega) h)
  rw [nodeOfT4]
  cases ht : trOf 4 (rowL f n) with
  | none =>
    rw [ht] at HT
    clear ht h
    go_enter Try.func36, Try.ntmps36
    go_wp2_with fail
    refine HT.out.mono ?_
    rintro e w' ⟨rfl, rfl⟩
    go_wp2_with fail
    refine bodyPost_ret (v := .tuple #[.int .i64 0, .bool false]) (by simp [results, Try.results36, go_sem]) rfl ?_
    exact ⟨rfl, (by repeat (first | with_reducible exact Below.refl _ _ | exact Hid.out (by with_reducible assumption) | refine Below.setCell ?_ (by simp <;> omega) _ | refine below_alloc ?_ _ | refine Below.alloc ?_ (by simp <;> omega) _ | refine Below.drew ?_ | refine below_drewN ?_ _ | exact Below.refl _ _))⟩
  | some t =>
    have HD := Lib.hid (l06Deep_any t A n c w (treeAt_of h hc ht))
    rw [ht] at HT
    clear ht h
    go_enter Try.func36, Try.ntmps36
    go_wp2_with fail
    refine HT.out.mono ?_
    rintro e w' ⟨rfl, rfl⟩
    go_wp2_with fail
    refine HD.out.mono ?_
    rintro e w' ⟨rfl, q, rfl⟩
    go_wp2_with fail
    refine bodyPost_ret (v := .tuple #[.int .i64 (t.deep : Int), .bool true]) (by simp [results, Try.results36, go_sem]) rfl ?_
    exact ⟨rfl, (by repeat (first | with_reducible exact Below.refl _ _ | exact Hid.out (by with_reducible assumption) | refine Below.setCell ?_ (by simp <;> omega) _ | refine below_alloc ?_ _ | refine Below.alloc ?_ (by simp <;> omega) _ | refine Below.drew ?_ | refine below_drewN ?_ _ | exact Below.refl _ _))⟩
theorem infoLeaf : (Try.prog.info? 72).map (fun i => i.zero) = some (some (.int .i64 0)) := by kernel_rfl
theorem run_isLeaf (v : Value) (xT : TypeId) (w : World) : (Instr.typeAssert (.iface 72 v) xT 72 true).run Try.prog w = .ok (.tuple #[v, .bool true]) w := by
  simp [Instr.typeAssert, run_underlying Try.underlying72]
theorem run_noLeaf (v : Value) (xT : TypeId) (w : World) : (Instr.typeAssert (.iface 75 v) xT 72 true).run Try.prog w = .ok (.tuple #[.int .i64 0, .bool false]) w := by
  obtain ⟨i, hi, hz⟩ := Option.map_eq_some_iff.1 infoLeaf
  simp [Instr.typeAssert, run_underlying Try.underlying72, zeroValue, typeInfo, hi, hz]
theorem run_isBranch (v : Value) (xT : TypeId) (w : World) : (Instr.typeAssert (.iface 75 v) xT 75 true).run Try.prog w = .ok (.tuple #[v, .bool true]) w := by
  simp [Instr.typeAssert, run_underlying Try.underlying75]
theorem deep1_any (x : Int) (w : World) : Calls Try.prog 71 #[.int .i64 x] w fun e w' => e = .returned (.int .i64 0) ∧ w = w' := by
  go_enter Try.func71, Try.ntmps71
  go_wp2_with fail
  go_ret
  exact ⟨rfl, rfl⟩
theorem deep2_any (x y : Nat) (hx : x ≤ 1048576) (hy : y ≤ 1048576) (w : World) : Calls Try.prog 72 #[.int .i64 (x : Int), .int .i64 (y : Int)] w fun e w' => e = .returned (.int .i64 ((1 + max x y : Nat) : Int)) ∧ w = w' := by
  by_cases h : x ≤ y
  · have h1 : (x : Int) ≤ y := by omega
    have hm : max (x : Int) (y : Int) = y := by omega
    have hw : IntKind.i64.wrap (1 + (y : Int)) = 1 + (y : Int) := by rw [IntKind.wrap_i64]; omega
    go_enter Try.func72, Try.ntmps72
    go_wp2_with fail
    all_goals (
      go_ret
      exact ⟨ret_int (by omega), rfl⟩)
  · have h1 : (y : Int) ≤ x := by omega
    have hm : max (x : Int) (y : Int) = x := by omega
    have hw : IntKind.i64.wrap (1 + (x : Int)) = 1 + (x : Int) := by rw [IntKind.wrap_i64]; omega
    go_enter Try.func72, Try.ntmps72
    go_wp2_with fail
    all_goals (
      go_ret
      exact ⟨ret_int (by omega), rfl⟩)
set_option maxRecDepth 20000 in
set_option maxHeartbeats 2000000 in
theorem foldedD_any : ∀ (t : Tr) (w : World), t.enc.length ≤ 1048576 →
    Calls Try.prog 73 #[trVal t, .func (.func 71) #[] #[], .func (.func 72) #[] #[]] w fun e w' => e = .returned (.int .i64 (t.deep : Int)) ∧ Below w.heap.size w w' := by
  intro t
  induction t with
  | leaf x =>
    intro w _
    have H1 := Lib.hid (fun W => deep1_any x W)
    have HT := Lib.hid (show ((Tr.leaf x).deep : Int) = 0 from rfl)
    have ht1 := run_isLeaf (.int .i64 x)
    rw [trVal]
    go_enter Try.func73, Try.ntmps73
    go_wp2_with fail
    refine (H1.out _).mono ?_
    rintro e w' ⟨rfl, rfl⟩
    go_wp2_with fail
    go_ret
    exact ⟨by rw [HT.out]; rfl, (by repeat (first | with_reducible exact Below.refl _ _ | exact Hid.out (by with_reducible assumption) | refine Below.setCell ?_ (by simp <;> omega) _ | refine below_alloc ?_ _ | refine Below.alloc ?_ (by simp <;> omega) _ | refine Below.drew ?_ | refine below_drewN ?_ _ | exact Below.refl _ _))⟩
  | br a b iha ihb =>
    intro w hl
    have IA := Lib.hid (fun W => iha W (by simp [Tr.enc] at hl; omega))
    have IB := Lib.hid (fun W => ihb W (by simp [Tr.enc] at hl; omega))
    have H2 := Lib.hid (fun W => deep2_any a.deep b.deep (by have := a.deep_le; simp [Tr.enc] at hl; omega) (by have := b.deep_le; simp [Tr.enc] at hl; omega) W)
    have HT := Lib.hid (show ((Tr.br a b).deep : Int) = ((1 + max a.deep b.deep : Nat) : Int) from rfl)
    obtain ⟨ta, va, ea⟩ := trVal_iface a
    obtain ⟨tb, vb, eb⟩ := trVal_iface b
    rw [ea] at IA
    rw [eb] at IB
    have ht1 := run_noLeaf (.agg #[.iface ta va, .iface tb vb])
    have ht2 := run_isBranch (.agg #[.iface ta va, .iface tb vb])
    rw [trVal, ea, eb]
    clear iha ihb ea eb hl
    generalize 1 + max a.deep b.deep = m at *
    generalize a.deep = da at *
    generalize b.deep = db at *
    generalize (Tr.br a b).deep = dd at *
    go_enter Try.func73, Try.ntmps73
    go_wp2_with fail
    have HKeep := Lib.hid (show ∀ W, Below (w.heap.size + 1) (w.alloc (.cells #[.iface ta va, .iface tb vb] 75)) W → (W.cell? ⟨w.heap.size, 0, none⟩ = some (.iface ta va) ∧ W.cell? ⟨w.heap.size, 1, none⟩ = some (.iface tb vb)) from fun W hW => by
      have X := (Box2.new w 75 (.iface ta va) (.iface tb vb)).below (by simpa using hW)
      exact ⟨X.c0, X.c1⟩)
    go_region_held3 (fun W => W.cell? ⟨w.heap.size, 0, none⟩ = some (.iface ta va) ∧ W.cell? ⟨w.heap.size, 1, none⟩ = some (.iface tb vb))
      (exact HKeep.out _ (by repeat (first | with_reducible exact Below.refl _ _ | exact Hid.out (by with_reducible assumption) | refine Below.setCell ?_ (by simp <;> omega) _ | refine below_alloc ?_ _ | refine Below.alloc ?_ (by simp <;> omega) _ | refine Below.drew ?_ | refine below_drewN ?_ _ | exact Below.refl _ _)))
      (first
        | (go_at_call_of 73 (Value.iface ta va)
           refine (IA.out _).mono ?_
           rintro e ua ⟨rfl, hb⟩
           have PA := Lib.hid (stepB (w := w.alloc (.cells #[.iface ta va, .iface tb vb] 75)) (lo := w.heap.size + 1) (by repeat (first | with_reducible exact Below.refl _ _ | exact Hid.out (by with_reducible assumption) | refine Below.setCell ?_ (by simp <;> omega) _ | refine below_alloc ?_ _ | refine Below.alloc ?_ (by simp <;> omega) _ | refine Below.drew ?_ | refine below_drewN ?_ _ | exact Below.refl _ _)) (by simp) hb)
           clear hb)
        | (go_at_call_of 73 (Value.iface tb vb)
           refine (IB.out _).mono ?_
           rintro e ub ⟨rfl, hb⟩
           have PB := Lib.hid (stepB (w := w.alloc (.cells #[.iface ta va, .iface tb vb] 75)) (lo := w.heap.size + 1) (by repeat (first | with_reducible exact Below.refl _ _ | exact Hid.out (by with_reducible assumption) | refine Below.setCell ?_ (by simp <;> omega) _ | refine below_alloc ?_ _ | refine Below.alloc ?_ (by simp <;> omega) _ | refine Below.drew ?_ | refine below_drewN ?_ _ | exact Below.refl _ _)) (by simp) hb)
           clear hb)
        | (go_at_call 72
           refine (H2.out _).mono ?_
           rintro e uc ⟨rfl, hw⟩
           obtain rfl := hw.symm
           clear hw))
    all_goals (
      go_wp2_with fail
      go_ret
      exact ⟨ret_int HT.out.symm, Below.trans ((Below.refl _ _).alloc (Nat.le_refl _) _) ((show Below (w.heap.size + 1) _ _ from (by repeat (first | with_reducible exact Below.refl _ _ | exact Hid.out (by with_reducible assumption) | refine Below.setCell ?_ (by simp <;> omega) _ | refine below_alloc ?_ _ | refine Below.alloc ?_ (by simp <;> omega) _ | refine Below.drew ?_ | refine below_drewN ?_ _ | exact Below.refl _ _))).mono (by omega))⟩)
theorem implDeepOfTree_any (A : Option Addr) (n c : Nat) (f : Nat → Int) (w : World) (hn : n ≤ 1048576) (hc : n ≤ c ∧ c ≤ 1048576) (h : Cells w A n (fun i => .int .i64 (f i))) :
    Calls Try.prog 37 #[.slice A n c] w fun e w' => e = .returned (.tuple #[.int .i64 (deepO (nodeOfT 4 (rowL f n))), .bool (nodeOfT 4 (rowL f n)).isSome]) ∧ Below w.heap.size w w' := by
  have HN := Lib.hid (nodeOf_any A n c f 4 w h)
  clear h
  cases ht : nodeOfT 4 (rowL f n) with
  | none =>
    rw [ht] at HN
    clear ht
    go_enter Try.func37, Try.ntmps37
    go_wp2_with fail
    refine HN.out.mono ?_
    rintro e w1 ⟨rfl, hb⟩
    have N1 := Lib.hid hb
    clear hb
    rw [nodeV]
    go_wp2_with fail
    refine bodyPost_ret (v := .tuple #[.int .i64 0, .bool false]) (by simp [results, Try.results37, go_sem]) rfl ?_
    exact ⟨rfl, N1.out⟩
  | some t =>
    have HF := Lib.hid (fun W => foldedD_any t W (by
      rw [nodeOfT4] at ht
      obtain ⟨h1, _, h3⟩ := trOf_some.1 ht
      rw [← h3]
      omega))
    rw [ht] at HN
    clear ht
    obtain ⟨tt, tv, et⟩ := trVal_iface t
    rw [nodeV, et] at HN
    rw [et] at HF
    clear et
    have HD := Lib.hid (show deepO (some t) = (t.deep : Int) from rfl)
    generalize deepO (some t) = d at *
    generalize (t.deep : Int) = d2 at *
    go_enter Try.func37, Try.ntmps37
    go_wp2_with fail
    refine HN.out.mono ?_
    rintro e w1 ⟨rfl, hb⟩
    have N1 := Lib.hid hb
    clear hb
    go_wp2_with fail
    refine (HF.out _).mono ?_
    rintro e w2 ⟨rfl, hb⟩
    have N2 := Lib.hid (stepB N1.out (Nat.le_refl _) hb)
    clear hb
    go_wp2_with fail
    refine bodyPost_ret (v := .tuple #[.int .i64 d2, .bool true]) (by simp [results, Try.results37, go_sem]) rfl ?_
    exact ⟨by rw [HD.out]; rfl, N2.out⟩
end Go.Proofs.Ytgbiablibfbilaa
