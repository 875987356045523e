/- The mirrored tree: the reference's. -/
import Derived.Test.YtgbiablibfbilaaLeafI
set_option linter.unusedVariables false
namespace Go.Proofs.Ytgbiablibfbilaa
open Go.RowKit
theorem Tr.mirror_len : ∀ t : Tr, t.mirror.enc.length = t.enc.length
  | .leaf _ => rfl
  | .br a b => by
    have h1 := Tr.mirror_len a
    have h2 := Tr.mirror_len b
    simp only [Tr.mirror, Tr.enc, List.length_cons, List.length_append]
    omega
def mirO : Option Tr → List Int
  | none => []
  | some t => t.mirror.enc
def mirN (f : Nat → Int) (n : Nat) : Nat := (mirO (nodeOfT 4 (rowL f n))).length
def mirF (f : Nat → Int) (n : Nat) (i : Nat) : Int := (mirO (nodeOfT 4 (rowL f n))).getD i 0
theorem mirN_le (f : Nat → Int) (n : Nat) : mirN f n ≤ 1048576 := by
  unfold mirN
  rw [nodeOfT4]
  cases h : trOf 4 (rowL f n) with
  | none => simp [mirO]
  | some t =>
    obtain ⟨h1, _, h3⟩ := trOf_some.1 h
    have := t.mirror_len
    rw [h3] at h1
    simp only [mirO]
    omega
/-- The cells of a row with a list. -/
theorem cells_ofL {w : World} {base g m c : Nat} {L : List Int} (h : w.ownsRow base 2 1 (.slice (some ⟨g, 0, none⟩) m c) m (valsI L)) : Cells w (some ⟨g, 0, none⟩) (m * 1) (fun i => (valsI L).getD i undef) := by
  obtain ⟨A2, c2, g2, e2, -, ho2⟩ := OwnC.of_rowV h
  cases e2
  exact ho2.cells
theorem oneL {L : List Int} {m : Nat} (h : m = L.length) (j : Nat) (hj : j < m * 1) : ((valsI L).getD j undef).oneCell' = true := by
  subst h
  have : j < L.length := by omega
  simp [valsI, this, Value.oneCell']
theorem vals_cat (X L : List Int) : valsI X ++ listV (L.length * 1) (fun i => (valsI L).getD i undef) = valsI (X ++ L) := by
  rw [Nat.mul_one, listV_vals L L.length rfl]
  simp [valsI]
set_option maxRecDepth 20000 in
set_option maxHeartbeats 2000000 in
theorem l06Mirror_any : ∀ (t : Tr) (A : Option Addr) (n c : Nat) (w : World), TreeAt w t A n c →
    Calls Try.prog 74 #[.slice A n c] w fun e w' => OwnL w w' t.mirror.enc e := by
  obtain ⟨ii, hii, hzi, hsi, hbi⟩ := info_parts infoI
  intro t
  induction t with
  | leaf y =>
    intro A n c w h
    obtain ⟨⟨f, hc, hr⟩, ho, hp⟩ := h
    have hy := Tr.leaf_ok ho
    have hn : n = 1 := by have := congrArg List.length hr; rw [rowL_len] at this; simpa [Tr.enc] using this
    subst hn
    have hf : f 0 = y := by simpa [rowL, Tr.enc] using hr
    have HC := Lib.hid (show Cells w A 1 (fun _ => .int .i64 y) from fun k hk => by
      have : k = 0 := by omega
      subst this
      rw [← hf]
      exact hc 0 hk)
    obtain ⟨x, rfl, hx0⟩ := hc 0 (by omega)
    have hx : w.cell? (x.add 0) = some (.int .i64 y) := by rw [← hf]; exact hx0
    have hx : w.cell? x = some (.int .i64 y) := by rw [← addrZero x]; exact hx
    have h0 : (0 : Int) ≤ y := hy.1
    clear hc hr hx0 hf hp ho hy
    go_enter Try.func74, Try.ntmps74
    go_wp2_with (first
      | (at_builtin
         refine wpList_append_cells _ rfl _ _ 22 rfl w.heap.size 2 ii (.int .i64 0) 1 8 Try.underlying22 hii hzi hsi hbi rfl (by decide) (.slice (some ⟨w.heap.size, 0, none⟩) 0 0) 0 [] rfl (World.ownsRow_lit w #[] 0 (Nat.le_refl _) (by unfold maxLen; omega) rfl)
           (some x) 1 c (fun _ => .int .i64 y) rfl (HC.out.below (by repeat (first | with_reducible exact Below.refl _ _ | exact Hid.out (by with_reducible assumption) | refine Below.setCell ?_ (by simp <;> omega) _ | refine below_alloc ?_ _ | refine Below.alloc ?_ (by simp <;> omega) _ | refine Below.drew ?_ | refine below_drewN ?_ _ | exact Below.refl _ _))) (fun _ _ => rfl) (by unfold maxLen; omega) (by omega) (by simp) ?_
         intro v1 w2 hown hgrow hwhere
         have hown' : w2.ownsRow w.heap.size 2 1 v1 (0 + 1) (valsI [y]) := by simpa [valsI, listV] using hown
         obtain ⟨g', cp', rfl⟩ := ownsRow_succ hown'
         have HB2 := Lib.hid (show Below w.heap.size w w2 from Below.grown ((Below.refl _ w).alloc (Nat.le_refl _) _) hgrow (by simp) (fun j hj => by cases hj; exact Nat.le_refl _))
         have HO2 := Lib.hid hown'
         clear hown hgrow hwhere hown')
      | go_in)
    go_ret
    exact ⟨g', cp', rfl, HO2.out, HB2.out⟩
  | br a b iha ihb =>
    intro A n c w h
    have IA := Lib.hid iha
    have IB := Lib.hid ihb
    have HP := Lib.hid (fun W h => l06Parts_any a b A n c W h)
    have H := Lib.hid h
    obtain ⟨⟨f, hc, hr⟩, ho, hp⟩ := h
    have hn : 0 < n := by have := congrArg List.length hr; rw [rowL_len] at this; simp [Tr.enc] at this; omega
    have HL := Lib.hid (show a.mirror.enc.length + b.mirror.enc.length + 1 ≤ 1048576 by
      have := congrArg List.length hr
      rw [rowL_len] at this
      simp [Tr.enc] at this
      rw [a.mirror_len, b.mirror_len]
      omega)
    have hf : f 0 = -1 := by
      have := congrArg (fun l : List Int => l.getD 0 0) hr
      rw [rowL_getD f hn] at this
      simpa [Tr.enc] using this
    obtain ⟨x, rfl, hx0⟩ := hc 0 hn
    have hx : w.cell? (x.add 0) = some (.int .i64 (-1)) := by rw [← hf]; exact hx0
    have hx : w.cell? x = some (.int .i64 (-1)) := by rw [← addrZero x]; exact hx
    have HT := Lib.hid (show (Tr.br a b).mirror.enc = [-1] ++ b.mirror.enc ++ a.mirror.enc from rfl)
    have HTl := Lib.hid (show (Tr.br a b).mirror.enc.length = 1 + b.mirror.enc.length + a.mirror.enc.length by rw [HT.out]; simp; omega)
    have PB := Lib.hid b.mirror.enc_pos
    clear iha ihb hc hr hx0 hf hp ho
    generalize (Tr.br a b).mirror.enc = L at *
    generalize a.mirror.enc = La at *
    generalize b.mirror.enc = Lb at *
    go_enter Try.func74, Try.ntmps74
    go_wp2_with fail
    refine (HP.out _ H.out).mono ?_
    rintro e w1 ⟨A1, n1, c1, A2, n2, c2, rfl, ta, tb, q, rfl⟩
    obtain ⟨w1, hw1⟩ : ∃ W, W = w.drewN q := ⟨_, rfl⟩
    have N0 := Lib.hid (show Below w.heap.size w w1 by rw [hw1]; exact (by repeat (first | with_reducible exact Below.refl _ _ | exact Hid.out (by with_reducible assumption) | refine Below.setCell ?_ (by simp <;> omega) _ | refine below_alloc ?_ _ | refine Below.alloc ?_ (by simp <;> omega) _ | refine Below.drew ?_ | refine below_drewN ?_ _ | exact Below.refl _ _)))
    have TA := Lib.hid (show TreeAt w1 a A1 n1 c1 by rw [hw1]; exact ta.drewN q)
    have TB := Lib.hid (show TreeAt w1 b A2 n2 c2 by rw [hw1]; exact tb.drewN q)
    rw [← hw1]
    clear ta tb hw1
    go_wp2_with fail
    refine (IB.out _ _ _ _ (TB.out.below (by repeat (first | with_reducible exact Below.refl _ _ | exact Hid.out (by with_reducible assumption) | refine Below.setCell ?_ (by simp <;> omega) _ | refine below_alloc ?_ _ | refine Below.alloc ?_ (by simp <;> omega) _ | refine Below.drew ?_ | refine below_drewN ?_ _ | exact Below.refl _ _)))).mono ?_
    rintro e w2 ⟨gb, cb, rfl, hob, hb⟩
    have N2 := Lib.hid (show Below w1.heap.size w1 w2 from Below.trans ((Below.refl _ _).alloc (Nat.le_refl _) _) (hb.mono (by simp)))
    have LIT := Lib.hid (show w2.ownsRow w1.heap.size 2 1 (.slice (some ⟨w1.heap.size, 0, none⟩) 1 1) 1 (valsI [-1]) from own_belowR (World.ownsRow_lit w1 #[.int .i64 (-1)] 1 (Nat.le_refl _) (by unfold maxLen; omega) rfl) hb)
    have CB := Lib.hid (cells_ofL hob)
    clear hob hb
    go_wp2_with (first
      | (at_builtin
         refine wpList_append_cells _ rfl _ _ 22 rfl w1.heap.size 2 ii (.int .i64 0) 1 8 Try.underlying22 hii hzi hsi hbi rfl (by decide) (.slice (some ⟨w1.heap.size, 0, none⟩) 1 1) 1 (valsI [-1]) rfl LIT.out
           (some ⟨gb, 0, none⟩) Lb.length cb _ rfl CB.out (oneL rfl) (by unfold maxLen; have := HL.out; omega) (by have := HL.out; omega) N2.out.size ?_
         intro v1 w3 hown hgrow hwhere
         have hown' : w3.ownsRow w1.heap.size 2 1 v1 (1 + Lb.length) (valsI ([-1] ++ Lb)) := by rw [← vals_cat]; exact hown
         obtain ⟨g3, cp3, rfl⟩ := ownsRow_succ (k := Lb.length) (by rw [Nat.add_comm] at hown'; exact hown')
         have N3 := Lib.hid (show Below w1.heap.size w1 w3 from Below.grown N2.out hgrow N2.out.size (fun j hj => by cases hj; exact Nat.le_refl _))
         have O3 := Lib.hid hown'
         clear hown hgrow hwhere hown')
      | fail)
    refine (IA.out _ _ _ _ (TA.out.below (by repeat (first | with_reducible exact Below.refl _ _ | exact Hid.out (by with_reducible assumption) | refine Below.setCell ?_ (by simp <;> omega) _ | refine below_alloc ?_ _ | refine Below.alloc ?_ (by simp <;> omega) _ | refine Below.drew ?_ | refine below_drewN ?_ _ | exact Below.refl _ _)))).mono ?_
    rintro e w4 ⟨ga, ca, rfl, hoa, hb⟩
    have N4 := Lib.hid (stepB N3.out (Nat.le_refl _) hb)
    have O4 := Lib.hid (own_belowR O3.out hb)
    have CA := Lib.hid (cells_ofL hoa)
    clear hoa hb
    go_wp2_with (first
      | (at_builtin
         refine wpList_append_cells _ rfl _ _ 22 rfl w1.heap.size 2 ii (.int .i64 0) 1 8 Try.underlying22 hii hzi hsi hbi rfl (by decide) (.slice (some ⟨g3, 0, none⟩) (Lb.length + 1) cp3) (1 + Lb.length) (valsI ([-1] ++ Lb)) rfl O4.out
           (some ⟨ga, 0, none⟩) La.length ca _ rfl CA.out (oneL rfl) (by unfold maxLen; have := HL.out; omega) (by have := HL.out; omega) N4.out.size ?_
         intro v5 w5 hown hgrow hwhere
         have hown' : w5.ownsRow w1.heap.size 2 1 v5 (1 + Lb.length + La.length) (valsI ([-1] ++ Lb ++ La)) := by rw [← vals_cat]; exact hown
         obtain ⟨g5, cp5, rfl⟩ := ownsRow_succ (k := Lb.length + La.length) (by rw [show Lb.length + La.length + 1 = 1 + Lb.length + La.length by omega]; exact hown')
         have N5 := Lib.hid (show Below w1.heap.size w1 w5 from Below.grown N4.out hgrow N4.out.size (fun j hj => (O4.out.lt j hj).1))
         have O5 := Lib.hid hown'
         clear hown hgrow hwhere hown')
      | go_in)
    go_ret
    exact ⟨g5, cp5, by rw [HTl.out]; simp; omega, by
      rw [HTl.out, HT.out]
      have := own_base O5.out N0.out.size
      rw [show Lb.length + La.length + 1 = 1 + Lb.length + La.length by omega] at this
      exact this, N0.out.trans (N5.out.mono N0.out.size)⟩
theorem specMirrorTree_any (A : Option Addr) (n c : Nat) (f : Nat → Int) (w : World) (hn : n ≤ 1048576) (hc : n ≤ c ∧ c ≤ 1048576) (h : Cells w A n (fun i => .int .i64 (f i))) :
    Calls Try.prog 38 #[.slice A n c] w fun e w' => IRes w w' e (leafOk f n) (mirN f n) (mirF f n) := by
  have HT := Lib.hid (l06IsTree_any A n c f 4 w hn (by omega) h)
  unfold leafOk mirN mirF
  rw [nodeOfT4]
  cases ht : trOf 4 (rowL f n) with
  | none =>
    rw [ht] at HT
    clear ht h
    go_enter Try.func38, Try.ntmps38
    go_wp2_with fail
    refine HT.out.mono ?_
    rintro e w' ⟨rfl, rfl⟩
    go_wp2_with fail
    refine bodyPost_ret (v := .tuple #[.slice none 0 0, .bool false]) (by simp [results, Try.results38, go_sem]) rfl ?_
    exact IRes.none_ (n := 0) rfl (by repeat (first | with_reducible exact Below.refl _ _ | exact Hid.out (by with_reducible assumption) | refine Below.setCell ?_ (by simp <;> omega) _ | refine below_alloc ?_ _ | refine Below.alloc ?_ (by simp <;> omega) _ | refine Below.drew ?_ | refine below_drewN ?_ _ | exact Below.refl _ _))
  | some t =>
    have HD := Lib.hid (l06Mirror_any t A n c w (treeAt_of h hc ht))
    rw [ht] at HT
    clear ht h
    simp only [mirO, Option.isSome_some]
    generalize t.mirror.enc = L at *
    go_enter Try.func38, Try.ntmps38
    go_wp2_with fail
    refine HT.out.mono ?_
    rintro e w' ⟨rfl, rfl⟩
    go_wp2_with fail
    refine HD.out.mono ?_
    rintro e w2 ⟨g, cp, rfl, ho, hb⟩
    have N2 := Lib.hid hb
    obtain ⟨A1, c1, e1, hr⟩ := IRes.row ho rfl N2.out
    cases e1
    have HR := Lib.hid hr
    clear hb ho hr
    go_wp2_with fail
    refine bodyPost_ret (v := .tuple #[.slice (some ⟨g, 0, none⟩) L.length cp, .bool true]) (by simp [results, Try.results38, go_sem]) rfl ?_
    exact HR.out
end Go.Proofs.Ytgbiablibfbilaa
