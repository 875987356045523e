/- How deep a tree is: the reference's. -/
import Derived.Test.YtgbiablibfbilaaTreeE
set_option linter.unusedVariables false
namespace Go.Proofs.Ytgbiablibfbilaa
open Go.RowKit

/-- A slice that shows a tree. -/
structure TreeAt (w : World) (t : Tr) (A : Option Addr) (n c : Nat) : Prop where
  cells : ∃ f, Cells w A n (fun i => .int .i64 (f i)) ∧ rowL f n = t.enc
  ok : t.ok 4 = true
  cap : n ≤ c ∧ c ≤ 1048576
theorem TreeAt.below {w w' : World} {t : Tr} {A : Option Addr} {n c : Nat} (h : TreeAt w t A n c) (b : Below w.heap.size w w') : TreeAt w' t A n c := by
  obtain ⟨⟨f, hc, hr⟩, ho, hp⟩ := h
  exact ⟨⟨f, hc.below b, hr⟩, ho, hp⟩
theorem TreeAt.drewN {w : World} {t : Tr} {A : Option Addr} {n c : Nat} (h : TreeAt w t A n c) (q : Nat) : TreeAt (w.drewN q) t A n c := by
  obtain ⟨⟨f, hc, hr⟩, ho, hp⟩ := h
  exact ⟨⟨f, fun k hk => hc k hk, hr⟩, ho, hp⟩
theorem rowL_shift (f : Nat → Int) (n k m : Nat) (h : k + m ≤ n) : rowL (fun i => f (i + k)) m = ((rowL f n).drop k).take m := by
  apply List.ext_getElem
  · simp [rowL]; omega
  · intro i h1 h2
    simp [rowL]
    congr 1
    omega
theorem addrPos (a : Addr) {k : Nat} (h : k ≠ 0) : a.add k = ⟨a.block, a.off + k, none⟩ := by unfold Addr.add; simp [h]
theorem addrZero (a : Addr) : a.add 0 = a := by unfold Addr.add; simp
theorem cells_drop {w : World} {x : Addr} {n : Nat} {V : Nat → Value} (h : Cells w (some x) n V) {j m : Nat} (hj : j + m ≤ n) : Cells w (some (x.add j)) m (fun i => V (i + j)) := fun k hk => by
  obtain ⟨y, hy, hc⟩ := h (k + j) (by omega)
  cases hy
  exact ⟨_, rfl, by rw [add_add', Nat.add_comm j k]; exact hc⟩
set_option maxRecDepth 20000 in
set_option maxHeartbeats 1000000 in
theorem l06Parts_any (a b : Tr) (A : Option Addr) (n c : Nat) (w : World) (h : TreeAt w (.br a b) A n c) :
    Calls Try.prog 93 #[.slice A n c] w fun e w' => ∃ (A1 : Option Addr) (n1 c1 : Nat) (A2 : Option Addr) (n2 c2 : Nat), e = .returned (.tuple #[.slice A1 n1 c1, .slice A2 n2 c2]) ∧ TreeAt w a A1 n1 c1 ∧ TreeAt w b A2 n2 c2 ∧ ∃ q, w' = w.drewN q := by
  obtain ⟨⟨f, hc, hr⟩, ho, hp⟩ := h
  obtain ⟨oa, ob⟩ := Tr.br_ok ho
  have hn : n = 1 + a.enc.length + b.enc.length := by
    have := congrArg List.length hr
    rw [rowL_len] at this
    simp [Tr.enc] at this
    omega
  have pa := a.enc_pos
  have pb := b.enc_pos
  have hd1 : (rowL f n).drop 1 = a.enc ++ b.enc := by rw [hr]; simp [Tr.enc]
  have HE := Lib.hid (fun W h => l06End_at A n c f 4 (by omega) (by omega) (n - 1) 1 1 W rfl (by omega) rfl h)
  have HC := Lib.hid hc
  have HN := Lib.hid hn
  have HRW := Lib.hid hr
  obtain ⟨x, rfl, -⟩ := hc 0 (by omega)
  clear hc hn hr
  go_enter Try.func93, Try.ntmps93
  go_wp2_with fail
  refine (HE.out _ HC.out).mono ?_
  rintro e w' ⟨⟨q, t, r, rfl, hq, hto, htr⟩ | ⟨rfl, hno⟩, rfl⟩
  · obtain ⟨rfl, rfl⟩ := Tr.enc_inj hto oa (htr.symm.trans hd1)
    have HQ := Lib.hid hq
    have hn := HN.out
    have g1 : (1 : Int) ≤ q := by omega
    have g2 : (q : Int) ≤ c := by omega
    have g3 : (q : Int) ≤ n := by omega
    have g4 : q ≤ c := by omega
    have g5 : ¬ c = 1 := by omega
    have g6 : ¬ c = q := by omega
    have g7 : (1 : Int) ≤ c := by omega
    have g8 : (0 : Int) ≤ q := by omega
    have g9 : (n : Int) ≤ c := by omega
    clear hq htr hto HE hn
    go_wp2_with fail
    go_quiet (fail)
    go_wp2_with fail
    have hn := HN.out
    have hq := HQ.out
    refine bodyPost_ret (v := .tuple #[.slice (some ⟨x.block, x.off + 1, none⟩) (q - 1) (c - 1), .slice (some (x.add q)) (n - q) (c - q)]) (by simp [results, Try.results93, go_sem]) rfl ?_
    refine ⟨_, _, _, _, _, _, rfl, ⟨⟨fun i => f (i + 1), ?_, ?_⟩, oa, by omega⟩, ⟨⟨fun i => f (i + q), cells_drop HC.out (by omega), ?_⟩, ob, by omega⟩, _, rfl⟩
    · rw [← addrPos x (k := 1) (by omega)]
      exact cells_drop HC.out (by omega)
    · rw [rowL_shift f n 1 (q - 1) (by omega), hd1, show q - 1 = t.enc.length by omega, List.take_left']
      rfl
    · rw [rowL_shift f n q (n - q) (by omega), hq, ← List.drop_drop, hd1, List.drop_left', List.take_of_length_le (by omega)]
      rfl
  · exact absurd hd1 (hno a b.enc oa)
theorem l00Max_nat (x y : Nat) (w : World) : Calls Try.prog 94 #[.int .i64 (x : Int), .int .i64 (y : Int)] w fun e w' => e = .returned (.int .i64 ((max x y : Nat) : Int)) ∧ w = w' := by
  by_cases h : y < x
  · have d1 : (y : Int) < x := by omega
    have HM := Lib.hid (show max x y = x by omega)
    generalize max x y = m at *
    go_enter Try.func94, Try.ntmps94
    go_wp2_with fail
    go_ret
    exact ⟨by rw [HM.out]; rfl, rfl⟩
  · have d1 : ¬ (y : Int) < x := by omega
    have HM := Lib.hid (show max x y = y by omega)
    generalize max x y = m at *
    go_enter Try.func94, Try.ntmps94
    go_wp2_with fail
    go_ret
    exact ⟨by rw [HM.out]; rfl, rfl⟩
theorem Tr.deep_le : ∀ t : Tr, t.deep ≤ t.enc.length
  | .leaf _ => by simp [Tr.deep]
  | .br a b => by
    have h1 := Tr.deep_le a
    have h2 := Tr.deep_le b
    simp only [Tr.deep, Tr.enc, List.length_cons, List.length_append]
    omega
set_option maxRecDepth 20000 in
set_option maxHeartbeats 2000000 in
theorem l06Deep_any : ∀ (t : Tr) (A : Option Addr) (n c : Nat) (w : World), TreeAt w t A n c →
    Calls Try.prog 70 #[.slice A n c] w fun e w' => e = .returned (.int .i64 (t.deep : Int)) ∧ ∃ q, w' = w.drewN q := by
  intro t
  induction t with
  | leaf y =>
    intro A n c w h
    obtain ⟨⟨f, hc, hr⟩, ho, hp⟩ := h
    have hy := Tr.leaf_ok ho
    have hn : n = 1 := by have := congrArg List.length hr; rw [rowL_len] at this; simpa [Tr.enc] using this
    subst hn
    have hf : f 0 = y := by simpa [rowL, Tr.enc] using hr
    obtain ⟨x, rfl, hx0⟩ := hc 0 (by omega)
    have hx : w.cell? (x.add 0) = some (.int .i64 y) := by rw [← hf]; exact hx0
    have hx : w.cell? x = some (.int .i64 y) := by rw [← addrZero x]; exact hx
    have h0 : (0 : Int) ≤ y := hy.1
    clear hc hr hx0 hf hp ho hy
    go_enter Try.func70, Try.ntmps70
    go_wp2_with fail
    go_ret
    exact ⟨rfl, 0, rfl⟩
  | br a b iha ihb =>
    intro A n c w h
    have IA := Lib.hid iha
    have IB := Lib.hid ihb
    have HP := Lib.hid (fun W h => l06Parts_any a b A n c W h)
    have H := Lib.hid h
    obtain ⟨⟨f, hc, hr⟩, ho, hp⟩ := h
    have hn : 0 < n := by have := congrArg List.length hr; rw [rowL_len] at this; simp [Tr.enc] at this; omega
    have HL := Lib.hid (show a.enc.length + b.enc.length ≤ 1048576 by have := congrArg List.length hr; rw [rowL_len] at this; simp [Tr.enc] at this; omega)
    have hf : f 0 = -1 := by
      have := congrArg (fun l : List Int => l.getD 0 0) hr
      rw [rowL_getD f hn] at this
      simpa [Tr.enc] using this
    obtain ⟨x, rfl, hx0⟩ := hc 0 hn
    have hx : w.cell? (x.add 0) = some (.int .i64 (-1)) := by rw [← hf]; exact hx0
    have hx : w.cell? x = some (.int .i64 (-1)) := by rw [← addrZero x]; exact hx
    have HT := Lib.hid (show (Tr.br a b).deep = 1 + max a.deep b.deep from rfl)
    clear iha ihb hc hr hx0 hf hp ho
    generalize (Tr.br a b).deep = d at *
    go_enter Try.func70, Try.ntmps70
    go_wp2_with fail
    refine (HP.out _ H.out).mono ?_
    rintro e w1 ⟨A1, n1, c1, A2, n2, c2, rfl, ta, tb, q, rfl⟩
    have TA := Lib.hid (ta.drewN q)
    have TB := Lib.hid (tb.drewN q)
    clear ta tb
    have hdl : max a.deep b.deep ≤ 1048576 := by
      have h1 := a.deep_le
      have h2 := b.deep_le
      have := HL.out
      omega
    go_wp2_with fail
    refine (IA.out _ _ _ _ TA.out).mono ?_
    rintro e w2 ⟨rfl, q2, rfl⟩
    go_wp2_with fail
    refine (IB.out _ _ _ _ (show TreeAt (w.drewN (q + q2)) _ _ _ _ by have := TB.out.drewN q2; rwa [World.drewN_drewN] at this)).mono ?_
    rintro e w3 ⟨rfl, q3, rfl⟩
    go_wp2_with fail
    refine (l00Max_nat _ _ _).mono ?_
    rintro e w4 ⟨rfl, rfl⟩
    generalize max a.deep b.deep = m at *
    have hwm : IntKind.i64.wrap (1 + (m : Int)) = 1 + (m : Int) := by rw [IntKind.wrap_i64]; omega
    go_wp2_with fail
    go_ret
    exact ⟨by rw [HT.out]; simp, q + q2 + q3, by simp [Nat.add_assoc]⟩
end Go.Proofs.Ytgbiablibfbilaa
