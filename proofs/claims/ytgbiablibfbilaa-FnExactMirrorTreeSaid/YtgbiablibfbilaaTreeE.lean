/- Where the tree of a list ends, and whether a list is a tree: the reference's. -/
import Derived.Test.YtgbiablibfbilaaTree
import Derived.Test.YtgbiablibfbilaaCells
import Derived.Test.YtgbiablibfbilaaOwn
set_option linter.unusedVariables false
namespace Go.Proofs.Ytgbiablibfbilaa
open Go.RowKit

/-- Where the tree ends that begins at an index. -/
def EndRes (l : Int) (L : List Int) (k : Nat) (e : Ending) : Prop :=
  (∃ (q : Nat) (t : Tr) (r : List Int), e = .returned (.int .i64 (q : Int)) ∧ q = k + t.enc.length ∧ t.ok l = true ∧ L.drop k = t.enc ++ r) ∨ (e = .returned (.int .i64 (-1)) ∧ ∀ (t : Tr) (r : List Int), t.ok l = true → L.drop k ≠ t.enc ++ r)
theorem drop_more {L : List Int} {k q : Nat} {x : Int} {a : Tr} {r : List Int} (h0 : L.drop k = x :: L.drop (k + 1)) (h : L.drop (k + 1) = a.enc ++ r) (hq : q = k + 1 + a.enc.length) : L.drop q = r := by
  subst hq
  rw [← List.drop_drop, h, List.drop_left']
  rfl
theorem l06End_neg (A : Option Addr) (n c : Nat) (l : Int) (w : World) :
    Calls Try.prog 88 #[.slice A n c, .int .i64 (-1), .int .i64 l] w fun e w' => e = .returned (.int .i64 (-1)) ∧ w = w' := by
  go_enter Try.func88, Try.ntmps88
  go_wp2_with fail
  go_ret
  exact ⟨rfl, rfl⟩
theorem l06End_at (A : Option Addr) (n c : Nat) (f : Nat → Int) (l : Int) (hn : n ≤ 1048576) (hl : 1 ≤ l ∧ l ≤ 4) : ∀ (m k : Nat) (a : Int) (w : World), n - k = m → k ≤ n → a = k → Cells w A n (fun i => .int .i64 (f i)) →
    Calls Try.prog 88 #[.slice A n c, .int .i64 a, .int .i64 l] w fun e w' => EndRes l (rowL f n) k e ∧ w = w' := by
  intro m
  induction m using Nat.strongRecOn with
  | _ m ih =>
    intro k a w hm hk ha h
    have IH := Lib.hid ih
    have H := Lib.hid h
    clear ih h
    subst ha
    by_cases hlt : k < n
    rotate_left
    · have d1 : (n : Int) ≤ k := by omega
      have d0 : ¬ (k : Int) < 0 := by omega
      go_enter Try.func88, Try.ntmps88
      go_wp2_with fail
      go_ret
      refine ⟨.inr ⟨rfl, fun t r _ e => ?_⟩, rfl⟩
      have h0 : (rowL f n).drop k = [] := List.drop_eq_nil_of_le (by rw [rowL_len]; omega)
      rw [h0] at e
      exact t.enc_ne (List.append_eq_nil_iff.1 e.symm).1
    have d1 : ¬ (n : Int) ≤ k := by omega
    have d0 : ¬ (k : Int) < 0 := by omega
    obtain ⟨x, rfl, hx0⟩ := H.out k hlt
    have hx : w.cell? (x.add k) = some (.int .i64 (f k)) := hx0
    have HD := Lib.hid (rowL_drop f hlt)
    have hwk : IntKind.i64.wrap ((k : Int) + 1) = (k : Int) + 1 := by rw [IntKind.wrap_i64]; omega
    have hwl : IntKind.i64.wrap (l - 1) = l - 1 := by rw [IntKind.wrap_i64]; omega
    clear hx0
    generalize f k = v at *
    by_cases hv : v = -1
    · subst hv
      have IH1 := Lib.hid (fun W h => IH.out (n - (k + 1)) (by omega) (k + 1) ((k : Int) + 1) W rfl (by omega) (by omega) h)
      go_enter Try.func88, Try.ntmps88
      go_wp2_with fail
      refine (IH1.out _ H.out).mono ?_
      rintro e w' ⟨⟨q, t, r, rfl, hq, ho, hr⟩ | ⟨rfl, hno⟩, rfl⟩
      · have HQ := Lib.hid hq
        have HR := Lib.hid hr
        have HO := Lib.hid ho
        have HE := Lib.hid (drop_more HD.out hr hq)
        have hqn : q ≤ n := by
          have h1 := congrArg List.length hr
          rw [List.length_drop, rowL_len, List.length_append] at h1
          have := t.enc_pos
          omega
        have IH2 := Lib.hid (fun W h => IH.out (n - q) (by have := t.enc_pos; omega) q (q : Int) W rfl hqn rfl h)
        clear hq hr ho hqn
        go_wp2_with fail
        refine (IH2.out _ H.out).mono ?_
        rintro e w' ⟨⟨q2, t2, r2, rfl, hq, ho, hr⟩ | ⟨rfl, hno⟩, rfl⟩
        · have HQ2 := Lib.hid hq
          clear hq
          go_wp2_with fail
          go_ret
          refine ⟨.inl ⟨q2, .br t t2, r2, rfl, ?_, ?_, ?_⟩, rfl⟩
          · have := HQ2.out; have := HQ.out; simp [Tr.enc]; omega
          · simp [Tr.ok, HO.out, ho]
          · rw [HD.out, HR.out, show r = t2.enc ++ r2 by rw [← HE.out]; exact hr]; simp [Tr.enc]
        · go_wp2_with fail
          go_ret
          refine ⟨.inr ⟨rfl, fun t' r' ho' e => ?_⟩, rfl⟩
          rw [HD.out] at e
          cases t' with
          | leaf y =>
            have := Tr.leaf_ok ho'
            simp [Tr.enc] at e
            omega
          | br a b =>
            obtain ⟨o1, o2⟩ := Tr.br_ok ho'
            simp only [Tr.enc, List.cons_append, List.cons.injEq, true_and, List.append_assoc] at e
            rw [HR.out] at e
            obtain ⟨-, e2⟩ := Tr.enc_inj HO.out o1 e
            exact hno b r' o2 (by rw [HE.out]; exact e2)
      · have HNO := Lib.hid hno
        clear hno
        go_wp2_with fail
        refine (l06End_neg _ n c l _).mono ?_
        rintro e w' ⟨rfl, rfl⟩
        go_wp2_with fail
        go_ret
        refine ⟨.inr ⟨rfl, fun t' r' ho' e => ?_⟩, rfl⟩
        rw [HD.out] at e
        cases t' with
        | leaf y =>
          have := Tr.leaf_ok ho'
          simp [Tr.enc] at e
          omega
        | br a b =>
          obtain ⟨o1, o2⟩ := Tr.br_ok ho'
          simp only [Tr.enc, List.cons_append, List.cons.injEq, true_and, List.append_assoc] at e
          exact HNO.out a _ o1 e
    · have hb : (v == -1) = false := by simpa using hv
      cases e : inB v 0 (l - 1)
      · have J0 := Lib.hid (l00In_is e)
        have HE := Lib.hid e
        clear e
        go_enter Try.func88, Try.ntmps88
        go_wp2_with fail
        refine (J0.out _).mono ?_
        rintro e w' ⟨rfl, rfl⟩
        go_wp2_with fail
        go_ret
        refine ⟨.inr ⟨rfl, fun t' r' ho' e => ?_⟩, rfl⟩
        rw [HD.out] at e
        cases t' with
        | leaf y =>
          simp [Tr.enc] at e
          have h1 : inB y 0 (l - 1) = true := ho'
          rw [← e.1, HE.out] at h1
          cases h1
        | br a b =>
          simp [Tr.enc] at e
          exact hv e.1
      · have J0 := Lib.hid (l00In_is e)
        have HE := Lib.hid e
        clear e
        go_enter Try.func88, Try.ntmps88
        go_wp2_with fail
        refine (J0.out _).mono ?_
        rintro e w' ⟨rfl, rfl⟩
        go_wp2_with fail
        go_ret
        exact ⟨.inl ⟨k + 1, .leaf v, (rowL f n).drop (k + 1), by simp, by simp [Tr.enc], HE.out, by rw [HD.out]; simp [Tr.enc]⟩, rfl⟩
theorem l06IsTree_any (A : Option Addr) (n c : Nat) (f : Nat → Int) (l : Int) (w : World) (hn : n ≤ 1048576) (hl : 1 ≤ l ∧ l ≤ 4) (h : Cells w A n (fun i => .int .i64 (f i))) :
    Calls Try.prog 67 #[.slice A n c, .int .i64 l] w fun e w' => e = .returned (.bool (trOf l (rowL f n)).isSome) ∧ w = w' := by
  have HE := Lib.hid (fun W h => l06End_at A n c f l hn hl (n - 0) 0 0 W rfl (Nat.zero_le _) rfl h)
  have H := Lib.hid h
  clear h
  by_cases h1 : n ≤ 23
  rotate_left
  · have d1 : ¬ (n : Int) ≤ 23 := by omega
    have HR := Lib.hid (show (trOf l (rowL f n)).isSome = false by unfold trOf; rw [if_neg (by rw [rowL_len]; omega)]; rfl)
    generalize (trOf l (rowL f n)).isSome = r at *
    go_enter Try.func67, Try.ntmps67
    go_wp2_with fail
    go_ret
    exact ⟨ret_bool (by rw [HR.out]), rfl⟩
  have d1 : (n : Int) ≤ 23 := by omega
  have HY := Lib.hid (fun t ho e => trOf_some (l := l) (L := rowL f n) (t := t) |>.2 ⟨by rw [rowL_len]; exact h1, ho, e⟩)
  have HN := Lib.hid (fun (h : trOf l (rowL f n) = none) => trOf_none h (by rw [rowL_len]; exact h1))
  have HS := Lib.hid (fun t (h : trOf l (rowL f n) = some t) => trOf_some.1 h)
  have HL := Lib.hid (rowL_len f n)
  go_enter Try.func67, Try.ntmps67
  go_wp2_with fail
  refine (HE.out _ H.out).mono ?_
  rintro e w' ⟨⟨q, t, r, rfl, hq, ho, hr⟩ | ⟨rfl, hno⟩, rfl⟩
  · rw [List.drop_zero] at hr
    by_cases hqn : q = n
    · have HR := Lib.hid (show (trOf l (rowL f n)).isSome = true by
        have h2 := congrArg List.length hr
        rw [HL.out, List.length_append] at h2
        have h3 : r = [] := List.length_eq_zero_iff.1 (by omega)
        rw [h3, List.append_nil] at hr
        rw [HY.out t ho hr]; rfl)
      have b1 : ((q : Int) == n) = true := by simp; omega
      clear hq hr ho hqn
      go_wp2_with fail
      go_ret
      exact ⟨ret_bool HR.out.symm, rfl⟩
    · have HR := Lib.hid (show (trOf l (rowL f n)).isSome = false by
        cases z : trOf l (rowL f n) with
        | none => rfl
        | some t' =>
          obtain ⟨_, o, e⟩ := HS.out t' z
          have h2 := Tr.enc_inj (r := r) (r' := []) ho o (by rw [← hr, List.append_nil, e])
          obtain ⟨rfl, rfl⟩ := h2
          have := congrArg List.length hr
          rw [HL.out, List.append_nil] at this
          omega)
      have b1 : ((q : Int) == n) = false := by simp; omega
      clear hq hr ho hqn
      go_wp2_with fail
      go_ret
      exact ⟨ret_bool HR.out.symm, rfl⟩
  · have HR := Lib.hid (show (trOf l (rowL f n)).isSome = false by
      cases z : trOf l (rowL f n) with
      | none => rfl
      | some t' =>
        obtain ⟨_, o, e⟩ := HS.out t' z
        exact absurd (by rw [List.drop_zero, List.append_nil]; exact e) (hno t' [] o))
    have b1 : ((-1 : Int) == n) = false := by first | (simp; done) | (simp; omega)
    clear hno
    go_wp2_with fail
    go_ret
    exact ⟨ret_bool HR.out.symm, rfl⟩
theorem specIsTree_any (A : Option Addr) (n c : Nat) (f : Nat → Int) (l : Int) (w : World) (hn : n ≤ 1048576) (h : Cells w A n (fun i => .int .i64 (f i))) :
    Calls Try.prog 28 #[.slice A n c, .int .i64 l] w fun e w' => e = .returned (.bool (inB l 1 4 && (trOf l (rowL f n)).isSome)) ∧ Below w.heap.size w w' := by
  have H := Lib.hid h
  clear h
  cases e : inB l 1 4
  · have J0 := Lib.hid (l00In_is e)
    clear e
    go_enter Try.func28, Try.ntmps28
    go_wp2_with fail
    refine (J0.out _).mono ?_
    rintro e w' ⟨rfl, rfl⟩
    go_wp2_with fail
    go_ret
    exact ⟨rfl, (by repeat (first | exact Below.refl _ _ | exact Hid.out (by assumption) | refine below_alloc ?_ _ | refine Below.setCell ?_ (by simp <;> omega) _ | refine Below.alloc ?_ (by simp <;> omega) _ | refine Below.drew ?_ | refine below_drewN ?_ _))⟩
  · have J0 := Lib.hid (l00In_is e)
    have HT := Lib.hid (fun W h => l06IsTree_any A n c f l W hn (inB_iff.1 e) h)
    clear e
    generalize (trOf l (rowL f n)).isSome = r at *
    go_enter Try.func28, Try.ntmps28
    go_wp2_with fail
    refine (J0.out _).mono ?_
    rintro e w' ⟨rfl, rfl⟩
    go_wp2_with fail
    refine (HT.out _ H.out).mono ?_
    rintro e w' ⟨rfl, rfl⟩
    go_wp2_with fail
    go_ret
    exact ⟨ret_bool (by simp), (by repeat (first | exact Below.refl _ _ | exact Hid.out (by assumption) | refine below_alloc ?_ _ | refine Below.setCell ?_ (by simp <;> omega) _ | refine Below.alloc ?_ (by simp <;> omega) _ | refine Below.drew ?_ | refine below_drewN ?_ _))⟩
end Go.Proofs.Ytgbiablibfbilaa
