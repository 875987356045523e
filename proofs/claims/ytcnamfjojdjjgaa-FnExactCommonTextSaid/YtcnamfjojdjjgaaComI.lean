/- CommonText: the program's law. -/
import Derived.Test.YtcnamfjojdjjgaaStepK
import Derived.Test.YtcnamfjojdjjgaaComT
import Derived.Laws.RangeString
import Derived.Laws.RangeAny
set_option linter.unusedVariables false
namespace Go.Proofs.Ytcnamfjojdjjgaa
open Go.RowKit
theorem stepC_code (a b : ByteArray) (ha : a.size ≤ 48) (hb : b.size ≤ 48) : ∀ i j, i ≤ a.size → j ≤ b.size → (i = 0 ∧ j = 0) ∨ (0 < i ∧ 0 < j ∧ stepC (bx a) (bx b) i j = 61) ∨ (0 < i ∧ stepC (bx a) (bx b) i j = 45) ∨ (0 < j ∧ stepC (bx a) (bx b) i j = 43) := by
  intro i j hi hj
  cases i with
  | zero =>
    cases j with
    | zero => exact .inl ⟨rfl, rfl⟩
    | succ j => exact .inr (.inr (.inr ⟨by omega, stepC_0j j⟩))
  | succ i =>
    cases j with
    | zero => exact .inr (.inr (.inl ⟨by omega, stepC_i0 i⟩))
    | succ j =>
      have hv := stepC_ss (x := bx a) (y := bx b) i j (by omega) (by omega)
      by_cases c1 : bx a i = bx b j
      · rw [if_pos c1] at hv
        exact .inr (.inl ⟨by omega, by omega, hv⟩)
      · rw [if_neg c1] at hv
        by_cases c2 : lcsE (bx a) (bx b) i (j + 1) = lcsE (bx a) (bx b) (i + 1) (j + 1)
        · rw [if_pos c2] at hv
          exact .inr (.inr (.inl ⟨by omega, hv⟩))
        · rw [if_neg c2] at hv
          exact .inr (.inr (.inr ⟨by omega, hv⟩))
theorem codesOK_common (a b : ByteArray) (ha : a.size ≤ 48) (hb : b.size ≤ 48) : CodesOK a.size b.size (stepG a b 1 1 1000000 1000000) := by
  intro i j hi hj
  have e : ∀ i j, stepG a b 1 1 1000000 1000000 i j = stepC (bx a) (bx b) i j := fun _ _ => rfl
  rw [e]
  rcases stepC_code a b ha hb i j hi hj with ⟨rfl, rfl⟩ | ⟨h1, h2, h3⟩ | ⟨h1, h3⟩ | ⟨h1, h3⟩
  · exact .inl ⟨rfl, rfl, stepC_00⟩
  · exact .inr (.inl ⟨h1, h2, .inl h3⟩)
  · exact .inr (.inr (.inl ⟨h1, h3⟩))
  · exact .inr (.inr (.inr ⟨h1, h3⟩))
/-- Steps that change no byte: three codes. -/
theorem backC_codes (f : Nat → Nat → Nat) (m n : Nat) (hf : ∀ i j, i ≤ m → j ≤ n → (i = 0 ∧ j = 0) ∨ (0 < i ∧ 0 < j ∧ f i j = 61) ∨ (0 < i ∧ f i j = 45) ∨ (0 < j ∧ f i j = 43)) (h00 : f 0 0 = 0) : ∀ q i j, i ≤ m → j ≤ n → (backE f q i j).length ≤ q ∧ ∀ c ∈ backE f q i j, c = 61 ∨ c = 45 ∨ c = 43 := by
  intro q
  induction q with
  | zero => intro i j _ _; exact ⟨Nat.le_refl _, fun c hc => by simp [backE] at hc⟩
  | succ q ih =>
    intro i j hi hj
    rcases hf i j hi hj with ⟨rfl, rfl⟩ | ⟨h1, h2, h3⟩ | ⟨h1, h3⟩ | ⟨h1, h3⟩
    · rw [backE, h00]; exact ⟨by simp, fun c hc => by simp at hc⟩
    · rw [backE, h3, if_pos (.inl rfl)]
      obtain ⟨k1, k2⟩ := ih (i - 1) (j - 1) (by omega) (by omega)
      exact ⟨by simp; omega, fun c hc => by rcases List.mem_cons.1 hc with h | h; exact .inl h; exact k2 c h⟩
    · rw [backE, h3, if_neg (by omega), if_pos rfl]
      obtain ⟨k1, k2⟩ := ih (i - 1) j (by omega) (by omega)
      exact ⟨by simp; omega, fun c hc => by rcases List.mem_cons.1 hc with h | h; exact .inr (.inl h); exact k2 c h⟩
    · rw [backE, h3, if_neg (by omega), if_neg (by omega), if_pos rfl]
      obtain ⟨k1, k2⟩ := ih i (j - 1) (by omega) (by omega)
      exact ⟨by simp; omega, fun c hc => by rcases List.mem_cons.1 hc with h | h; exact .inr (.inr h); exact k2 c h⟩
/-- Where the walk stands behind k steps. -/
def stC (x : Nat → Nat) (l : List Nat) (k : Nat) : Nat × List Nat := (l.take k).foldl (actC x) (0, [])
theorem stC_0 {x : Nat → Nat} {l : List Nat} : stC x l 0 = (0, []) := by unfold stC; simp
theorem stC_succ {x : Nat → Nat} {l : List Nat} {k : Nat} (h : k < l.length) : stC x l (k + 1) = actC x (stC x l k) l[k] := by
  unfold stC
  rw [List.take_succ_eq_append_getElem h, List.foldl_append]
  rfl
theorem stC_le {x : Nat → Nat} {l : List Nat} (k : Nat) : (stC x l k).1 ≤ (l.foldl (actC x) (0, [])).1 := by
  have h := fold_le x (l.drop k) (stC x l k)
  unfold stC at h
  rw [← List.foldl_append, List.take_append_drop] at h
  exact h
theorem stC_len {x : Nat → Nat} {l : List Nat} (k : Nat) : (stC x l k).2.length ≤ k := by
  have h := fold_len x (l.take k) (0, [])
  unfold stC
  have h2 : (l.take k).length ≤ k := by rw [List.length_take]; omega
  simp at h
  omega
theorem stC_end {x : Nat → Nat} {l : List Nat} {k : Nat} (h : l.length ≤ k) : stC x l k = l.foldl (actC x) (0, []) := by
  unfold stC
  rw [List.take_of_length_le h]
theorem textL_at {l : List Nat} {k : Nat} (h : k < (textL l).size) (h2 : k < l.length) (hl : l[k] < 256) : ((textL l)[k]'h).toNat = l[k] := by
  show (((l.map (fun c => UInt8.ofNat c)).toArray)[k]'(by simpa using h2)).toNat = _
  simp
  omega
/-- What the loop over the steps goes by. -/
structure Goes (a : ByteArray) (S : ByteArray) (P : Nat → Nat) (C : Nat → ByteArray) (T : ByteArray) : Prop where
  p0 : P 0 = 0
  c0 : C 0 = ⟨#[]⟩
  size : S.size ≤ 96
  last : C S.size = T
  step : ∀ k (h : k < S.size), ((S[k]'h).toNat = 61 ∧ P k < a.size ∧ P (k + 1) = P k + 1 ∧ C k ++ a.extract (P k) (P k + 1) = C (k + 1) ∧ (C k).size ≤ 96) ∨
    ((S[k]'h).toNat = 45 ∧ P k < a.size ∧ P (k + 1) = P k + 1 ∧ C (k + 1) = C k) ∨ ((S[k]'h).toNat = 43 ∧ P (k + 1) = P k ∧ C (k + 1) = C k)
theorem goes (a b : ByteArray) (ha : a.size ≤ 48) (hb : b.size ≤ 48) : ∃ P C, Goes a (textL (backE (stepG a b 1 1 1000000 1000000) (a.size + b.size) a.size b.size).reverse) P C (textL (commonL a b)) := by
  have hfb := fold_back (x := bx a) (y := bx b) (a.size + b.size) a.size b.size (Nat.le_refl _) ha hb
  obtain ⟨hl, hc⟩ := backC_codes (stepC (bx a) (bx b)) a.size b.size (stepC_code a b ha hb) stepC_00 (a.size + b.size) a.size b.size (Nat.le_refl _) (Nat.le_refl _)
  have e : backE (stepG a b 1 1 1000000 1000000) (a.size + b.size) a.size b.size = backE (stepC (bx a) (bx b)) (a.size + b.size) a.size b.size := rfl
  rw [e]
  have hcom : commonL a b = (backC (bx a) (bx b) (a.size + b.size) a.size b.size).reverse := rfl
  have hl2 : (backE (stepC (bx a) (bx b)) (a.size + b.size) a.size b.size).reverse.length ≤ 96 := by rw [List.length_reverse]; omega
  have hc2 : ∀ c ∈ (backE (stepC (bx a) (bx b)) (a.size + b.size) a.size b.size).reverse, c = 61 ∨ c = 45 ∨ c = 43 := fun c h => hc c (List.mem_reverse.1 h)
  rw [← hcom] at hfb
  clear hl hc hcom
  generalize (backE (stepC (bx a) (bx b)) (a.size + b.size) a.size b.size).reverse = l at *
  generalize commonL a b = T at *
  have hsz := textL_size l
  refine ⟨fun k => (stC (bx a) l k).1, fun k => textL (stC (bx a) l k).2, by simp only [stC_0], by simp only [stC_0]; rfl, by omega, by simp only [stC_end (x := bx a) (show l.length ≤ (textL l).size by omega), hfb], fun k h => ?_⟩
  have hk : k < l.length := by omega
  have hm := hc2 _ (List.getElem_mem hk)
  have hs := stC_succ (x := bx a) hk
  have ht := textL_at h hk (by omega)
  have hle := stC_le (x := bx a) (l := l) (k + 1)
  have hlen := stC_len (x := bx a) (l := l) k
  rw [hfb] at hle
  simp only at hle
  generalize stC (bx a) l k = st at *
  generalize stC (bx a) l (k + 1) = st2 at *
  rw [ht]
  rcases hm with hm | hm | hm
  · rw [hm] at hs ⊢
    have h1 : st2 = (st.1 + 1, st.2 ++ [bx a st.1]) := hs
    subst h1
    simp only at hle
    exact .inl ⟨rfl, by omega, rfl, by simp only; rw [extract_bx (by omega), textL_app], by rw [textL_size]; omega⟩
  · rw [hm] at hs ⊢
    have h1 : st2 = (st.1 + 1, st.2) := hs
    subst h1
    simp only at hle
    exact .inr (.inl ⟨rfl, by omega, rfl, rfl⟩)
  · rw [hm] at hs ⊢
    have h1 : st2 = st := hs
    subst h1
    exact .inr (.inr ⟨rfl, rfl, rfl⟩)
set_option maxRecDepth 20000 in
set_option maxHeartbeats 4000000 in
theorem implCommonText_law (a b : ByteArray) (w : World) (h0 : a.size ≤ 1048576) (h1 : b.size ≤ 1048576) :
    Calls Try.prog 28 #[.string a, .string b] w fun e w' => e = .returned (.tuple #[.string (vCommonText0 a b), .bool (vCommonText1 a b)]) ∧ Below w.heap.size w w' := by
  have HT := Lib.hid (fun W => areTexts_any (some ⟨w.heap.size, 0, none⟩) 2 2 (two a b) W (by omega))
  have HV0 := Lib.hid (show vCommonText0 a b = if vCommonText1 a b then textL (commonL a b) else ⟨#[]⟩ from rfl)
  have HV1 := Lib.hid (show vCommonText1 a b = (textB a && textB b) from rfl)
  rw [textsB_two] at HT
  generalize vCommonText0 a b = v0 at *
  generalize vCommonText1 a b = v1 at *
  cases ht : (textB a && textB b)
  · rw [ht] at HT HV1
    clear ht
    go_enter Try.func28, Try.ntmps28
    go_wp2_with (first
      | (go_at_call 40
         refine (HT.out _ (cells_two rfl)).mono ?_
         rintro e u1 ⟨rfl, rfl⟩))
    go_ret2
    exact ⟨ret_sb (by rw [HV0.out, HV1.out]; rfl) (by rw [HV1.out]), (by repeat (first | exact Below.refl _ _ | exact Hid.out (by assumption) | refine below_alloc ?_ _ | refine Below.setCell ?_ (by simp <;> omega) _ | refine Below.alloc ?_ (by simp <;> omega) _ | refine Below.drew ?_ | refine below_drewN ?_ _))⟩
  · have hta : textB a = true := by revert ht; cases textB a <;> simp
    have htb : textB b = true := by revert ht; cases textB b <;> simp
    rw [ht] at HT HV1
    have ha := textB_le hta
    have HC := Lib.hid (fun W => steps_any a b 1 1 1000000 1000000 W ⟨by omega, by omega, by omega, by omega⟩ (textB_le hta) (textB_le htb) (codesOK_common a b (textB_le hta) (textB_le htb)))
    obtain ⟨P, C, hgo⟩ := goes a b (textB_le hta) (textB_le htb)
    generalize textL (commonL a b) = TT at *
    generalize textL (backE (stepG a b 1 1 1000000 1000000) (a.size + b.size) a.size b.size).reverse = S at *
    have HG := Lib.hid hgo
    clear ht hta htb hgo
    go_enter Try.func28, Try.ntmps28
    go_wp2_with (first
      | (go_at_call 40
         refine (HT.out _ (cells_two rfl)).mono ?_
         rintro e u1 ⟨rfl, rfl⟩)
      | (go_at_call 43
         refine (HC.out _).mono ?_
         rintro e u3 ⟨rfl, hb⟩
         have PU := Lib.hid (Below.step' (w := w) (by repeat (first | exact Below.refl _ _ | exact Hid.out (by assumption) | refine below_alloc ?_ _ | refine Below.setCell ?_ (by simp <;> omega) _ | refine Below.alloc ?_ (by simp <;> omega) _ | refine Below.drew ?_ | refine below_drewN ?_ _)) (Nat.le_refl _) hb)
         clear hb)
      | go_in)
    go_loopw [6, 7] (fun cc aa wr => ∃ k : Nat, k ≤ S.size ∧ wr = u3.iter S k ∧ cc = .string (C k) ∧ aa = .int .i64 (P k)) (fun _ _ wr => S.size - wr.iterPos u3.heap.size)
    case atStart => exact ⟨0, Nat.zero_le _, rfl, by rw [HG.out.c0], by rw [HG.out.p0]; rfl⟩
    case round =>
      obtain ⟨k, hk, rfl, rfl, rfl⟩ := hrel
      by_cases hlt : k < S.size
      · rcases HG.out.step k hlt with ⟨hc, hp, hp2, hx, hcs⟩ | ⟨hc, hp, hp2, hx⟩ | ⟨hc, hp2, hx⟩
        · have hnx : ∀ ty, (Instr.next (.pointer (some ⟨u3.heap.size, 0, none⟩)) true ty).run Try.prog (u3.iter S k) = .ok (.tuple #[.bool true, .int .i64 k, .int .i32 61]) (u3.iter S (k + 1)) := fun ty => by
            have h := run_next_ascii (P := Try.prog) u3 S k ty hlt (by omega)
            rw [hc] at h
            exact h
          have hadd := fun W => run_string_add_sum (P := Try.prog) W (C k) (a.extract (P k) (P k + 1)) (by rw [ByteArray.size_extract]; omega)
          rw [hx] at hadd
          obtain ⟨p1, hp1⟩ : ∃ p1, p1 = P k + 1 := ⟨_, rfl⟩
          rw [← hp1] at hadd hp2
          have w1' : IntKind.i64.wrap ((P k : Int) + 1) = (p1 : Int) := by rw [IntKind.wrap_i64]; omega
          have q1 : (p1 : Int) ≤ a.size := by omega
          have q2 : (P k : Int) ≤ (p1 : Int) := by omega
          have HX := Lib.hid (And.intro hp2 (rfl : C (k + 1) = C (k + 1)))
          clear hx hc hp2 hp1 hcs
          generalize hc2 : C (k + 1) = c2 at *
          have HC2 := Lib.hid hc2
          clear hc2
          generalize P k = p0 at *
          generalize C k = c0 at *
          go_wp2
          go_roundw
          case rel => exact ⟨k + 1, by omega, rfl, by rw [HC2.out], by rw [HX.out.1]⟩
          case measure => simp; omega
        · have hnx : ∀ ty, (Instr.next (.pointer (some ⟨u3.heap.size, 0, none⟩)) true ty).run Try.prog (u3.iter S k) = .ok (.tuple #[.bool true, .int .i64 k, .int .i32 45]) (u3.iter S (k + 1)) := fun ty => by
            have h := run_next_ascii (P := Try.prog) u3 S k ty hlt (by omega)
            rw [hc] at h
            exact h
          obtain ⟨p1, hp1⟩ : ∃ p1, p1 = P k + 1 := ⟨_, rfl⟩
          rw [← hp1] at hp2
          have w1' : IntKind.i64.wrap ((P k : Int) + 1) = (p1 : Int) := by rw [IntKind.wrap_i64]; omega
          have HX := Lib.hid (And.intro hp2 hx)
          clear hx hc hp2 hp1
          go_wp2
          go_roundw
          case rel => exact ⟨k + 1, by omega, rfl, by rw [HX.out.2], by rw [HX.out.1]⟩
          case measure => simp; omega
        · have hnx : ∀ ty, (Instr.next (.pointer (some ⟨u3.heap.size, 0, none⟩)) true ty).run Try.prog (u3.iter S k) = .ok (.tuple #[.bool true, .int .i64 k, .int .i32 43]) (u3.iter S (k + 1)) := fun ty => by
            have h := run_next_ascii (P := Try.prog) u3 S k ty hlt (by omega)
            rw [hc] at h
            exact h
          have HX := Lib.hid (And.intro hp2 hx)
          clear hx hc hp2
          go_wp2
          go_roundw
          case rel => exact ⟨k + 1, by omega, rfl, by rw [HX.out.2], by rw [HX.out.1]⟩
          case measure => simp; omega
      · have hnx := fun ty => run_next_end (P := Try.prog) u3 S k ty hlt
        have HE := Lib.hid (show C k = TT by
          obtain rfl : k = S.size := by omega
          exact HG.out.last)
        go_wp2
        go_ret2
        exact ⟨ret_sb (by rw [HV0.out, HV1.out, ← HE.out]; rfl) (by rw [HV1.out]), PU.out.trans (((Below.refl _ _).alloc (Nat.le_refl _) _ : Below u3.heap.size u3 (u3.iter S k)).mono PU.out.size)⟩
end Go.Proofs.Ytcnamfjojdjjgaa
