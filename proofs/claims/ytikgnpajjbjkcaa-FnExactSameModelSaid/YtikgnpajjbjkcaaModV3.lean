/- Models: valid ones, on both sides. -/
import Derived.Test.YtikgnpajjbjkcaaModV2
set_option linter.unusedVariables false
namespace Go.Proofs.Ytikgnpajjbjkcaa
open Go.RowKit

/-- Both rows of each state are chances with sums near 1. -/
def allRows (S L : Nat) (g h : Nat → Nat) : Bool := (List.range S).all fun i => rowB (fun j => g (i * S + j)) S && rowB (fun j => h (i * L + j)) L
theorem allRows_iff {S L : Nat} {g h : Nat → Nat} : allRows S L g h = true ↔ ∀ i, i < S → rowB (fun j => g (i * S + j)) S = true ∧ rowB (fun j => h (i * L + j)) L = true := by
  unfold allRows
  rw [List.all_eq_true]
  simp only [Bool.and_eq_true]
  exact ⟨fun k i hi => k i (List.mem_range.2 hi), fun k i hi => k i (List.mem_range.1 hi)⟩
/-- A valid model. -/
def validMod (s l : Int) (n m o : Nat) (f g h : Nat → Nat) : Bool := inB s 1 5 && (inB l 1 4 && (decide ((n : Int) = s) && (decide ((m : Int) = s * s) && (decide ((o : Int) = s * l) && (rowB f n && allRows s.toNat l.toNat g h)))))
theorem validMod_iff {s l : Int} {n m o : Nat} {f g h : Nat → Nat} : validMod s l n m o f g h = true ↔
    (1 ≤ s ∧ s ≤ 5) ∧ (1 ≤ l ∧ l ≤ 4) ∧ (n : Int) = s ∧ (m : Int) = s * s ∧ (o : Int) = s * l ∧ rowB f n = true ∧ ∀ i, i < s.toNat → rowB (fun j => g (i * s.toNat + j)) s.toNat = true ∧ rowB (fun j => h (i * l.toNat + j)) l.toNat = true := by
  unfold validMod
  simp only [Bool.and_eq_true, inB_iff, decide_eq_true_eq, allRows_iff]
theorem validMod_not {s l : Int} {n m o : Nat} {f g h : Nat → Nat} (k : ¬ ((1 ≤ s ∧ s ≤ 5) ∧ (1 ≤ l ∧ l ≤ 4) ∧ (n : Int) = s ∧ (m : Int) = s * s ∧ (o : Int) = s * l ∧ rowB f n = true ∧ ∀ i, i < s.toNat → rowB (fun j => g (i * s.toNat + j)) s.toNat = true ∧ rowB (fun j => h (i * l.toNat + j)) l.toNat = true)) : validMod s l n m o f g h = false := by
  cases e : validMod s l n m o f g h
  · rfl
  · exact absurd (validMod_iff.1 e) k
theorem rows_cut {S L : Nat} {f : Nat → Nat} (hL : 0 < L) : ((∀ i, i < S * L → shareB (f i) = true) ∧ ∀ r, r < S → nearB (sumF (fun j => f (r * L + j)) L) = true) ↔ ∀ r, r < S → rowB (fun j => f (r * L + j)) L = true := by
  constructor
  · intro ⟨h1, h2⟩ r hr
    refine rowB_iff.2 ⟨fun i hi => h1 _ ?_, h2 r hr⟩
    have := Nat.mul_le_mul_right L (show r + 1 ≤ S from hr)
    rw [Nat.add_mul] at this
    omega
  · intro h
    refine ⟨fun i hi => ?_, fun r hr => (rowB_iff.1 (h r hr)).2⟩
    have hd : i / L < S := (Nat.div_lt_iff_lt_mul hL).2 hi
    have := (rowB_iff.1 (h (i / L) hd)).1 (i % L) (Nat.mod_lt _ hL)
    have e : i / L * L + i % L = i := by rw [Nat.mul_comm]; exact Nat.div_add_mod i L
    rw [e] at this
    exact this
/-- Valid, as the program asks it. -/
theorem validMod_chances {S L n m o : Nat} {f g h : Nat → Nat} (s1 : 1 ≤ S) (s2 : S ≤ 5) (l1 : 1 ≤ L) (l2 : L ≤ 4) : validMod S L n m o f g h = (chancesB f n 1 S && (chancesB g m S S && chancesB h o S L)) := by
  rw [Bool.eq_iff_iff, validMod_iff, Bool.and_eq_true, Bool.and_eq_true, chances_iff, chances_iff, chances_iff]
  have e0 : sumF (fun j => f (0 * S + j)) S = sumF f S := sumF_congr fun i _ => by rw [Nat.zero_mul, Nat.zero_add]
  have eS : ((S : Int)).toNat = S := rfl
  have eL : ((L : Int)).toNat = L := rfl
  rw [eS, eL]
  have hm : ((m : Int) = (S : Int) * S) ↔ m = S * S := by rw [← Int.natCast_mul]; omega
  have ho : ((o : Int) = (S : Int) * L) ↔ o = S * L := by rw [← Int.natCast_mul]; omega
  rw [hm, ho]
  constructor
  · rintro ⟨-, -, h3, h4, h5, h6, h7⟩
    have hn : n = S := by omega
    subst hn
    have g1 := (rows_cut (S := n) (L := n) (f := g) (by omega)).2 fun r hr => (h7 r hr).1
    have g2 := (rows_cut (S := n) (L := L) (f := h) (by omega)).2 fun r hr => (h7 r hr).2
    refine ⟨⟨by omega, fun i hi => (rowB_iff.1 h6).1 i hi, fun r hr => ?_⟩, ⟨h4, by rw [h4]; exact g1.1, g1.2⟩, ⟨h5, by rw [h5]; exact g2.1, g2.2⟩⟩
    obtain rfl : r = 0 := by omega
    rw [e0]
    exact (rowB_iff.1 h6).2
  · rintro ⟨⟨a1, a2, a3⟩, ⟨b1, b2, b3⟩, ⟨c1, c2, c3⟩⟩
    have hn : n = S := by omega
    subst hn
    rw [b1] at b2
    rw [c1] at c2
    have g1 := (rows_cut (S := n) (L := n) (f := g) (by omega)).1 ⟨b2, b3⟩
    have g2 := (rows_cut (S := n) (L := L) (f := h) (by omega)).1 ⟨c2, c3⟩
    refine ⟨by omega, by omega, rfl, b1, c1, rowB_iff.2 ⟨a2, ?_⟩, fun i hi => ⟨g1 i hi, g2 i hi⟩⟩
    have := a3 0 (by omega)
    rw [e0] at this
    exact this

theorem shapeOf_any (s l : Int) (v2 v3 v4 : Value) (w : World) :
    Calls Try.prog 55 #[.agg #[.int .i64 s, .int .i64 l, v2, v3, v4]] w fun e w' => e = .returned (.agg #[.int .i64 s, .int .i64 l]) ∧ Below w.heap.size w w' := by
  go_enter Try.func55, Try.ntmps55
  go_wp2_with fail
  refine bodyPost_ret (v := .agg #[.int .i64 s, .int .i64 l]) ?r1 rfl ?r2
  case r1 => simp [results, Try.results55, go_sem]
  case r2 => exact ⟨rfl, (by repeat (first | exact Below.refl _ _ | exact Hid.out (by assumption) | refine below_alloc ?_ _ | refine Below.setCell ?_ (by simp <;> omega) _ | refine Below.alloc ?_ (by simp <;> omega) _ | refine Below.drew ?_ | refine below_drewN ?_ _))⟩
theorem hasLimits_any (s l : Int) (w : World) :
    Calls Try.prog 56 #[.agg #[.int .i64 s, .int .i64 l]] w fun e w' => e = .returned (.bool (inB s 1 5 && inB l 1 4)) ∧ Below w.heap.size w w' := by
  have H1 := Lib.hid (fun W => between_any s 1 5 W)
  have H2 := Lib.hid (fun W => between_any l 1 4 W)
  cases hs : inB s 1 5
  · rw [hs] at H1
    have HS := Lib.hid hs
    clear hs
    go_enter Try.func56, Try.ntmps56
    go_wp2_with fail
    refine (H1.out _).mono ?_
    rintro e w' ⟨rfl, rfl⟩
    go_wp2_with fail
    go_ret
    exact ⟨rfl, (by repeat (first | exact Below.refl _ _ | exact Hid.out (by assumption) | refine below_alloc ?_ _ | refine Below.setCell ?_ (by simp <;> omega) _ | refine Below.alloc ?_ (by simp <;> omega) _ | refine Below.drew ?_ | refine below_drewN ?_ _))⟩
  · rw [hs] at H1
    clear hs
    generalize inB l 1 4 = r at *
    go_enter Try.func56, Try.ntmps56
    go_wp2_with fail
    refine (H1.out _).mono ?_
    rintro e w' ⟨rfl, rfl⟩
    go_wp2_with fail
    refine (H2.out _).mono ?_
    rintro e w' ⟨rfl, rfl⟩
    go_wp2_with fail
    go_ret
    exact ⟨by cases r <;> rfl, (by repeat (first | exact Below.refl _ _ | exact Hid.out (by assumption) | refine below_alloc ?_ _ | refine Below.setCell ?_ (by simp <;> omega) _ | refine Below.alloc ?_ (by simp <;> omega) _ | refine Below.drew ?_ | refine below_drewN ?_ _))⟩

set_option maxHeartbeats 1000000 in
theorem implValidModel_any
  (s l : Int) (A B C : Option Addr) (n c m d o q : Nat) (f g h : Nat → Nat) (w : World) (hn : n ≤ 1048576) (hm : m ≤ 1048576) (ho : o ≤ 1048576) (hc : n ≤ c ∧ c ≤ 1048576) (hd : m ≤ d ∧ d ≤ 1048576) (hq : o ≤ q ∧ q ≤ 1048576) (hA : Cells w A n (fun i => .float .f32 (f i))) (hB : Cells w B m (fun i => .float .f32 (g i))) (hC : Cells w C o (fun i => .float .f32 (h i)))
  : Calls Try.prog 18 #[.agg #[.int .i64 s, .int .i64 l, .slice A n c, .slice B m d, .slice C o q]] w fun e w' => e = .returned (.bool (validMod s l n m o f g h)) ∧ Below w.heap.size w w' := by
  obtain ⟨hc1, hc2⟩ := hc
  obtain ⟨hd1, hd2⟩ := hd
  obtain ⟨hq1, hq2⟩ := hq
  have HA := Lib.hid hA
  have HB := Lib.hid hB
  have HC := Lib.hid hC
  have HSh := Lib.hid (fun W => shapeOf_any s l (.slice A n c) (.slice B m d) (.slice C o q) W)
  have HLi := Lib.hid (fun W => hasLimits_any s l W)
  clear hA hB hC
  cases hL : (inB s 1 5 && inB l 1 4)
  · have HR := Lib.hid (show validMod s l n m o f g h = false from validMod_not fun k => by
      rw [inB_iff.2 k.1, inB_iff.2 k.2.1] at hL; cases hL)
    rw [hL] at HLi
    clear hL
    generalize validMod s l n m o f g h = r at *
    go_enter Try.func18, Try.ntmps18
    go_wp2_with fail
    refine (HSh.out _).mono ?_
    rintro e w1 ⟨rfl, hb1⟩
    have N1 := Lib.hid (show Below w.heap.size w w1 from Below.trans (by repeat (first | exact Below.refl _ _ | exact Hid.out (by assumption) | refine below_alloc ?_ _ | refine Below.setCell ?_ (by simp <;> omega) _ | refine Below.alloc ?_ (by simp <;> omega) _ | refine Below.drew ?_ | refine below_drewN ?_ _)) (hb1.mono (by simp)))
    have z1 : w.heap.size < w1.heap.size := by have := hb1.size; simp at this; omega
    clear hb1
    go_wp2_with fail
    refine (HLi.out _).mono ?_
    rintro e w2 ⟨rfl, hb2⟩
    have N2 := Lib.hid (N1.out.trans (hb2.mono N1.out.size))
    clear hb2
    go_wp2_with fail
    go_ret
    exact ⟨ret_bool HR.out.symm, N2.out⟩
  · rw [hL] at HLi
    rw [Bool.and_eq_true, inB_iff, inB_iff] at hL
    obtain ⟨⟨s1, s2⟩, l1, l2⟩ := hL
    obtain ⟨S, rfl⟩ : ∃ S : Nat, s = S := ⟨s.toNat, by omega⟩
    obtain ⟨L, rfl⟩ : ∃ L : Nat, l = L := ⟨l.toNat, by omega⟩
    have HV := Lib.hid (validMod_chances (S := S) (L := L) (n := n) (m := m) (o := o) (f := f) (g := g) (h := h) (by omega) (by omega) (by omega) (by omega))
    have H1 := Lib.hid (fun W k => areChances_any A n c f 1 S W hn hc1 hc2 (by omega) (by omega) (by omega) (by omega) k)
    have H2 := Lib.hid (fun W k => areChances_any B m d g S S W hm hd1 hd2 (by omega) (by omega) (by omega) (by omega) k)
    have H3 := Lib.hid (fun W k => areChances_any C o q h S L W ho hq1 hq2 (by omega) (by omega) (by omega) (by omega) k)
    generalize validMod S L n m o f g h = r at *
    generalize chancesB f n 1 S = r1 at *
    generalize chancesB g m S S = r2 at *
    generalize chancesB h o S L = r3 at *
    go_enter Try.func18, Try.ntmps18
    go_wp2_with fail
    refine (HSh.out _).mono ?_
    rintro e w1 ⟨rfl, hb1⟩
    have N1 := Lib.hid (show Below w.heap.size w w1 from Below.trans (by repeat (first | exact Below.refl _ _ | exact Hid.out (by assumption) | refine below_alloc ?_ _ | refine Below.setCell ?_ (by simp <;> omega) _ | refine Below.alloc ?_ (by simp <;> omega) _ | refine Below.drew ?_ | refine below_drewN ?_ _)) (hb1.mono (by simp)))
    have X1 := Lib.hid (Box5.below (Box5.new w 27 (.int .i64 S) (.int .i64 L) (.slice A n c) (.slice B m d) (.slice C o q)) hb1)
    clear hb1
    go_wp2_with fail
    refine (HLi.out _).mono ?_
    rintro e w2 ⟨rfl, hb2⟩
    have N2 := Lib.hid (N1.out.trans (hb2.mono N1.out.size))
    have X2 := Lib.hid (X1.out.below hb2)
    clear hb2
    obtain ⟨x0, x1, x2, x3, x4⟩ := X2.out
    go_wp2_with fail
    refine (H1.out _ (HA.out.below N2.out)).mono ?_
    rintro e w3 ⟨rfl, hb3⟩
    have N3 := Lib.hid (N2.out.trans (hb3.mono N2.out.size))
    have X3 := Lib.hid (X2.out.below hb3)
    clear hb3 x0 x1 x2 x3 x4
    obtain ⟨x0, x1, x2, x3, x4⟩ := X3.out
    cases r1
    · go_wp2_with fail
      go_ret
      exact ⟨ret_bool (by rw [HV.out]; rfl), N3.out⟩
    · go_wp2_with fail
      refine (H2.out _ (HB.out.below N3.out)).mono ?_
      rintro e w4 ⟨rfl, hb4⟩
      have N4 := Lib.hid (N3.out.trans (hb4.mono N3.out.size))
      have X4 := Lib.hid (X3.out.below hb4)
      clear hb4 x0 x1 x2 x3 x4
      obtain ⟨x0, x1, x2, x3, x4⟩ := X4.out
      cases r2
      · go_wp2_with fail
        go_ret
        exact ⟨ret_bool (by rw [HV.out]; rfl), N4.out⟩
      · go_wp2_with fail
        refine (H3.out _ (HC.out.below N4.out)).mono ?_
        rintro e w5 ⟨rfl, hb5⟩
        have N5 := Lib.hid (N4.out.trans (hb5.mono N4.out.size))
        clear hb5 x0 x1 x2 x3 x4
        go_wp2_with fail
        go_ret
        exact ⟨ret_bool (by rw [HV.out]; cases r3 <;> rfl), N5.out⟩

theorem row_slice {S L i o : Nat} (hi : i < S) (ho : o = S * L) : i * L + L ≤ o := by
  rw [ho, ← Nat.succ_mul]; exact Nat.mul_le_mul_right _ hi
set_option maxHeartbeats 2000000 in
theorem l03Is_any (P : Nat)
  (s l : Int) (A B C : Option Addr) (n c m d o q : Nat) (f g h : Nat → Nat) (w : World) (hn : n ≤ 1048576) (hm : m ≤ 1048576) (ho : o ≤ 1048576) (hc : n ≤ c ∧ c ≤ 1048576) (hd : m ≤ d ∧ d ≤ 1048576) (hq : o ≤ q ∧ q ≤ 1048576) (hA : Cells w A n (fun i => .float .f32 (f i))) (hB : Cells w B m (fun i => .float .f32 (g i))) (hC : Cells w C o (fun i => .float .f32 (h i)))
    (b : Box5 w P (.int .i64 s) (.int .i64 l) (.slice A n c) (.slice B m d) (.slice C o q))
  : Calls Try.prog 53 #[.pointer (some ⟨P, 0, none⟩)] w fun e w' => e = .returned (.bool (validMod s l n m o f g h)) ∧ w = w' := by
  obtain ⟨hc1, hc2⟩ := hc
  obtain ⟨hd1, hd2⟩ := hd
  obtain ⟨hq1, hq2⟩ := hq
  obtain ⟨x0, x1, x2, x3, x4⟩ := b
  have HA := Lib.hid hA
  have HB := Lib.hid hB
  have HC := Lib.hid hC
  have HNO := Lib.hid (fun k => validMod_not (s := s) (l := l) (n := n) (m := m) (o := o) (f := f) (g := g) (h := h) k)
  have HI := Lib.hid (validMod_iff (s := s) (l := l) (n := n) (m := m) (o := o) (f := f) (g := g) (h := h))
  clear hA hB hC
  cases hs : inB s 1 5
  · have HR := Lib.hid (HNO.out fun k => by rw [inB_iff.2 k.1] at hs; cases hs)
    have H1 := Lib.hid (l00In_is hs)
    clear hs
    generalize validMod s l n m o f g h = r at *
    go_enter Try.func53, Try.ntmps53
    go_wp2_with fail
    refine (H1.out _).mono ?_
    rintro e w' ⟨rfl, rfl⟩
    go_wp2_with fail
    go_ret
    exact ⟨ret_bool HR.out.symm, rfl⟩
  · obtain ⟨s1, s2⟩ := inB_iff.1 hs
    have H1 := Lib.hid (l00In_is hs)
    clear hs
    cases hl : inB l 1 4
    · have HR := Lib.hid (HNO.out fun k => by rw [inB_iff.2 k.2.1] at hl; cases hl)
      have H2 := Lib.hid (l00In_is hl)
      clear hl
      generalize validMod s l n m o f g h = r at *
      go_enter Try.func53, Try.ntmps53
      go_wp2_with fail
      refine (H1.out _).mono ?_
      rintro e w' ⟨rfl, rfl⟩
      go_wp2_with fail
      refine (H2.out _).mono ?_
      rintro e w' ⟨rfl, rfl⟩
      go_wp2_with fail
      go_ret
      exact ⟨ret_bool HR.out.symm, rfl⟩
    · obtain ⟨l1, l2⟩ := inB_iff.1 hl
      have H2 := Lib.hid (l00In_is hl)
      clear hl
      obtain ⟨S, rfl⟩ : ∃ S : Nat, s = S := ⟨s.toNat, by omega⟩
      obtain ⟨L, rfl⟩ : ∃ L : Nat, l = L := ⟨l.toNat, by omega⟩
      have b1 : S * S ≤ 25 := Nat.mul_le_mul (show S ≤ 5 by omega) (show S ≤ 5 by omega)
      have b2 : S * L ≤ 20 := Nat.mul_le_mul (show S ≤ 5 by omega) (show L ≤ 4 by omega)
      have e1 : (S : Int) * S = ((S * S : Nat) : Int) := (Int.natCast_mul S S).symm
      have e2 : (S : Int) * L = ((S * L : Nat) : Int) := (Int.natCast_mul S L).symm
      have w1 : IntKind.i64.wrap ((S : Int) * S) = (S : Int) * S := by rw [e1, IntKind.wrap_i64]; omega
      have w2 : IntKind.i64.wrap ((S : Int) * L) = (S : Int) * L := by rw [e2, IntKind.wrap_i64]; omega
      have HI2 := Lib.hid (show (n = S ∧ m = S * S ∧ o = S * L ∧ rowB f n = true ∧ ∀ i, i < S → rowB (fun j => g (i * S + j)) S = true ∧ rowB (fun j => h (i * L + j)) L = true) → validMod S L n m o f g h = true from fun k =>
        HI.out.2 ⟨⟨by omega, by omega⟩, ⟨by omega, by omega⟩, by omega, by rw [e1]; omega, by rw [e2]; omega, k.2.2.2.1, k.2.2.2.2⟩)
      have HI3 := Lib.hid (show ¬ (n = S ∧ m = S * S ∧ o = S * L ∧ rowB f n = true ∧ ∀ i, i < S → rowB (fun j => g (i * S + j)) S = true ∧ rowB (fun j => h (i * L + j)) L = true) → validMod S L n m o f g h = false from fun k =>
        HNO.out fun t => k ⟨by have := t.2.2.1; omega, by have := t.2.2.2.1; rw [e1] at this; omega, by have := t.2.2.2.2.1; rw [e2] at this; omega, t.2.2.2.2.2.1, t.2.2.2.2.2.2⟩)
      have E1 := Lib.hid e1
      have E2 := Lib.hid e2
      clear HI HNO e1 e2
      have HLA := Lib.hid (fun W (hz : n ≤ 100) k => l03Row_any A n c f W hz k)
      generalize validMod S L n m o f g h = r at *
      by_cases h3 : n = S
      · by_cases h4 : m = S * S
        · by_cases h5 : o = S * L
          · have d3 : ((n : Int) != (S : Int)) = false := by simp; omega
            have d4 : ((m : Int) != (S : Int) * S) = false := by rw [E1.out]; simp; omega
            have d5 : ((o : Int) != (S : Int) * L) = false := by rw [E2.out]; simp; omega
            have h6n : n ≤ 100 := by omega
            cases h6 : rowB f n
            · have HR := Lib.hid (HI3.out fun k => by rw [h6] at k; cases k.2.2.2.1)
              rw [h6] at HLA
              clear h6 h3 h4 h5
              go_enter Try.func53, Try.ntmps53
              go_wp2_with fail
              refine (H1.out _).mono ?_
              rintro e w' ⟨rfl, rfl⟩
              go_wp2_with fail
              refine (H2.out _).mono ?_
              rintro e w' ⟨rfl, rfl⟩
              go_wp2_with fail
              refine (HLA.out _ h6n HA.out).mono ?_
              rintro e w' ⟨rfl, rfl⟩
              go_wp2_with fail
              go_ret
              exact ⟨ret_bool HR.out.symm, rfl⟩
            · have HY := Lib.hid (fun k => HI2.out ⟨h3, h4, h5, h6, k⟩)
              have HN := Lib.hid (show ∀ i, i < S → ¬ (rowB (fun j => g (i * S + j)) S = true ∧ rowB (fun j => h (i * L + j)) L = true) → r = false from fun i hi k => HI3.out fun t => k (t.2.2.2.2 i hi))
              rw [h6] at HLA
              have H4 := Lib.hid h4
              have H5 := Lib.hid h5
              clear h6 h3 h4 h5 HI2 HI3
              go_enter Try.func53, Try.ntmps53
              go_wp2_with fail
              refine (H1.out _).mono ?_
              rintro e w' ⟨rfl, rfl⟩
              go_wp2_with fail
              refine (H2.out _).mono ?_
              rintro e w' ⟨rfl, rfl⟩
              go_wp2_with fail
              refine (HLA.out _ h6n HA.out).mono ?_
              rintro e w' ⟨rfl, rfl⟩
              go_wp2_with fail
              go_loop [5] (fun i => ∃ k : Nat, k ≤ S ∧ i = .int .i64 k ∧ Hid (∀ j, j < k → rowB (fun t => g (j * S + t)) S = true ∧ rowB (fun t => h (j * L + t)) L = true)) (fun i => S - (intOf i).toNat)
              case atStart => exact ⟨0, Nat.zero_le _, rfl, fun j hj => by omega⟩
              case round =>
                obtain ⟨k, hk, rfl, HP⟩ := hrel
                by_cases hlt : k < S
                · have d6 : (k : Int) < S := by omega
                  have p1 := row_slice (L := S) hlt H4.out
                  have p2 := row_slice (L := L) hlt H5.out
                  obtain ⟨y, rfl, -⟩ := HB.out (k * S) (by omega)
                  obtain ⟨z, rfl, -⟩ := HC.out (k * L) (by omega)
                  have HR1 := Lib.hid (fun W (t : Cells W (some y) m (fun i => .float .f32 (g i))) => l03Row_any (some (y.add (k * S))) S (d - k * S) (fun j => g (k * S + j)) W (by omega) (Cells.part t p1))
                  have HR2 := Lib.hid (fun W (t : Cells W (some z) o (fun i => .float .f32 (h i))) => l03Row_any (some (z.add (k * L))) L (q - k * L) (fun j => h (k * L + j)) W (by omega) (Cells.part t p2))
                  have HNk := Lib.hid (HN.out k hlt)
                  have HPk := Lib.hid (show (rowB (fun t => g (k * S + t)) S = true ∧ rowB (fun t => h (k * L + t)) L = true) → ∀ j, j < k + 1 → rowB (fun t => g (j * S + t)) S = true ∧ rowB (fun t => h (j * L + t)) L = true from fun e j hj => by
                    rcases Nat.lt_or_ge j k with t | t
                    · exact HP.out j t
                    · have : j = k := by omega
                      subst this
                      exact e)
                  have q1 : (k : Int) * S = ((k * S : Nat) : Int) := (Int.natCast_mul k S).symm
                  have q2 : (k : Int) * L = ((k * L : Nat) : Int) := (Int.natCast_mul k L).symm
                  have v1 : IntKind.i64.wrap ((k : Int) * S) = ((k * S : Nat) : Int) := by rw [q1, IntKind.wrap_i64]; omega
                  have v2 : IntKind.i64.wrap ((k : Int) * L) = ((k * L : Nat) : Int) := by rw [q2, IntKind.wrap_i64]; omega
                  clear q1 q2 d3 d4 d5 w1 w2
                  generalize rowB (fun t => g (k * S + t)) S = r1 at *
                  generalize rowB (fun t => h (k * L + t)) L = r2 at *
                  generalize k * S = ks at *
                  generalize k * L = kl at *
                  have f1 : ks + S - ks = S := by omega
                  have f2 : kl + L - kl = L := by omega
                  cases r1
                  · go_wp2_with fail
                    refine (HR1.out _ HB.out).mono ?_
                    rintro e w' ⟨rfl, rfl⟩
                    go_wp2_with fail
                    go_ret
                    exact ⟨ret_bool (HNk.out (fun t => by cases t.1)).symm, rfl⟩
                  · go_wp2_with fail
                    refine (HR1.out _ HB.out).mono ?_
                    rintro e w' ⟨rfl, rfl⟩
                    go_wp2_with fail
                    refine (HR2.out _ HC.out).mono ?_
                    rintro e w' ⟨rfl, rfl⟩
                    cases r2
                    · go_wp2_with fail
                      go_ret
                      exact ⟨ret_bool (HNk.out (fun t => by cases t.2)).symm, rfl⟩
                    · go_wp2_with fail
                      go_round
                      case rel => exact ⟨k + 1, by omega, by go_num, HPk.out (by simp)⟩
                      case measure => simp [intOf]; omega
                · have d6 : ¬ (k : Int) < S := by omega
                  have e : k = S := by omega
                  subst e
                  have HF := Lib.hid (HY.out HP.out)
                  go_wp2_with fail
                  go_ret
                  exact ⟨ret_bool HF.out.symm, rfl⟩
          · have HR := Lib.hid (HI3.out fun k => h5 k.2.2.1)
            have d3 : ((n : Int) != (S : Int)) = false := by simp; omega
            have d4 : ((m : Int) != (S : Int) * S) = false := by rw [E1.out]; simp; omega
            have d5 : ((o : Int) != (S : Int) * L) = true := by rw [E2.out]; simp; omega
            go_enter Try.func53, Try.ntmps53
            go_wp2_with fail
            refine (H1.out _).mono ?_
            rintro e w' ⟨rfl, rfl⟩
            go_wp2_with fail
            refine (H2.out _).mono ?_
            rintro e w' ⟨rfl, rfl⟩
            go_wp2_with fail
            go_ret
            exact ⟨ret_bool HR.out.symm, rfl⟩
        · have HR := Lib.hid (HI3.out fun k => h4 k.2.1)
          have d3 : ((n : Int) != (S : Int)) = false := by simp; omega
          have d4 : ((m : Int) != (S : Int) * S) = true := by rw [E1.out]; simp; omega
          go_enter Try.func53, Try.ntmps53
          go_wp2_with fail
          refine (H1.out _).mono ?_
          rintro e w' ⟨rfl, rfl⟩
          go_wp2_with fail
          refine (H2.out _).mono ?_
          rintro e w' ⟨rfl, rfl⟩
          go_wp2_with fail
          go_ret
          exact ⟨ret_bool HR.out.symm, rfl⟩
      · have HR := Lib.hid (HI3.out fun k => h3 k.1)
        have d3 : ((n : Int) != (S : Int)) = true := by simp; omega
        go_enter Try.func53, Try.ntmps53
        go_wp2_with fail
        refine (H1.out _).mono ?_
        rintro e w' ⟨rfl, rfl⟩
        go_wp2_with fail
        refine (H2.out _).mono ?_
        rintro e w' ⟨rfl, rfl⟩
        go_wp2_with fail
        go_ret
        exact ⟨ret_bool HR.out.symm, rfl⟩

theorem specValidModel_any
  (s l : Int) (A B C : Option Addr) (n c m d o q : Nat) (f g h : Nat → Nat) (w : World) (hn : n ≤ 1048576) (hm : m ≤ 1048576) (ho : o ≤ 1048576) (hc : n ≤ c ∧ c ≤ 1048576) (hd : m ≤ d ∧ d ≤ 1048576) (hq : o ≤ q ∧ q ≤ 1048576) (hA : Cells w A n (fun i => .float .f32 (f i))) (hB : Cells w B m (fun i => .float .f32 (g i))) (hC : Cells w C o (fun i => .float .f32 (h i)))
  : Calls Try.prog 16 #[.agg #[.int .i64 s, .int .i64 l, .slice A n c, .slice B m d, .slice C o q]] w fun e w' => e = .returned (.bool (validMod s l n m o f g h)) ∧ Below w.heap.size w w' := by
  have HA := Lib.hid hA
  have HB := Lib.hid hB
  have HC := Lib.hid hC
  have HP := Lib.hid (fun P W k1 k2 k3 b => l03Is_any P s l A B C n c m d o q f g h W hn hm ho hc hd hq k1 k2 k3 b)
  clear hA hB hC
  go_enter Try.func16, Try.ntmps16
  go_wp2_with fail
  refine (HP.out w.heap.size _ (HA.out.below (by repeat (first | exact Below.refl _ _ | exact Hid.out (by assumption) | refine below_alloc ?_ _ | refine Below.setCell ?_ (by simp <;> omega) _ | refine Below.alloc ?_ (by simp <;> omega) _ | refine Below.drew ?_ | refine below_drewN ?_ _))) (HB.out.below (by repeat (first | exact Below.refl _ _ | exact Hid.out (by assumption) | refine below_alloc ?_ _ | refine Below.setCell ?_ (by simp <;> omega) _ | refine Below.alloc ?_ (by simp <;> omega) _ | refine Below.drew ?_ | refine below_drewN ?_ _))) (HC.out.below (by repeat (first | exact Below.refl _ _ | exact Hid.out (by assumption) | refine below_alloc ?_ _ | refine Below.setCell ?_ (by simp <;> omega) _ | refine Below.alloc ?_ (by simp <;> omega) _ | refine Below.drew ?_ | refine below_drewN ?_ _))) (Box5.new w _ _ _ _ _ _)).mono ?_
  rintro e w' ⟨rfl, rfl⟩
  go_wp2_with fail
  go_ret
  exact ⟨rfl, (by repeat (first | exact Below.refl _ _ | exact Hid.out (by assumption) | refine below_alloc ?_ _ | refine Below.setCell ?_ (by simp <;> omega) _ | refine Below.alloc ?_ (by simp <;> omega) _ | refine Below.drew ?_ | refine below_drewN ?_ _))⟩
end Go.Proofs.Ytikgnpajjbjkcaa
