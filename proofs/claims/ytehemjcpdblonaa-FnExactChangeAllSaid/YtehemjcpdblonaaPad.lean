/- Words with room behind them: impl.padded. -/
import Derived.Test.YtehemjcpdblonaaConc
import Derived.Test.YtehemjcpdblonaaRep
import Derived.Test.YtehemjcpdblonaaBoxN
set_option linter.unusedVariables false
namespace Go.Proofs.Ytehemjcpdblonaa
open Go.RowKit

def padF (f : Nat → Int) (n i : Nat) : Int := if i < n then f i else -1
/-- A row that the call owns, that is not empty. -/
theorem own_some {w : World} {base n : Nat} {e : TypeId} {v : Value} {xs : List Value} (h : w.ownsRow base e 1 v n xs) (hn : 0 < n) :
    ∃ g cap, v = .slice (some ⟨g, 0, none⟩) n cap ∧ n ≤ cap ∧ cap ≤ maxLen ∧ base ≤ g ∧ OwnC w g (some ⟨g, 0, none⟩) n (fun i => xs.getD i undef) := by
  rcases h.2 with ⟨_, h0⟩ | ⟨g, cap, cur, hv, hb, hh, h1, h2, h3, h4⟩
  · omega
  · subst hv
    have := OwnC.made h
    rw [Nat.mul_one] at this
    exact ⟨g, cap, rfl, h1, h2, hb, this.2⟩
theorem cells_slices2 {w : World} {B : Nat} {v0 v1 : Value} {t : TypeId} (h : w.heap.size = B) : Cells (w.alloc (.cells #[v0, v1] t)) (some ⟨B, 0, none⟩) 2 (fun i => if i = 0 then v0 else v1) := fun k hk => by
  subst h
  refine ⟨_, rfl, ?_⟩
  rw [add0]
  rcases (show k = 0 ∨ k = 1 by omega) with rfl | rfl <;> simp [go_sem]
theorem cells_slices3 {w : World} {B : Nat} {v0 v1 v2 : Value} {t : TypeId} (h : w.heap.size = B) : Cells (w.alloc (.cells #[v0, v1, v2] t)) (some ⟨B, 0, none⟩) 3 (fun i => if i = 0 then v0 else if i = 1 then v1 else v2) := fun k hk => by
  subst h
  refine ⟨_, rfl, ?_⟩
  rw [add0]
  rcases (show k = 0 ∨ k = 1 ∨ k = 2 by omega) with rfl | rfl | rfl <;> simp [go_sem]
theorem cells_one {w : World} {B : Nat} {v0 : Value} {t : TypeId} (h : w.heap.size = B) : Cells (w.alloc (.cells #[v0] t)) (some ⟨B, 0, none⟩) 1 (fun _ => v0) := fun k hk => by
  subst h
  obtain rfl : k = 0 := by omega
  exact ⟨_, rfl, by rw [add0]; simp [go_sem]⟩
/-- Two parts, one behind the other. -/
theorem concat2_any (A B : Option Addr) (n m c d b : Nat) (U V : Nat → Value) (w : World) (hn : n + m ≤ 1048576) (hb : w.heap.size = b) (hA : Cells w A n U) (hB : Cells w B m V) (hU : ∀ k, k < n → (U k).oneCell' = true) (hV : ∀ k, k < m → (V k).oneCell' = true) :
    Calls Try.prog 88 #[.slice (some ⟨b, 0, none⟩) 2 2] (w.alloc (.cells #[.slice A n c, .slice B m d] 22)) fun e w' =>
      (∃ v, e = .returned v ∧ w'.ownsRow (b + 1) 2 1 v (n + m) (listV n U ++ listV m V)) ∧ Below w.heap.size w w' := by
  have h := I_any (some ⟨b, 0, none⟩) 2 2 (fun i => if i = 0 then n else m) (fun i => if i = 0 then A else B) (fun i => if i = 0 then c else d) (fun i => if i = 0 then U else V) (w.alloc (.cells #[.slice A n c, .slice B m d] 22)) (by omega)
    (by simp [sumN]; omega) ((cells_slices2 hb).congr fun k hk => by rcases (show k = 0 ∨ k = 1 by omega) with rfl | rfl <;> rfl)
    (fun i hi => by
      rcases (show i = 0 ∨ i = 1 by omega) with rfl | rfl
      · simpa using hA.below ((Below.refl _ _).alloc (Nat.le_refl _) _)
      · simpa using hB.below ((Below.refl _ _).alloc (Nat.le_refl _) _))
    (fun i hi k hk => by
      rcases (show i = 0 ∨ i = 1 by omega) with rfl | rfl
      · simp at hk ⊢; exact hU k hk
      · simp at hk ⊢; exact hV k hk)
  refine h.mono ?_
  rintro e w' ⟨⟨v, rfl, ho⟩, hbl⟩
  refine ⟨⟨v, rfl, ?_⟩, ((Below.refl _ _).alloc (Nat.le_refl _) _).trans (hbl.mono (by simp))⟩
  have e1 : sumN (fun i => if i = 0 then n else m) 2 = n + m := by simp [sumN]
  have e2 : catV (fun i => if i = 0 then n else m) 1 (fun i => if i = 0 then U else V) 2 = listV n U ++ listV m V := by simp [catV]
  rw [e1, e2] at ho
  simpa [hb] using ho
/-- Three parts, one behind the other. -/
theorem concat3_any (A B C : Option Addr) (n m o c d q b : Nat) (U V T : Nat → Value) (w : World) (hn : n + m + o ≤ 1048576) (hb : w.heap.size = b) (hA : Cells w A n U) (hB : Cells w B m V) (hC : Cells w C o T) (hU : ∀ k, k < n → (U k).oneCell' = true) (hV : ∀ k, k < m → (V k).oneCell' = true) (hT : ∀ k, k < o → (T k).oneCell' = true) :
    Calls Try.prog 88 #[.slice (some ⟨b, 0, none⟩) 3 3] (w.alloc (.cells #[.slice A n c, .slice B m d, .slice C o q] 22)) fun e w' =>
      (∃ v, e = .returned v ∧ w'.ownsRow (b + 1) 2 1 v (n + m + o) (listV n U ++ listV m V ++ listV o T)) ∧ Below w.heap.size w w' := by
  have h := I_any (some ⟨b, 0, none⟩) 3 3 (fun i => if i = 0 then n else if i = 1 then m else o) (fun i => if i = 0 then A else if i = 1 then B else C) (fun i => if i = 0 then c else if i = 1 then d else q) (fun i => if i = 0 then U else if i = 1 then V else T) (w.alloc (.cells #[.slice A n c, .slice B m d, .slice C o q] 22)) (by omega)
    (by simp [sumN]; omega) ((cells_slices3 hb).congr fun k hk => by rcases (show k = 0 ∨ k = 1 ∨ k = 2 by omega) with rfl | rfl | rfl <;> rfl)
    (fun i hi => by
      rcases (show i = 0 ∨ i = 1 ∨ i = 2 by omega) with rfl | rfl | rfl
      · simpa using hA.below ((Below.refl _ _).alloc (Nat.le_refl _) _)
      · simpa using hB.below ((Below.refl _ _).alloc (Nat.le_refl _) _)
      · simpa using hC.below ((Below.refl _ _).alloc (Nat.le_refl _) _))
    (fun i hi k hk => by
      rcases (show i = 0 ∨ i = 1 ∨ i = 2 by omega) with rfl | rfl | rfl
      · simp at hk ⊢; exact hU k hk
      · simp at hk ⊢; exact hV k hk
      · simp at hk ⊢; exact hT k hk)
  refine h.mono ?_
  rintro e w' ⟨⟨v, rfl, ho⟩, hbl⟩
  refine ⟨⟨v, rfl, ?_⟩, ((Below.refl _ _).alloc (Nat.le_refl _) _).trans (hbl.mono (by simp))⟩
  have e1 : sumN (fun i => if i = 0 then n else if i = 1 then m else o) 3 = n + m + o := by simp [sumN]
  have e2 : catV (fun i => if i = 0 then n else if i = 1 then m else o) 1 (fun i => if i = 0 then U else if i = 1 then V else T) 3 = listV n U ++ listV m V ++ listV o T := by simp [catV]
  rw [e1, e2] at ho
  simpa [hb] using ho

theorem pad_list (f : Nat → Int) (n : Nat) (i : Nat) (h : i < n + 12) : (listV n (fun i => .int .i64 (f i)) ++ listV 12 (fun _ => .int .i64 (-1))).getD i undef = .int .i64 (padF f n i) := by
  unfold padF
  by_cases hi : i < n
  · rw [if_pos hi, List.getD, List.getElem?_append_left (by rw [listV_len]; omega), listV_get _ hi]
    rfl
  · rw [if_neg hi]
    have : i - n < 12 := by omega
    rw [List.getD, List.getElem?_append_right (by rw [listV_len]; omega), listV_len, listV_get _ this]
    rfl
theorem padded_any (A : Option Addr) (n c : Nat) (f : Nat → Int) (w : World) (hn : n ≤ 1000000) (h : Cells w A n (fun i => .int .i64 (f i))) :
    Calls Try.prog 89 #[.slice A n c] w fun e w' => (∃ g cap, e = .returned (.slice (some ⟨g, 0, none⟩) (n + 12) cap) ∧ n + 12 ≤ cap ∧ cap ≤ maxLen ∧ w.heap.size ≤ g ∧ OwnC w' g (some ⟨g, 0, none⟩) (n + 12) (fun i => .int .i64 (padF f n i))) ∧ Below w.heap.size w w' := by
  have H := Lib.hid h
  have HR := Lib.hid (fun (W : World) (B : Nat) (h1 : W.heap.size = B) => repeat12_any (some ⟨B, 0, none⟩) 1 (-1) (W.alloc (.cells #[.int .i64 (-1)] 2)) (cells_one h1))
  have HC := Lib.hid (fun B (W : World) b k1 k2 k3 => concat2_any A B n 12 c 12 b (fun i => .int .i64 (f i)) (fun _ => .int .i64 (-1)) W (by omega) k1 k2 k3 (fun _ _ => rfl) (fun _ _ => rfl))
  have HP := Lib.hid (pad_list f n)
  clear h
  go_enter Try.func89, Try.ntmps89
  go_wp2_with fail
  refine (HR.out _ _ rfl).mono ?_
  rintro e w1 ⟨rfl, ho, hb⟩
  simp only [World.size_alloc] at ho
  have N1 := Lib.hid (show Below w.heap.size w w1 from Below.trans (by repeat (first | exact Below.refl _ _ | exact Hid.out (by assumption) | refine below_alloc ?_ _ | refine Below.setCell ?_ (by simp <;> omega) _ | refine Below.alloc ?_ (by simp <;> omega) _ | refine Below.drew ?_ | refine below_drewN ?_ _)) (hb.mono (by simp)))
  have O1 := Lib.hid ho
  have hz : w.heap.size + 1 < w1.heap.size := ho.lt (by omega)
  clear ho hb
  go_wp2_with fail
  refine (HC.out _ w1 w1.heap.size rfl (H.out.below N1.out) O1.out.cells).mono ?_
  rintro e w2 ⟨⟨v, rfl, ho⟩, hb⟩
  obtain ⟨g, cap, rfl, q1, q2, q3, q4⟩ := own_some ho (by omega)
  have N2 := Lib.hid (show Below w.heap.size w w2 from N1.out.trans (hb.mono N1.out.size))
  have HQ := Lib.hid (show n + 12 ≤ cap ∧ cap ≤ maxLen ∧ w.heap.size ≤ g ∧ OwnC w2 g (some ⟨g, 0, none⟩) (n + 12) (fun i => .int .i64 (padF f n i)) from ⟨q1, q2, by have := N1.out.size; omega, q4.congr fun i hi => HP.out i hi⟩)
  clear ho hb q1 q2 q3 q4
  go_wp2_with fail
  go_ret
  exact ⟨⟨g, cap, rfl, HQ.out⟩, N2.out⟩
end Go.Proofs.Ytehemjcpdblonaa
