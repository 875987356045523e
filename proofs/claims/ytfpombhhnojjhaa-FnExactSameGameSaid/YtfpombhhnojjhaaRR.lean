/- Rows of rows of numbers: measured, copied, compared. -/
import Derived.Test.YtfpombhhnojjhaaOwn
import Derived.Test.YtfpombhhnojjhaaStep
set_option linter.unusedVariables false
set_option linter.unusedSimpArgs false
namespace Go.Proofs.Ytfpombhhnojjhaa
open Go.RowKit
/-- The slice at A shows o rows of numbers. -/
structure RRows (w : World) (A : Option Addr) (o : Nat) (P : Nat → Option Addr) (L K : Nat → Nat) (F : Nat → Nat → Int) : Prop where
  top : Cells w A o (fun i => .slice (P i) (L i) (K i))
  row : ∀ i, i < o → Cells w (P i) (L i) (fun j => .int .i64 (F i j))
theorem RRows.below {w w' : World} {A : Option Addr} {o : Nat} {P : Nat → Option Addr} {L K : Nat → Nat} {F : Nat → Nat → Int} (h : RRows w A o P L K F) (b : Below w.heap.size w w') : RRows w' A o P L K F :=
  ⟨h.top.below b, fun i hi => (h.row i hi).below b⟩
/-- Rows of the call's own: the upper one in block g, those in it in blocks G. -/
structure ORows (w : World) (g : Nat) (A : Option Addr) (o : Nat) (G : Nat → Nat) (L : Nat → Nat) (F : Nat → Nat → Int) : Prop where
  top : OwnC w g A o (fun i => .slice (some ⟨G i, 0, none⟩) (L i) (L i))
  row : ∀ i, i < o → OwnC w (G i) (some ⟨G i, 0, none⟩) (L i) (fun j => .int .i64 (F i j))
  gt : ∀ i, i < o → g < G i
  lt : ∀ i, i < o → G i < w.heap.size
  mono : ∀ i j, i < j → j < o → G i < G j
theorem ORows.rows {w : World} {g : Nat} {A : Option Addr} {o : Nat} {G L : Nat → Nat} {F : Nat → Nat → Int} (h : ORows w g A o G L F) : RRows w A o (fun i => some ⟨G i, 0, none⟩) L L F :=
  ⟨h.top.cells, fun i hi => (h.row i hi).cells⟩
theorem ORows.cells {w : World} {g : Nat} {A : Option Addr} {o : Nat} {G L : Nat → Nat} {F : Nat → Nat → Int} (h : ORows w g A o G L F) : RRows w A o (fun i => some ⟨G i, 0, none⟩) L L F := h.rows
theorem ORows.below {w w' : World} {g : Nat} {A : Option Addr} {o : Nat} {G L : Nat → Nat} {F : Nat → Nat → Int} (h : ORows w g A o G L F) (b : Below w.heap.size w w') : ORows w' g A o G L F :=
  ⟨h.top.below b, fun i hi => (h.row i hi).below b, h.gt, fun i hi => Nat.lt_of_lt_of_le (h.lt i hi) b.size, h.mono⟩
/-- How many numbers the first k rows have. -/
def sumN (L : Nat → Nat) : Nat → Nat
  | 0 => 0
  | k + 1 => sumN L k + L k
theorem sumN_succ (L : Nat → Nat) (k : Nat) : sumN L (k + 1) = sumN L k + L k := rfl
theorem sumN_le (L : Nat → Nat) : ∀ {k o : Nat}, k ≤ o → sumN L k ≤ sumN L o := fun {k o} h => by
  induction h with
  | refl => exact Nat.le_refl _
  | step h ih => exact Nat.le_trans ih (by rw [sumN_succ]; omega)
theorem row_le_sum (L : Nat → Nat) {k o : Nat} (h : k < o) : L k ≤ sumN L o := by
  have := sumN_le L (show k + 1 ≤ o from h)
  rw [sumN_succ] at this
  omega
theorem own_keep' {w w' : World} {base : Nat} {e : TypeId} {size : Nat} {v : Value} {n : Nat} {xs : List Value} (h : w.ownsRow base e size v n xs) (b : Below w.heap.size w w') : w'.ownsRow base e size v n xs :=
  h.kept (row := none) ⟨b.os, b.tape, b.output, b.size, fun k hk _ => b.block k hk⟩ (by
    cases hv : v.ownBlock
    · exact .inl rfl
    · exact .inr (by simp))
theorem szII_yes (A : Option Addr) (o c : Nat) (P : Nat → Option Addr) (L K : Nat → Nat) (F : Nat → Nat → Int) (T : Int) (w : World) (hT : T ≤ 1048576) (h : (o : Int) + sumN L o ≤ T) (hA : RRows w A o P L K F) :
    Calls Try.prog 91 #[.slice A o c, .int .i64 T] w fun e w' => e = .returned (.int .i64 (T - o - sumN L o)) ∧ w = w' := by
  have HA := Lib.hid hA.top
  have HS := Lib.hid (fun k (hk : k < o) => sumN_le L (show k + 1 ≤ o from hk))
  have HSS := Lib.hid (fun k => sumN_succ L k)
  have d0 : ¬ T - (o : Int) < 0 := by omega
  clear hA
  generalize hS : sumN L o = S at *
  go_enter Try.func91, Try.ntmps91
  go_wp2_with fail
  go_loop [1, 5] (fun tv kv => ∃ k : Nat, k ≤ o ∧ kv = .int .i64 k ∧ tv = .int .i64 (T - o - sumN L k)) (fun _ kv => o - (intOf kv).toNat)
  case atStart => exact ⟨0, Nat.zero_le _, rfl, by simp [sumN]⟩
  case round =>
    obtain ⟨k, hk, rfl, rfl⟩ := hrel
    by_cases hlt : k < o
    · have d1 : (k : Int) < o := by omega
      obtain ⟨x, rfl, hx0⟩ := HA.out k hlt
      have hx : w.cell? (x.add k) = some (.slice (P k) (L k) (K k)) := hx0
      have h1 := HS.out k hlt
      rw [HSS.out] at h1
      have HN := Lib.hid (HSS.out k)
      clear hx0 HSS HS
      generalize sumN L k = Sk at *
      generalize L k = lk at *
      have d2 : ¬ T - (o : Int) - Sk - lk < 0 := by omega
      go_wp2
      refine ⟨⟨k + 1, by omega, by simp, by rw [HN.out]; congr 1; simp; omega⟩, by simp [intOf]; omega⟩
    · have d1 : ¬ (k : Int) < o := by omega
      obtain rfl : o = k := by omega
      rw [hS]
      go_wp2_with fail
      go_ret
      exact ⟨rfl, rfl⟩
theorem szII_no (A : Option Addr) (o c : Nat) (P : Nat → Option Addr) (L K : Nat → Nat) (F : Nat → Nat → Int) (T : Int) (w : World) (hT0 : 0 ≤ T) (hT : T ≤ 1048576) (ho : o ≤ 9223372036854775807) (hL : ∀ i, i < o → L i ≤ 9223372036854775807) (h : ¬ (o : Int) + sumN L o ≤ T) (hA : RRows w A o P L K F) :
    Calls Try.prog 91 #[.slice A o c, .int .i64 T] w fun e w' => e = .returned (.int .i64 (-1)) ∧ w = w' := by
  by_cases h0 : (o : Int) ≤ T
  rotate_left
  · have d0 : T - (o : Int) < 0 := by omega
    go_enter Try.func91, Try.ntmps91
    go_wp2_with fail
    go_ret
    exact ⟨rfl, rfl⟩
  have d0 : ¬ T - (o : Int) < 0 := by omega
  have HA := Lib.hid hA.top
  have HSS := Lib.hid (fun k => sumN_succ L k)
  have HL := Lib.hid hL
  have HO := Lib.hid (show sumN L o ≤ 1048576 → T < (o : Int) + sumN L o from fun _ => by omega)
  have HO2 := Lib.hid h
  clear hA hL h
  go_enter Try.func91, Try.ntmps91
  go_wp2_with fail
  go_loop [1, 5] (fun tv kv => ∃ k : Nat, k ≤ o ∧ kv = .int .i64 k ∧ tv = .int .i64 (T - o - sumN L k) ∧ Hid ((o : Int) + sumN L k ≤ T)) (fun _ kv => o - (intOf kv).toNat)
  case atStart => exact ⟨0, Nat.zero_le _, rfl, by simp [sumN], Lib.hid (by simp [sumN]; omega)⟩
  case round =>
    obtain ⟨k, hk, rfl, rfl, HK⟩ := hrel
    by_cases hlt : k < o
    · have d1 : (k : Int) < o := by omega
      obtain ⟨x, rfl, hx0⟩ := HA.out k hlt
      have hx : w.cell? (x.add k) = some (.slice (P k) (L k) (K k)) := hx0
      have HN := Lib.hid (HSS.out k)
      have hl := HL.out k hlt
      have hkk := HK.out
      clear hx0 HSS HL HO HO2 HK
      generalize sumN L k = Sk at *
      generalize L k = lk at *
      by_cases hq : T - (o : Int) - Sk - lk < 0
      · go_wp2
        go_ret
        exact ⟨rfl, rfl⟩
      · go_wp2
        refine ⟨⟨k + 1, by omega, by simp, by rw [HN.out]; congr 1; simp; omega, Lib.hid (by rw [HN.out]; simp; omega)⟩, by simp [intOf]; omega⟩
    · have d1 : ¬ (k : Int) < o := by omega
      obtain rfl : o = k := by omega
      exact absurd HK.out (by have := HO2.out; omega)
theorem infoRR : (Try.prog.info? 22).map (fun i => (i.zero, i.size, i.bytes)) = some (some (.slice none 0 0), 1, 24) := by kernel_rfl
set_option maxHeartbeats 4000000 in
theorem toII_any (A : Option Addr) (o c : Nat) (P : Nat → Option Addr) (L K : Nat → Nat) (F : Nat → Nat → Int) (w : World) (ho : o ≤ 1048576) (hL : ∀ i, i < o → L i ≤ 1048576) (hA : RRows w A o P L K F) :
    Calls Try.prog 93 #[.slice A o c] w fun e w' => e = .returned (.slice (some ⟨w.heap.size, 0, none⟩) o o) ∧ w.heap.size < w'.heap.size ∧ (∃ G : Nat → Nat, ORows w' w.heap.size (some ⟨w.heap.size, 0, none⟩) o G L F) ∧ Below w.heap.size w w' := by
  obtain ⟨i, hi, hz, hs, hb⟩ := info_parts infoRR
  have HA := Lib.hid hA
  have HL := Lib.hid hL
  clear hA hL
  go_enter Try.func93, Try.ntmps93
  go_wp2_with (first
    | (at_make; refine wpList_make_full _ rfl _ _ 43 rfl w.heap.size 22 i (.slice none 0 0) 1 Try.underlying43 hi hz hs .i64 .i64 _ _ o rfl rfl rfl rfl (by rw [hb]; omega) (by unfold maxLen; omega) (Nat.le_refl _) ?_; intro w0 hown0 hgrow0)
    | fail)
  have HB0 := Lib.hid ((Below.refl w.heap.size w).grown hgrow0 (Nat.le_refl _) (fun _ h => by cases h))
  go_loopw [4] (fun r wr => ∃ (k : Nat) (xs : List Value) (G : Nat → Nat), k ≤ o ∧ r = .int .i64 k ∧ wr.ownsRow w.heap.size 22 1 (.slice (some ⟨w.heap.size, 0, none⟩) o o) o xs ∧ Hid (Below w.heap.size w wr) ∧ Hid (∀ i, i < k → xs[i]? = some (.slice (some ⟨G i, 0, none⟩) (L i) (L i)) ∧ w.heap.size < G i ∧ G i < wr.heap.size ∧ OwnC wr (G i) (some ⟨G i, 0, none⟩) (L i) (fun j => .int .i64 (F i j))) ∧ Hid (∀ i j, i < j → j < k → G i < G j)) (fun r _ => o - (intOf r).toNat)
  case atStart => exact ⟨0, _, fun _ => 0, Nat.zero_le _, rfl, hown0, HB0, fun i hi => by omega, fun i j _ hj => by omega⟩
  case round =>
    obtain ⟨k, xs, G, hk, rfl, hown, HB, HP, HM⟩ := hrel
    have hxl : xs.length = o := by have := hown.1; omega
    have hblk : w.heap.size < wr.heap.size := by
      rcases hown.2 with ⟨h', _⟩ | ⟨g', cap', cur, h', _, hg, _⟩
      · cases h'
      · simp only [Value.slice.injEq, Option.some.injEq, Addr.mk.injEq, and_true] at h'
        rw [h'.1]
        exact (Array.getElem?_eq_some_iff.1 hg).1
    by_cases hlt : k < o
    · have d1 : (k : Int) < o := by omega
      obtain ⟨x, rfl, hx0⟩ := (HA.out.below HB.out).top k hlt
      have hx : wr.cell? (x.add k) = some (.slice (P k) (L k) (K k)) := hx0
      have HC := Lib.hid (fun W h => toI_any (P k) (L k) (K k) (F k) W (HL.out k hlt) h)
      have HR := Lib.hid (HA.out.row k hlt)
      have HO := Lib.hid hown
      clear hx0 hown
      go_wp2_with fail
      refine (HC.out _ ((HR.out.below HB.out).below (by repeat (first | with_reducible exact Below.refl _ _ | exact Hid.out (by with_reducible assumption) | refine Below.setCell ?_ (by simp <;> omega) _ | refine below_alloc ?_ _ | refine Below.alloc ?_ (by simp <;> omega) _ | refine Below.drew ?_ | refine below_drewN ?_ _ | exact Below.refl _ _)))).mono ?_
      rintro e w1 ⟨rfl, hs1, ho1, hb1⟩
      have hown1 := own_keep' HO.out hb1
      obtain ⟨old, hcg⟩ : ∃ old, w1.cell? ⟨w.heap.size, k, none⟩ = some old := ⟨xs[k]'(by omega), by
        rw [hown1.cellAt k (by omega)]
        exact List.getElem?_eq_getElem (by omega)⟩
      have hfg : w1.frozen? ⟨w.heap.size, k, none⟩ = false := hown1.frozenAt k
      have hst := Lib.hid (hown1.stored k (.slice (some ⟨wr.heap.size, 0, none⟩) (L k) (L k)))
      have HB1 := Lib.hid (show Below w.heap.size w w1 from HB.out.trans (hb1.mono HB.out.size))
      have HO1 := Lib.hid ho1
      have HS1 := Lib.hid hs1
      have HBB := Lib.hid hb1
      clear hown1 ho1 hb1 hs1
      go_wp2_with fail
      refine ⟨⟨k + 1, xs.set k (.slice (some ⟨wr.heap.size, 0, none⟩) (L k) (L k)), fun j => if j = k then wr.heap.size else G j, by omega, by simp, hst.out.1, Lib.hid (HB1.out.grown hst.out.2 HB1.out.size (fun _ h => by cases h; exact Nat.le_refl _)), Lib.hid (fun i hi => ?_), Lib.hid (fun i j hij hj => ?_)⟩, by simp [intOf]; omega⟩
      · have hfar : ∀ (g n : Nat) (V : Nat → Value) (A : Option Addr), w.heap.size < g → OwnC w1 g A n V → OwnC (w1.setCell ⟨w.heap.size, k, none⟩ (.slice (some ⟨wr.heap.size, 0, none⟩) (L k) (L k))) g A n V := fun g n V A h1 h2 =>
          h2.within (lo := w.heap.size) (hi := w.heap.size + 1) (Within.setCell w1 (p := ⟨w.heap.size, k, none⟩) (Nat.le_refl _) (Nat.lt_succ_self _) _) (fun _ => .inr (by omega))
        by_cases e : i = k
        · subst e
          simp only [if_true]
          refine ⟨?_, hblk, by simpa using HS1.out, hfar _ _ _ _ hblk HO1.out⟩
          simp [hxl, hlt]
        · simp only [if_neg e]
          obtain ⟨q1, q2, q3, q4⟩ := HP.out i (by omega)
          refine ⟨?_, q2, ?_, hfar _ _ _ _ q2 (q4.below HBB.out)⟩
          · rw [List.getElem?_set_ne (by omega)]
            exact q1
          · have := HS1.out
            simp
            omega
      · by_cases e : j = k
        · subst e
          have hik : ¬ i = j := by omega
          simp only [if_true, if_neg hik]
          exact (HP.out i (by omega)).2.2.1
        · have hik : ¬ i = k := by omega
          simp only [if_neg e, if_neg hik]
          exact HM.out i j hij (by omega)
    · have d1 : ¬ (k : Int) < o := by omega
      obtain rfl : o = k := by omega
      have HG := Lib.hid (show ORows wr w.heap.size (some ⟨w.heap.size, 0, none⟩) o G L F from
        ⟨fun i hi => ⟨_, rfl, rfl, by rw [add0]; exact hown.frozenAt i, by rw [add0, hown.cellAt i (by omega)]; exact (HP.out i hi).1⟩,
          fun i hi => (HP.out i hi).2.2.2, fun i hi => (HP.out i hi).2.1, fun i hi => (HP.out i hi).2.2.1, HM.out⟩)
      clear hown HP HM
      go_wp2_with fail
      go_ret
      exact ⟨rfl, hblk, ⟨G, HG.out⟩, HB.out⟩
theorem eqII_any (A B : Option Addr) (o c d : Nat) (P Q : Nat → Option Addr) (L K M : Nat → Nat) (F : Nat → Nat → Int) (w : World) (ho : o ≤ 4611686018427387904) (hL : ∀ i, i < o → L i ≤ 4611686018427387904) (hA : RRows w A o P L K F) (hB : RRows w B o Q L M F) :
    Calls Try.prog 99 #[.slice A o c, .slice B o d] w fun e w' => e = .returned (.bool true) ∧ ∃ q, w' = w.drewN q := by
  have HA := Lib.hid hA
  have HB := Lib.hid hB
  have HL := Lib.hid hL
  clear hA hB hL
  go_enter Try.func99, Try.ntmps99
  go_wp2_with fail
  go_loopw [5] (fun r wr => ∃ k q : Nat, k ≤ o ∧ r = .int .i64 k ∧ Hid (wr = w.drewN q)) (fun r _ => o - (intOf r).toNat)
  case atStart => exact ⟨0, 0, Nat.zero_le _, rfl, rfl⟩
  case round =>
    obtain ⟨k, q, hk, rfl, hw⟩ := hrel
    by_cases hlt : k < o
    · have d1 : (k : Int) < o := by omega
      obtain ⟨x, rfl, hx0⟩ := HA.out.top k hlt
      obtain ⟨y, rfl, hy0⟩ := HB.out.top k hlt
      have hx : wr.cell? (x.add k) = some (.slice (P k) (L k) (K k)) := by rw [hw.out]; exact hx0
      have hy : wr.cell? (y.add k) = some (.slice (Q k) (L k) (M k)) := by rw [hw.out]; exact hy0
      have HE := Lib.hid (fun q => eqI_any (P k) (Q k) (L k) (K k) (M k) (F k) (wr.drewN q) (HL.out k hlt) (by rw [hw.out, World.drewN_drewN]; exact fun j hj => HA.out.row k hlt j hj) (by rw [hw.out, World.drewN_drewN]; exact fun j hj => HB.out.row k hlt j hj))
      clear hx0 hy0
      go_wp2_with fail
      go_quiet (exact Calls.quiet_of (HE.out _))
      go_wp2_with fail
      exact ⟨⟨k + 1, q + nq, by omega, by simp, by rw [hw.out]; exact World.drewN_drewN ..⟩, by simp [intOf]; omega⟩
    · have d1 : ¬ (k : Int) < o := by omega
      go_wp2_with fail
      go_ret
      exact ⟨rfl, _, hw.out⟩
end Go.Proofs.Ytfpombhhnojjhaa
