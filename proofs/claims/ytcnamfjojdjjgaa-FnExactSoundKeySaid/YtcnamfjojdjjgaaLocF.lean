/- Alignments of parts: the program's grid. -/
import Derived.Test.YtcnamfjojdjjgaaLocI
import Derived.Test.YtcnamfjojdjjgaaEditS
set_option linter.unusedVariables false
namespace Go.Proofs.Ytcnamfjojdjjgaa
open Go.RowKit
/-- The cells of the grid that are told before those of i and j. -/
def GridKI (w : World) (G S : Nat) (F : Nat → Nat → Int) (i j : Nat) : Prop := ∀ a b, b < S → (a < i ∨ (a = i ∧ b < j)) → w.cell? ⟨G, a * S + b, none⟩ = some (.int .i64 (F a b))
theorem gridKI_of {w : World} {G S M k j : Nat} {V : Nat → Value} {F : Nat → Nat → Int} (h : OwnC w G (some ⟨G, 0, none⟩) M V) (hV : ∀ t, t < k * S + j → V t = .int .i64 (gridI F S t)) (hM : k * S + j ≤ M) : GridKI w G S F k j := by
  intro x y hy hlt
  have hr : x * S + y < k * S + j := by
    rcases hlt with h1 | ⟨h1, h2⟩
    · have : (x + 1) * S ≤ k * S := Nat.mul_le_mul_right _ h1
      rw [Nat.succ_mul] at this
      omega
    · subst h1; omega
  obtain ⟨z, hz, -, -, hc⟩ := h (x * S + y) (by omega)
  cases hz
  rw [add0, hV _ (by omega), gridI_at hy] at hc
  exact hc
def GridResI (a b : ByteArray) (F : Nat → Nat → Int) (w w' : World) (e : Ending) : Prop :=
  ∃ G : Nat, e = .returned (.agg #[.slice (some ⟨G, 0, none⟩) ((a.size + 1) * (b.size + 1)) ((a.size + 1) * (b.size + 1)), .int .i64 ((b.size : Int) + 1)]) ∧ w.heap.size ≤ G ∧ GridKI w' G (b.size + 1) F (a.size + 1) 0 ∧ Below w.heap.size w w'
set_option maxHeartbeats 2000000 in
theorem partGain_all (a b : ByteArray) (sm df op mo : Int) (G i j : Nat) (w : World) (h1 : 0 ≤ sm ∧ sm ≤ 1000) (h2 : 0 ≤ df ∧ df ≤ 1000) (h3 : 0 ≤ mo ∧ mo ≤ 1000) (ha : a.size ≤ 48) (hb : b.size ≤ 48) (hi : i ≤ a.size) (hj : j ≤ b.size) (hg : GridKI w G (b.size + 1) (locE (bx a) (bx b) sm df mo) i j) :
    Calls Try.prog 53 #[.agg #[.string a, .string b, .int .i64 sm, .int .i64 df, .int .i64 op, .int .i64 mo], .agg #[.slice (some ⟨G, 0, none⟩) ((a.size + 1) * (b.size + 1)) ((a.size + 1) * (b.size + 1)), .int .i64 ((b.size : Int) + 1)], .int .i64 i, .int .i64 j] w fun e w' =>
      e = .returned (.int .i64 (locE (bx a) (bx b) sm df mo i j)) ∧ Below w.heap.size w w' := by
  have hN := grid_small ha hb
  have hrow : ∀ (r : Nat), r ≤ a.size → ∀ W, Calls Try.prog 78 #[.agg #[.slice (some ⟨G, 0, none⟩) ((a.size + 1) * (b.size + 1)) ((a.size + 1) * (b.size + 1)), .int .i64 ((b.size + 1 : Nat) : Int)], .int .i64 r] W fun e w' => e = .returned (.slice (some ⟨G, r * (b.size + 1), none⟩) (b.size + 1) (b.size + 1)) ∧ Below W.heap.size W w' :=
    fun r hr W => rowI_any G _ _ r (b.size + 1) W (grid_row hr) (by omega) (by have := grid_row (n := b.size) hr; omega)
  have hbd : ∀ x y, x ≤ 48 → 0 ≤ locE (bx a) (bx b) sm df mo x y ∧ locE (bx a) (bx b) sm df mo x y ≤ 1000000 := fun x y hx => by
    have := locE_bd (x := bx a) (y := bx b) h1 h2 h3 x y
    omega
  rw [show ((b.size : Int) + 1) = ((b.size + 1 : Nat) : Int) by omega]
  cases i with
  | zero =>
    refine (partGain0_any (.int .i64 0) (.int .i64 0) a b sm df op mo G _ _ 0 j w (.inl rfl)).mono fun e w' h => ⟨h.1.trans ?_, h.2⟩
    rw [locE_0j]
  | succ i =>
    cases j with
    | zero =>
      refine (partGain0_any (.int .i64 0) (.int .i64 0) a b sm df op mo G _ _ (i + 1) 0 w (.inr rfl)).mono fun e w' h => ⟨h.1.trans ?_, h.2⟩
      rw [locE_i0]
    | succ j =>
      have hgn := gainP_bd (x := bx a) (y := bx b) h1 h2 i j
      refine (partGain_any a b sm df op mo G _ (b.size + 1) i j ⟨G, i * (b.size + 1), none⟩ ⟨G, (i + 1) * (b.size + 1), none⟩ _ _ _ w (by omega) (by omega) (by omega) (hbd i j (by omega)) (hbd i (j + 1) (by omega)) (hbd (i + 1) j (by omega)) (by omega) (by omega) ha hb (by omega) (by omega)
        (hrow i (by omega)) (by have := hrow (i + 1) (by omega); rwa [Int.natCast_add] at this) (by rw [add_at]; exact hg i j (by omega) (.inl (by omega))) (hg i (j + 1) (by omega) (.inl (by omega))) (by rw [add_at]; exact hg (i + 1) j (by omega) (.inr ⟨rfl, by omega⟩))).mono fun e w' h => ⟨h.1.trans ?_, h.2⟩
      rw [locE_ss]
set_option maxRecDepth 20000 in
set_option maxHeartbeats 4000000 in
theorem filledGridI_any (a b : ByteArray) (sm df op mo : Int) (w : World) (h1 : 0 ≤ sm ∧ sm ≤ 1000) (h2 : 0 ≤ df ∧ df ≤ 1000) (h3 : 0 ≤ mo ∧ mo ≤ 1000) (ha : a.size ≤ 48) (hb : b.size ≤ 48) :
    Calls Try.prog 52 #[.string a, .string b, .func (.func 53) #[.agg #[.string a, .string b, .int .i64 sm, .int .i64 df, .int .i64 op, .int .i64 mo]] #[]] w fun e w' => GridResI a b (locE (bx a) (bx b) sm df mo) w w' e := by
  have h1' := h1
  have h2' := h2
  have h3' := h3
  obtain ⟨i0, hi0, hz0, hs0, hb0⟩ := info_parts infoI64
  obtain ⟨NN, hNN⟩ : ∃ NN, NN = (a.size + 1) * (b.size + 1) := ⟨_, rfl⟩
  have hsm : NN ≤ 2401 := by rw [hNN]; exact grid_small ha hb
  have hwm : IntKind.i64.wrap (((a.size : Int) + 1) * ((b.size : Int) + 1)) = (NN : Int) := by
    have : ((a.size : Int) + 1) * ((b.size : Int) + 1) = (NN : Int) := by rw [hNN, Int.natCast_mul]; rfl
    rw [this, IntKind.wrap_i64]; omega
  have HLE := Lib.hid (fun G i j W h1 h2 h3 => partGain_all a b sm df op mo G i j W h1' h2' h3' ha hb h1 h2 h3)
  have HRo := Lib.hid (fun G r (hr : r ≤ a.size) W => rowI_any G NN NN r (b.size + 1) W (by rw [hNN]; exact grid_row hr) (by omega) (by have := grid_row (n := b.size) hr; rw [← hNN] at this; omega))
  have HGR := Lib.hid (fun i j (hi : i ≤ a.size) (hj : j ≤ b.size) => show i * (b.size + 1) + j < NN by rw [hNN]; exact grid_room hi hj)
  have HN := Lib.hid hNN
  rw [← hNN] at HLE
  clear hNN h1 h2 h3 h1' h2' h3'
  go_enter Try.func52, Try.ntmps52
  go_wp2_with (first
    | (at_make
       refine wpList_make_full _ rfl _ _ 42 rfl (w.heap.size + 1) 2 i0 (.int .i64 0) 1 Try.underlying42 hi0 hz0 hs0 .i64 .i64 _ _ NN rfl rfl rfl rfl (by rw [hb0]; omega) (by unfold maxLen; omega) (by simp) ?_
       intro w0 hown0 hgrow0
       have HO0 := Lib.hid hown0
       have HG0 := Lib.hid hgrow0
       clear hown0 hgrow0))
  have hg0 := HG0.out
  have HOc := Lib.hid (OwnC.made (by have := HO0.out; simp only [World.size_alloc] at this; exact this))
  have hz1 : w.heap.size + 1 ≤ w0.heap.size := by have := hg0.size; simpa using this
  obtain ⟨G, hG⟩ : ∃ G, G = w.heap.size + 1 := ⟨_, rfl⟩
  obtain ⟨GB, hGB⟩ : ∃ GB, GB = w0.heap.size := ⟨_, rfl⟩
  obtain ⟨W, hW⟩ : ∃ W, W = w0.alloc (.cells #[.slice (some ⟨w.heap.size + 1, 0, none⟩) NN NN, .int .i64 ((b.size : Int) + 1)] 70) := ⟨_, rfl⟩
  rw [← hW, ← hGB]
  have HOW : Hid (OwnC W G (some ⟨G, 0, none⟩) (NN * 1) (fun i => (madeCells (Value.int .i64 0).cells (NN * 1)).toList.getD i undef)) := by
    rw [hW, hG]
    exact HOc.out.2.below ((Below.refl _ _).alloc (Nat.le_refl _) _)
  generalize (fun i => (madeCells (Value.int .i64 0).cells (NN * 1)).toList.getD i undef) = V0 at *
  have HFR : Hid (Frm W w.heap.size GB G NN b.size) := by
    have k1 : ∀ i, W.cell? ⟨w.heap.size, i, none⟩ = (w.alloc (.cells #[.slice none 0 0, .int .i64 0] 70)).cell? ⟨w.heap.size, i, none⟩ := fun i => by
      rw [hW, World.cell?_alloc_lt _ _ _ (show w.heap.size < w0.heap.size by omega)]
      exact World.cell?_of_block (a := ⟨w.heap.size, i, none⟩) (hg0.block _ (by simp) (by simp))
    have k2 : ∀ i, W.frozen? ⟨w.heap.size, i, none⟩ = (w.alloc (.cells #[.slice none 0 0, .int .i64 0] 70)).frozen? ⟨w.heap.size, i, none⟩ := fun i => by
      rw [hW, ((Below.refl w0.heap.size w0).alloc (Nat.le_refl _) _).frozen (p := ⟨w.heap.size, i, none⟩) (show w.heap.size < w0.heap.size by omega)]
      exact World.frozen?_of_block (a := ⟨w.heap.size, i, none⟩) (hg0.block _ (by simp) (by simp))
    refine ⟨?_, ⟨by rw [k1]; simp [go_sem], by rw [k1]; simp [go_sem]⟩, by rw [k2]; simp [go_sem], by rw [k2]; simp [go_sem]⟩
    rw [hW, hGB, hG]
    exact ⟨by simp [go_sem], by simp [go_sem]⟩
  have HBW : Hid (Below w.heap.size w W) := by
    rw [hW]
    exact Below.alloc (Below.grown (Below.alloc (Below.refl _ _) (Nat.le_refl _) _) hg0 (by simp) (fun j hj => by cases hj)) (by omega) _
  have hGB2 : G < GB := by have := HOc.out.1; omega
  have hG2 : w.heap.size < G := by omega
  clear hg0 HO0 HG0 HOc hW hGB hz1
  rw [show (⟨w.heap.size + 1, 0, none⟩ : Addr) = ⟨G, 0, none⟩ by rw [hG]]
  clear hG w0
  go_loopw [26] (fun kk wr => ∃ (k : Nat) (V : Nat → Value), k ≤ a.size + 1 ∧ kk = .int .i64 k ∧ Hid (OwnC wr G (some ⟨G, 0, none⟩) (NN * 1) V) ∧ Hid (∀ t, t < k * (b.size + 1) + 0 → V t = .int .i64 (gridI (locE (bx a) (bx b) sm df mo) (b.size + 1) t)) ∧ Hid (Frm wr w.heap.size GB G NN b.size) ∧ Hid (Below w.heap.size w wr)) (fun kk _ => a.size + 1 - (intOf kk).toNat)
  case atStart => exact ⟨0, V0, Nat.zero_le _, rfl, HOW, fun t ht => by omega, HFR, HBW⟩
  case round =>
    obtain ⟨k, V, hk, rfl, HO, HV, HF, HB⟩ := hrel
    clear HOW HFR HBW
    by_cases hlt : k < a.size + 1
    · have d1 : (k : Int) < (a.size : Int) + 1 := by omega
      obtain ⟨xr, hxr⟩ : ∃ xr : Addr, xr = ⟨G, k * (b.size + 1), none⟩ := ⟨_, rfl⟩
      have HRk := Lib.hid (fun W => HRo.out G k (by omega) W)
      rw [← hxr] at HRk
      have HX := Lib.hid hxr
      clear hxr
      have HRk2 := Lib.hid (show ∀ W, Calls Try.prog 78 #[.agg #[.slice (some ⟨G, 0, none⟩) NN NN, .int .i64 ((b.size : Int) + 1)], .int .i64 k] W fun e w' => e = .returned (.slice (some xr) (b.size + 1) (b.size + 1)) ∧ Below W.heap.size W w' from fun W => by have := HRk.out W; rwa [Int.natCast_add] at this)
      clear HRk
      obtain ⟨⟨g0, g1⟩, ⟨z0, z1⟩, f0, f1⟩ := HF.out
      go_wp2_with (first
        | (go_at_call 78
           refine (HRk2.out _).mono ?_
           rintro e u1 ⟨rfl, hb⟩
           have PU := Lib.hid hb
           clear hb))
      have HO1 := Lib.hid (HO.out.below PU.out)
      have HF1 := Lib.hid (HF.out.below PU.out)
      have HB1 := Lib.hid (HB.out.trans (PU.out.mono HB.out.size))
      clear HO HF HB PU g0 g1 z0 z1 f0 f1
      go_loopw [34] (fun jj wr => ∃ (j : Nat) (V : Nat → Value), j ≤ b.size + 1 ∧ jj = .int .i64 j ∧ Hid (OwnC wr G (some ⟨G, 0, none⟩) (NN * 1) V) ∧ Hid (∀ t, t < k * (b.size + 1) + j → V t = .int .i64 (gridI (locE (bx a) (bx b) sm df mo) (b.size + 1) t)) ∧ Hid (Frm wr w.heap.size GB G NN b.size) ∧ Hid (Below w.heap.size w wr)) (fun jj _ => b.size + 1 - (intOf jj).toNat)
      case atStart => exact ⟨0, V, Nat.zero_le _, rfl, HO1, HV, HF1, HB1⟩
      case round =>
        obtain ⟨j, V2, hj, rfl, HO2, HV2, HF2, HB2⟩ := hrel
        clear HO1 HF1 HB1 HV
        obtain ⟨⟨g0, g1⟩, -, -, -⟩ := HF2.out
        by_cases hlt2 : j < b.size + 1
        · have d2 : (j : Int) < (b.size : Int) + 1 := by omega
          have hr := HGR.out k j (by omega) (by omega)
          have HA := Lib.hid (show xr.add j = ⟨G, k * (b.size + 1) + j, none⟩ by rw [HX.out, add_at])
          have HEk := Lib.hid (fun W h => HLE.out G k j W (by omega) (by omega) h)
          have HGV := Lib.hid (show gridI (locE (bx a) (bx b) sm df mo) (b.size + 1) (k * (b.size + 1) + j) = locE (bx a) (bx b) sm df mo k j by rw [gridI_at hlt2])
          generalize locE (bx a) (bx b) sm df mo k j = ee at *
          have HR2 := Lib.hid (show k * (b.size + 1) + j < NN * 1 by omega)
          clear hr
          generalize hrr : k * (b.size + 1) + j = r at *
          have HRR := Lib.hid hrr
          clear hrr
          go_wp2_with (first
            | (go_at_call 53
               refine (HEk.out _ (gridKI_of HO2.out (by rw [HRR.out]; exact HV2.out) (by rw [HRR.out]; have := HR2.out; omega))).mono ?_
               rintro e u2 ⟨rfl, hb⟩
               have PU := Lib.hid hb
               have HO3 := Lib.hid (HO2.out.below hb)
               obtain ⟨c0, fr0⟩ : (∃ v, u2.cell? (xr.add j) = some v) ∧ u2.frozen? (xr.add j) = false := by
                 obtain ⟨z, hz, -, hf, hc⟩ := HO3.out r HR2.out
                 cases hz
                 rw [add0] at hf hc
                 rw [HA.out]
                 exact ⟨⟨_, hc⟩, hf⟩
               obtain ⟨o0, c0⟩ := c0
               clear hb))
          have hxb : (xr.add j).block = G := by rw [HA.out]
          refine ⟨⟨j + 1, (fun i => if i = r then .int .i64 ee else V2 i), by omega, by simp, ?_, ?_, (HF2.out.below PU.out).set hxb (by omega) (by omega) _, (HB2.out.trans (PU.out.mono HB2.out.size)).setCell (by rw [hxb]; omega) _⟩, by simp [intOf]; omega⟩
          · have := OwnC.set HO3.out rfl HR2.out (.int .i64 ee)
            rw [add0] at this
            rw [HA.out]
            exact this
          · intro t ht
            show (if t = r then Value.int .i64 ee else V2 t) = _
            by_cases h : t = r
            · rw [if_pos h, h, HGV.out]
            · rw [if_neg h]
              exact HV2.out t (by have := HRR.out; omega)
        · have d2 : ¬ (j : Int) < (b.size : Int) + 1 := by omega
          obtain rfl : j = b.size + 1 := by omega
          go_wp2_with fail
          exact ⟨⟨k + 1, V2, by omega, by simp, HO2, fun t ht => HV2.out t (by rw [Nat.succ_mul] at ht; omega), HF2, HB2⟩, by simp [intOf]; omega⟩
    · have d1 : ¬ (k : Int) < (a.size : Int) + 1 := by omega
      obtain rfl : k = a.size + 1 := by omega
      obtain ⟨⟨g0, g1⟩, ⟨z0, z1⟩, f0, f1⟩ := HF.out
      have HK := Lib.hid (gridKI_of (k := a.size + 1) (j := 0) HO.out HV.out (by rw [HN.out]; omega))
      go_wp2_with fail
      refine bodyPost_ret (v := .agg #[.slice (some ⟨G, 0, none⟩) NN NN, .int .i64 ((b.size : Int) + 1)]) (by simp [results, Try.results52, World.cell?_setCell_other, go_sem, z0, z1]) rfl ⟨G, by rw [HN.out], by omega, ?_, (HB.out.setCell (by simp) _).setCell (by simp) _⟩
      intro x y hy hlt
      have h1 := HK.out x y hy hlt
      have e : ∀ (W : World) (i j : Nat) (v : Value), (W.setCell ⟨w.heap.size, i, none⟩ v).cell? ⟨G, j, none⟩ = W.cell? ⟨G, j, none⟩ := fun W i j v => World.cell?_setCell_other _ _ _ _ (fun q => by have := congrArg Addr.block q; simp at this; omega)
      rw [e, e]; exact h1
end Go.Proofs.Ytcnamfjojdjjgaa
