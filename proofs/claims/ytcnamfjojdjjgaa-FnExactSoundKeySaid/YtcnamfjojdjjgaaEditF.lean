/- Least edits: the program's grid, filled. -/
import Derived.Test.YtcnamfjojdjjgaaEditG
set_option linter.unusedVariables false
namespace Go.Proofs.Ytcnamfjojdjjgaa
open Go.RowKit
theorem offC_even (q : Nat → Nat × Int) (r : Nat) : offC q (r * 2) = .int .u8 (q r).1 := by
  unfold offC; rw [if_pos (by omega)]; rw [show r * 2 / 2 = r by omega]
theorem offC_odd (q : Nat → Nat × Int) (r : Nat) : offC q (r * 2 + 1) = .int .i64 (q r).2 := by
  unfold offC; rw [if_neg (by omega)]; rw [show (r * 2 + 1) / 2 = r by omega]
/-- A grid's cells, row behind row. -/
def gridV (E : Nat → Nat → Nat × Int) (S r : Nat) : Nat × Int := E (r / S) (r % S)
theorem gridV_at {E : Nat → Nat → Nat × Int} {S x y : Nat} (hy : y < S) : gridV E S (x * S + y) = E x y := by
  unfold gridV
  rw [Nat.add_comm, Nat.add_mul_div_right _ _ (by omega), Nat.div_eq_of_lt hy, Nat.zero_add, Nat.add_mul_mod_self_right, Nat.mod_eq_of_lt hy]
theorem gridK_of {w : World} {G S M k j : Nat} {V : Nat → Value} {E : Nat → Nat → Nat × Int} (h : OwnC w G (some ⟨G, 0, none⟩) M V) (hV : ∀ t, t < (k * S + j) * 2 → V t = offC (gridV E S) t) (hM : (k * S + j) * 2 ≤ M) : GridK w G S E k j := by
  intro x y hy hlt
  have hr : x * S + y < k * S + j := by
    rcases hlt with h1 | ⟨h1, h2⟩
    · have : (x + 1) * S ≤ k * S := Nat.mul_le_mul_right _ h1
      rw [Nat.succ_mul] at this
      omega
    · subst h1; omega
  constructor
  · obtain ⟨z, hz, -, -, hc⟩ := h ((x * S + y) * 2) (by omega)
    cases hz
    rw [add0, hV _ (by omega), offC_even, gridV_at hy] at hc
    exact hc
  · obtain ⟨z, hz, -, -, hc⟩ := h ((x * S + y) * 2 + 1) (by omega)
    cases hz
    rw [add0, hV _ (by omega), offC_odd, gridV_at hy] at hc
    exact hc
def set2 (V : Nat → Value) (t : Nat) (v0 v1 : Value) (i : Nat) : Value := if i = t + 1 then v1 else if i = t then v0 else V i
theorem OwnC.set2 {w : World} {G M t : Nat} {V : Nat → Value} {x : Addr} (h : OwnC w G (some ⟨G, 0, none⟩) M V) (hx : x = ⟨G, t, none⟩) (ht : t + 2 ≤ M) (v0 v1 : Value) :
    OwnC ((w.setCell x v0).setCell ⟨x.block, x.off + 1, none⟩ v1) G (some ⟨G, 0, none⟩) M (Go.Proofs.Ytcnamfjojdjjgaa.set2 V t v0 v1) := by
  subst hx
  have a1 := OwnC.set h rfl (k := t) (by omega) v0
  have a2 := OwnC.set a1 rfl (k := t + 1) (by omega) v1
  rw [add0, add0] at a2
  exact a2
theorem set2_offC {V : Nat → Value} {E : Nat → Nat → Nat × Int} {S r : Nat} {st : Nat} {u : Int} (hV : ∀ t, t < r * 2 → V t = offC (gridV E S) t) (he : gridV E S r = (st, u)) : ∀ t, t < (r + 1) * 2 → set2 V (r * 2) (.int .u8 st) (.int .i64 u) t = offC (gridV E S) t := by
  intro t ht
  unfold set2
  by_cases h1 : t = r * 2 + 1
  · rw [if_pos h1, h1, offC_odd, he]
  · rw [if_neg h1]
    by_cases h2 : t = r * 2
    · rw [if_pos h2, h2, offC_even, he]
    · rw [if_neg h2]
      exact hV t (by omega)
/-- A call's result is the grid of all edits. -/
def GridRes (a b : ByteArray) (p o c s : Int) (w w' : World) (e : Ending) : Prop :=
  ∃ G : Nat, e = .returned (.agg #[.slice (some ⟨G, 0, none⟩) ((a.size + 1) * (b.size + 1)) ((a.size + 1) * (b.size + 1)), .int .i64 ((b.size : Int) + 1)]) ∧ w.heap.size ≤ G ∧ GridK w' G (b.size + 1) (editE (bx a) (bx b) p o c s) (a.size + 1) 0 ∧ Below w.heap.size w w'
/-- What else the walk knows of the world: the grid's own variable, the result's. -/
structure Frm (W : World) (B GB G NN n : Nat) : Prop where
  g : Box2 W GB (.slice (some ⟨G, 0, none⟩) NN NN) (.int .i64 ((n : Int) + 1))
  r : Box2 W B (.slice none 0 0) (.int .i64 0)
  f0 : W.frozen? ⟨B, 0, none⟩ = false
  f1 : W.frozen? ⟨B, 1, none⟩ = false
theorem Frm.below {W W' : World} {B GB G NN n : Nat} (h : Frm W B GB G NN n) (b : Below W.heap.size W W') : Frm W' B GB G NN n :=
  ⟨h.g.below b, h.r.below b, (b.frozen (p := ⟨B, 0, none⟩) (World.block_lt_of_cell? _ _ h.r.c0)).trans h.f0, (b.frozen (p := ⟨B, 1, none⟩) (World.block_lt_of_cell? _ _ h.r.c1)).trans h.f1⟩
theorem Frm.set {W : World} {B GB G NN n : Nat} (h : Frm W B GB G NN n) {x : Addr} (hx : x.block = G) (h1 : G ≠ GB) (h2 : G ≠ B) (v : Value) : Frm (W.setCell x v) B GB G NN n := by
  have e : ∀ (C i : Nat), G ≠ C → (W.setCell x v).cell? ⟨C, i, none⟩ = W.cell? ⟨C, i, none⟩ := fun C i hC => World.cell?_setCell_other _ _ _ _ (fun q => hC (by rw [← hx, q]))
  exact ⟨⟨by rw [e _ _ h1]; exact h.g.c0, by rw [e _ _ h1]; exact h.g.c1⟩, ⟨by rw [e _ _ h2]; exact h.r.c0, by rw [e _ _ h2]; exact h.r.c1⟩, by rw [World.frozen?_setCell]; exact h.f0, by rw [World.frozen?_setCell]; exact h.f1⟩
set_option maxRecDepth 20000 in
set_option maxHeartbeats 4000000 in
theorem filledGrid_any (a b : ByteArray) (p o c s : Int) (w : World) (hw : Weights p o c s) (ha : a.size ≤ 48) (hb : b.size ≤ 48) :
    Calls Try.prog 85 #[.string a, .string b, .func (.func 86) #[.agg #[.string a, .string b, .int .i64 p, .int .i64 o, .int .i64 c, .int .i64 s]] #[]] w fun e w' => GridRes a b p o c s w w' e := by
  obtain ⟨i0, hi0, hz0, hs0, hb0⟩ := info_parts infoE
  obtain ⟨NN, hNN⟩ : ∃ NN, NN = (a.size + 1) * (b.size + 1) := ⟨_, rfl⟩
  have hsm : NN ≤ 2401 := by rw [hNN]; exact grid_small ha hb
  have hwm : IntKind.i64.wrap (((a.size : Int) + 1) * ((b.size : Int) + 1)) = (NN : Int) := by
    have : ((a.size : Int) + 1) * ((b.size : Int) + 1) = (NN : Int) := by rw [hNN, Int.natCast_mul]; rfl
    rw [this, IntKind.wrap_i64]; omega
  have HLE := Lib.hid (fun G i j W h1 h2 h3 => lastEdit_any a b p o c s G i j W hw ha hb h1 h2 h3)
  have HRo := Lib.hid (fun G r (hr : r ≤ a.size) W => rowE_any G NN NN r (b.size + 1) W (by rw [hNN]; exact grid_row hr) (by omega) (by have := grid_row (n := b.size) hr; rw [← hNN] at this; omega))
  have HGR := Lib.hid (fun i j (hi : i ≤ a.size) (hj : j ≤ b.size) => show i * (b.size + 1) + j < NN by rw [hNN]; exact grid_room hi hj)
  have HN := Lib.hid hNN
  rw [← hNN] at HLE
  clear hNN hw
  go_enter Try.func85, Try.ntmps85
  go_wp2_with (first
    | (at_make
       refine wpList_make_full _ rfl _ _ 83 rfl (w.heap.size + 1) 82 i0 (.agg #[.int .u8 0, .int .i64 0]) 2 Try.underlying83 hi0 hz0 hs0 .i64 .i64 _ _ NN rfl rfl rfl rfl (by rw [hb0]; omega) (by unfold maxLen; omega) (by simp) ?_
       intro w0 hown0 hgrow0
       have HO0 := Lib.hid hown0
       have HG0 := Lib.hid hgrow0
       clear hown0 hgrow0))
  have hg0 := HG0.out
  have HOc := Lib.hid (OwnC.made (by have := HO0.out; simp only [World.size_alloc] at this; exact this))
  have hz1 : w.heap.size + 1 ≤ w0.heap.size := by have := hg0.size; simpa using this
  obtain ⟨G, hG⟩ : ∃ G, G = w.heap.size + 1 := ⟨_, rfl⟩
  obtain ⟨GB, hGB⟩ : ∃ GB, GB = w0.heap.size := ⟨_, rfl⟩
  obtain ⟨W, hW⟩ : ∃ W, W = w0.alloc (.cells #[.slice (some ⟨w.heap.size + 1, 0, none⟩) NN NN, .int .i64 ((b.size : Int) + 1)] 85) := ⟨_, rfl⟩
  rw [← hW, ← hGB]
  have HOW : Hid (OwnC W G (some ⟨G, 0, none⟩) (NN * 2) (fun i => (madeCells (Value.agg #[.int .u8 0, .int .i64 0]).cells (NN * 2)).toList.getD i undef)) := by
    rw [hW, hG]
    exact HOc.out.2.below ((Below.refl _ _).alloc (Nat.le_refl _) _)
  generalize (fun i => (madeCells (Value.agg #[.int .u8 0, .int .i64 0]).cells (NN * 2)).toList.getD i undef) = V0 at *
  have HFR : Hid (Frm W w.heap.size GB G NN b.size) := by
    have k1 : ∀ i, W.cell? ⟨w.heap.size, i, none⟩ = (w.alloc (.cells #[.slice none 0 0, .int .i64 0] 85)).cell? ⟨w.heap.size, i, none⟩ := fun i => by
      rw [hW, World.cell?_alloc_lt _ _ _ (show w.heap.size < w0.heap.size by omega)]
      exact World.cell?_of_block (a := ⟨w.heap.size, i, none⟩) (hg0.block _ (by simp) (by simp))
    have k2 : ∀ i, W.frozen? ⟨w.heap.size, i, none⟩ = (w.alloc (.cells #[.slice none 0 0, .int .i64 0] 85)).frozen? ⟨w.heap.size, i, none⟩ := fun i => by
      rw [hW, ((Below.refl w0.heap.size w0).alloc (Nat.le_refl _) _).frozen (p := ⟨w.heap.size, i, none⟩) (show w.heap.size < w0.heap.size by omega)]
      exact World.frozen?_of_block (a := ⟨w.heap.size, i, none⟩) (hg0.block _ (by simp) (by simp))
    refine ⟨?_, ⟨by rw [k1]; simp [go_sem], by rw [k1]; simp [go_sem]⟩, by rw [k2]; simp [go_sem], by rw [k2]; simp [go_sem]⟩
    rw [hW, hGB, hG]
    exact ⟨by simp [go_sem], by simp [go_sem]⟩
  have HBW : Hid (Below w.heap.size w W) := by
    rw [hW]
    exact Below.alloc (Below.grown (Below.alloc (Below.refl _ _) (Nat.le_refl _) _) hg0 (by simp) (fun j hj => by cases hj)) (by omega) _
  have hGB2 : G < GB := by have := HOc.out.1; omega
  have hG2 : w.heap.size < G := by omega
  clear hg0 HO0 HG0 HOc hW hGB hz1
  rw [show (⟨w.heap.size + 1, 0, none⟩ : Addr) = ⟨G, 0, none⟩ by rw [hG]]
  clear hG w0
  go_loopw [26] (fun kk wr => ∃ (k : Nat) (V : Nat → Value), k ≤ a.size + 1 ∧ kk = .int .i64 k ∧ Hid (OwnC wr G (some ⟨G, 0, none⟩) (NN * 2) V) ∧ Hid (∀ t, t < (k * (b.size + 1) + 0) * 2 → V t = offC (gridV (editE (bx a) (bx b) p o c s) (b.size + 1)) t) ∧ Hid (Frm wr w.heap.size GB G NN b.size) ∧ Hid (Below w.heap.size w wr)) (fun kk _ => a.size + 1 - (intOf kk).toNat)
  case atStart => exact ⟨0, V0, Nat.zero_le _, rfl, HOW, fun t ht => by omega, HFR, HBW⟩
  case round =>
    obtain ⟨k, V, hk, rfl, HO, HV, HF, HB⟩ := hrel
    clear HOW HFR HBW
    by_cases hlt : k < a.size + 1
    · have d1 : (k : Int) < (a.size : Int) + 1 := by omega
      obtain ⟨xr, hxr⟩ : ∃ xr : Addr, xr = ⟨G, k * (b.size + 1) * 2, none⟩ := ⟨_, rfl⟩
      have HRk := Lib.hid (fun W => HRo.out G k (by omega) W)
      rw [← hxr] at HRk
      have HX := Lib.hid hxr
      clear hxr
      have HRk2 := Lib.hid (show ∀ W, Calls Try.prog 70 #[.agg #[.slice (some ⟨G, 0, none⟩) NN NN, .int .i64 ((b.size : Int) + 1)], .int .i64 k] W fun e w' => e = .returned (.slice (some xr) (b.size + 1) (b.size + 1)) ∧ Below W.heap.size W w' from fun W => by have := HRk.out W; rwa [Int.natCast_add] at this)
      clear HRk
      obtain ⟨⟨g0, g1⟩, ⟨z0, z1⟩, f0, f1⟩ := HF.out
      go_wp2_with (first
        | (go_at_call 70
           refine (HRk2.out _).mono ?_
           rintro e u1 ⟨rfl, hb⟩
           have PU := Lib.hid hb
           clear hb))
      have HO1 := Lib.hid (HO.out.below PU.out)
      have HF1 := Lib.hid (HF.out.below PU.out)
      have HB1 := Lib.hid (HB.out.trans (PU.out.mono HB.out.size))
      clear HO HF HB PU g0 g1 z0 z1 f0 f1
      go_loopw [34] (fun jj wr => ∃ (j : Nat) (V : Nat → Value), j ≤ b.size + 1 ∧ jj = .int .i64 j ∧ Hid (OwnC wr G (some ⟨G, 0, none⟩) (NN * 2) V) ∧ Hid (∀ t, t < (k * (b.size + 1) + j) * 2 → V t = offC (gridV (editE (bx a) (bx b) p o c s) (b.size + 1)) t) ∧ Hid (Frm wr w.heap.size GB G NN b.size) ∧ Hid (Below w.heap.size w wr)) (fun jj _ => b.size + 1 - (intOf jj).toNat)
      case atStart => exact ⟨0, V, Nat.zero_le _, rfl, HO1, HV, HF1, HB1⟩
      case round =>
        obtain ⟨j, V2, hj, rfl, HO2, HV2, HF2, HB2⟩ := hrel
        clear HO1 HF1 HB1 HV
        obtain ⟨⟨g0, g1⟩, -, -, -⟩ := HF2.out
        by_cases hlt2 : j < b.size + 1
        · have d2 : (j : Int) < (b.size : Int) + 1 := by omega
          have hr := HGR.out k j (by omega) (by omega)
          have HA := Lib.hid (show xr.add (j * 2) = ⟨G, (k * (b.size + 1) + j) * 2, none⟩ by rw [HX.out, add_at, ← Nat.add_mul])
          have HEk := Lib.hid (fun W h => HLE.out G k j W (by omega) (by omega) h)
          have HGV := Lib.hid (show gridV (editE (bx a) (bx b) p o c s) (b.size + 1) (k * (b.size + 1) + j) = ((editE (bx a) (bx b) p o c s k j).1, (editE (bx a) (bx b) p o c s k j).2) by rw [gridV_at hlt2])
          generalize editE (bx a) (bx b) p o c s k j = ee at *
          have hr2 : (k * (b.size + 1) + j) * 2 + 2 ≤ NN * 2 := by omega
          have HR2 := Lib.hid hr2
          clear hr hr2
          generalize hrr : k * (b.size + 1) + j = r at *
          have HRR := Lib.hid hrr
          clear hrr
          go_wp2_with (first
            | (go_at_call 86
               refine (HEk.out _ (gridK_of HO2.out (by rw [HRR.out]; exact HV2.out) (by rw [HRR.out]; have := HR2.out; omega))).mono ?_
               rintro e u2 ⟨rfl, hb⟩
               have PU := Lib.hid hb
               have HO3 := Lib.hid (HO2.out.below hb)
               obtain ⟨c0, fr0⟩ : (∃ v, u2.cell? (xr.add (j * 2)) = some v) ∧ u2.frozen? (xr.add (j * 2)) = false := by
                 obtain ⟨z, hz, -, hf, hc⟩ := HO3.out (r * 2) (by have := HR2.out; omega)
                 cases hz
                 rw [add0] at hf hc
                 rw [HA.out]
                 exact ⟨⟨_, hc⟩, hf⟩
               obtain ⟨c1, fr1⟩ : (∃ v, u2.cell? ⟨(xr.add (j * 2)).block, (xr.add (j * 2)).off + 1, none⟩ = some v) ∧ u2.frozen? ⟨(xr.add (j * 2)).block, (xr.add (j * 2)).off + 1, none⟩ = false := by
                 obtain ⟨z, hz, -, hf, hc⟩ := HO3.out (r * 2 + 1) (by have := HR2.out; omega)
                 cases hz
                 rw [add0] at hf hc
                 rw [HA.out]
                 exact ⟨⟨_, hc⟩, hf⟩
               obtain ⟨o0, c0⟩ := c0
               obtain ⟨o1, c1⟩ := c1
               have c1s : ∀ v, (u2.setCell (xr.add (j * 2)) v).cell? ⟨(xr.add (j * 2)).block, (xr.add (j * 2)).off + 1, none⟩ = some o1 := fun v => by
                 rw [World.cell?_setCell_other _ _ _ _ (fun e => by have := congrArg Addr.off e; simp at this)]
                 exact c1
               clear hb))
          have hxb : (xr.add (j * 2)).block = G := by rw [HA.out]
          refine ⟨⟨j + 1, set2 V2 (r * 2) (.int .u8 ee.1) (.int .i64 ee.2), by omega, by simp, OwnC.set2 HO3.out HA.out HR2.out _ _, ?_, ((HF2.out.below PU.out).set hxb (by omega) (by omega) _).set (x := ⟨(xr.add (j * 2)).block, (xr.add (j * 2)).off + 1, none⟩) hxb (by omega) (by omega) _, ((HB2.out.trans (PU.out.mono HB2.out.size)).setCell (by rw [hxb]; omega) _).setCell (by show w.heap.size ≤ (xr.add (j * 2)).block; rw [hxb]; omega) _⟩, by simp [intOf]; omega⟩
          intro t ht
          refine set2_offC (S := b.size + 1) (r := r) (st := ee.1) (u := ee.2) (fun t ht => HV2.out t (by have := HRR.out; omega)) HGV.out t (by have := HRR.out; omega)
        · have d2 : ¬ (j : Int) < (b.size : Int) + 1 := by omega
          obtain rfl : j = b.size + 1 := by omega
          go_wp2_with fail
          exact ⟨⟨k + 1, V2, by omega, by simp, HO2, fun t ht => HV2.out t (by rw [Nat.succ_mul] at ht; omega), HF2, HB2⟩, by simp [intOf]; omega⟩
    · have d1 : ¬ (k : Int) < (a.size : Int) + 1 := by omega
      obtain rfl : k = a.size + 1 := by omega
      obtain ⟨⟨g0, g1⟩, ⟨z0, z1⟩, f0, f1⟩ := HF.out
      have HK := Lib.hid (gridK_of (k := a.size + 1) (j := 0) HO.out HV.out (by rw [HN.out]; omega))
      go_wp2_with fail
      refine bodyPost_ret (v := .agg #[.slice (some ⟨G, 0, none⟩) NN NN, .int .i64 ((b.size : Int) + 1)]) (by simp [results, Try.results85, World.cell?_setCell_other, go_sem, z0, z1]) rfl ⟨G, by rw [HN.out], by omega, ?_, (HB.out.setCell (by simp) _).setCell (by simp) _⟩
      intro x y hy hlt
      obtain ⟨h1, h2⟩ := HK.out x y hy hlt
      have e : ∀ (W : World) (i j : Nat) (v : Value), (W.setCell ⟨w.heap.size, i, none⟩ v).cell? ⟨G, j, none⟩ = W.cell? ⟨G, j, none⟩ := fun W i j v => World.cell?_setCell_other _ _ _ _ (fun q => by have := congrArg Addr.block q; simp at this; omega)
      exact ⟨by rw [e, e]; exact h1, by rw [e, e]; exact h2⟩
end Go.Proofs.Ytcnamfjojdjjgaa
