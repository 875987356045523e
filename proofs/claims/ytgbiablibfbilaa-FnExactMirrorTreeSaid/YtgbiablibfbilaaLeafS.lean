/- The leaves of a tree, on both sides. -/
import Derived.Test.YtgbiablibfbilaaDeepI
import Derived.Test.YtgbiablibfbilaaIRes
set_option linter.unusedVariables false
namespace Go.Proofs.Ytgbiablibfbilaa
open Go.RowKit
def leavesO : Option Tr → List Int
  | none => []
  | some t => t.leaves
def leafN (f : Nat → Int) (n : Nat) : Nat := (leavesO (nodeOfT 4 (rowL f n))).length
def leafOk (f : Nat → Int) (n : Nat) : Bool := (nodeOfT 4 (rowL f n)).isSome
def leafF (f : Nat → Int) (n : Nat) (i : Nat) : Int := (leavesO (nodeOfT 4 (rowL f n))).getD i 0
theorem Tr.leaves_le : ∀ t : Tr, t.leaves.length ≤ t.enc.length
  | .leaf _ => by simp [Tr.leaves, Tr.enc]
  | .br a b => by
    have h1 := Tr.leaves_le a
    have h2 := Tr.leaves_le b
    simp only [Tr.leaves, Tr.enc, List.length_cons, List.length_append]
    omega
theorem Tr.leaves_pos : ∀ t : Tr, 0 < t.leaves.length
  | .leaf _ => by simp [Tr.leaves]
  | .br a b => by
    have h1 := Tr.leaves_pos a
    simp only [Tr.leaves, List.length_append]
    omega
theorem leafN_le (f : Nat → Int) (n : Nat) : leafN f n ≤ 1048576 := by
  unfold leafN
  rw [nodeOfT4]
  cases h : trOf 4 (rowL f n) with
  | none => simp [leavesO]
  | some t =>
    obtain ⟨h1, _, h3⟩ := trOf_some.1 h
    have := t.leaves_le
    rw [h3] at h1
    simp only [leavesO]
    omega
/-- The letters among the first numbers of a row. -/
def geL (f : Nat → Int) (k : Nat) : List Int := (rowL f k).filter fun x => decide (0 ≤ x)
theorem geL_succ (f : Nat → Int) (k : Nat) : geL f (k + 1) = geL f k ++ (if 0 ≤ f k then [f k] else []) := by
  unfold geL rowL
  rw [List.range_succ, List.map_append, List.filter_append]
  by_cases h : 0 ≤ f k <;> simp [h]
theorem geL_yes {f : Nat → Int} {k : Nat} (h : 0 ≤ f k) : geL f (k + 1) = geL f k ++ [f k] := by rw [geL_succ, if_pos h]
theorem geL_no {f : Nat → Int} {k : Nat} (h : ¬ 0 ≤ f k) : geL f (k + 1) = geL f k := by rw [geL_succ, if_neg h, List.append_nil]
theorem geL_len (f : Nat → Int) (k : Nat) : (geL f k).length ≤ k := by
  have := List.length_filter_le (fun x => decide (0 ≤ x)) (rowL f k)
  rw [rowL_len] at this
  exact this
theorem enc_leaves {l : Int} : ∀ {t : Tr}, t.ok l = true → t.enc.filter (fun x => decide (0 ≤ x)) = t.leaves
  | .leaf x, h => by
    have := Tr.leaf_ok h
    simp [Tr.enc, Tr.leaves, this.1]
  | .br a b, h => by
    obtain ⟨ha, hb⟩ := Tr.br_ok h
    simp [Tr.enc, Tr.leaves, enc_leaves ha, enc_leaves hb]
theorem own_base {w : World} {b b' n size : Nat} {e : TypeId} {v : Value} {xs : List Value} (h : w.ownsRow b' e size v n xs) (hb : b ≤ b') : w.ownsRow b e size v n xs := by
  refine ⟨h.1, ?_⟩
  rcases h.2 with h0 | ⟨g, cap, cur, hv, hg, rest⟩
  · exact .inl h0
  · exact .inr ⟨g, cap, cur, hv, Nat.le_trans hb hg, rest⟩
theorem own_belowR {w w' : World} {b n size : Nat} {e : TypeId} {v : Value} {xs : List Value} (h : w.ownsRow b e size v n xs) (hb : Below w.heap.size w w') : w'.ownsRow b e size v n xs := by
  refine ⟨h.1, ?_⟩
  rcases h.2 with h0 | ⟨g, cap, cur, hv, hg, hh, rest⟩
  · exact .inl h0
  · exact .inr ⟨g, cap, cur, hv, hg, (hb.block g (Array.getElem?_eq_some_iff.1 hh).1).trans hh, rest⟩
set_option maxRecDepth 20000 in
set_option maxHeartbeats 1000000 in
theorem specLeavesOfTree_any (A : Option Addr) (n c : Nat) (f : Nat → Int) (w : World) (hn : n ≤ 1048576) (hc : n ≤ c ∧ c ≤ 1048576) (h : Cells w A n (fun i => .int .i64 (f i))) :
    Calls Try.prog 32 #[.slice A n c] w fun e w' => IRes w w' e (leafOk f n) (leafN f n) (leafF f n) := by
  obtain ⟨ii, hii, hzi, hsi, hbi⟩ := info_parts infoI
  have HT := Lib.hid (l06IsTree_any A n c f 4 w hn (by omega) h)
  have H := Lib.hid h
  unfold leafOk leafN leafF
  rw [nodeOfT4]
  cases ht : trOf 4 (rowL f n) with
  | none =>
    rw [ht] at HT
    clear ht h
    go_enter Try.func32, Try.ntmps32
    go_wp2_with fail
    refine HT.out.mono ?_
    rintro e w' ⟨rfl, rfl⟩
    go_wp2_with fail
    refine bodyPost_ret (v := .tuple #[.slice none 0 0, .bool false]) (by simp [results, Try.results32, go_sem]) rfl ?_
    exact IRes.none_ (n := 0) rfl (by repeat (first | with_reducible exact Below.refl _ _ | exact Hid.out (by with_reducible assumption) | refine Below.setCell ?_ (by simp <;> omega) _ | refine below_alloc ?_ _ | refine Below.alloc ?_ (by simp <;> omega) _ | refine Below.drew ?_ | refine below_drewN ?_ _ | exact Below.refl _ _))
  | some t =>
    have HL := Lib.hid (show geL f n = t.leaves by
      obtain ⟨_, ho, he⟩ := trOf_some.1 ht
      unfold geL
      rw [he]
      exact enc_leaves ho)
    rw [ht] at HT
    simp only [leavesO, Option.isSome_some]
    rw [← HL.out]
    clear ht h HL
    go_enter Try.func32, Try.ntmps32
    go_wp2_with fail
    refine HT.out.mono ?_
    rintro e w' ⟨rfl, rfl⟩
    go_wp2_with fail
    go_loopw [4, 5] (fun row i wr => ∃ (k : Nat) (v : Value), k ≤ n ∧ v = row ∧ i = .int .i64 k ∧ Hid (wr.ownsRow w.heap.size 2 1 v (geL f k).length (valsI (geL f k))) ∧ Hid (Below w.heap.size w wr)) (fun _ i _ => n - (intOf i).toNat)
    case atStart => exact ⟨0, _, Nat.zero_le _, rfl, rfl, by unfold Hid; exact World.ownsRow_lit w #[] 0 (Nat.le_refl _) (by unfold maxLen; omega) rfl, (by repeat (first | with_reducible exact Below.refl _ _ | exact Hid.out (by with_reducible assumption) | refine Below.setCell ?_ (by simp <;> omega) _ | refine below_alloc ?_ _ | refine Below.alloc ?_ (by simp <;> omega) _ | refine Below.drew ?_ | refine below_drewN ?_ _ | exact Below.refl _ _))⟩
    case round =>
      obtain ⟨k, v, hk, rfl, rfl, HO, HB⟩ := hrel
      by_cases hlt : k < n
      · have d1 : (k : Int) < n := by omega
        obtain ⟨a, rfl, hx0⟩ := H.out k hlt
        have hx : wr.cell? (a.add k) = some (.int .i64 (f k)) := (HB.out.cell (World.block_lt_of_cell? _ _ hx0)).trans hx0
        have hxa : ∀ o, (wr.alloc o).cell? (a.add k) = some (.int .i64 (f k)) := fun o => by rw [World.cell?_alloc_lt wr o _ (World.block_lt_of_cell? _ _ hx)]; exact hx
        have HL := Lib.hid (Nat.lt_of_le_of_lt (geL_len f k) hlt)
        have HY0 := Lib.hid (fun e => geL_yes (f := f) (k := k) e)
        have HN0 := Lib.hid (fun e => geL_no (f := f) (k := k) e)
        clear hx0
        by_cases hz : 0 ≤ f k
        · have HY := Lib.hid (HY0.out hz)
          clear HY0 HN0
          generalize f k = z at *
          go_wp2_with (first
            | (at_builtin
               refine wpList_append_cells _ rfl _ _ 22 rfl w.heap.size 2 ii (.int .i64 0) 1 8 Try.underlying22 hii hzi hsi hbi rfl (by decide) v _ _ rfl (HO.out.alloc _)
                 (some ⟨wr.heap.size, 0, none⟩) 1 1 (fun _ => .int .i64 z) rfl (cells_lit1 rfl) (fun j _ => rfl) (by unfold maxLen; have := HL.out; omega) (by have := HL.out; omega) (by have := HB.out.size; simp <;> omega) ?_
               intro v1 w2 hown hgrow hwhere
               have HO2 := Lib.hid (show w2.ownsRow w.heap.size 2 1 v1 (geL f (k + 1)).length (valsI (geL f (k + 1))) by rw [HY.out, List.length_append, ← valsI_add]; exact hown)
               have HB2 := Lib.hid (show Below w.heap.size w w2 from Below.grown (Below.alloc HB.out HB.out.size _) hgrow (by have := HB.out.size; simp; omega) (fun j hj => (HO.out.lt j hj).1))
               clear hown hgrow hwhere)
            | go_in)
          exact ⟨⟨k + 1, v1, by omega, rfl, by simp, HO2.out, HB2.out⟩, by simp [intOf]; omega⟩
        · have HE := Lib.hid (HN0.out hz)
          clear HY0 HN0
          generalize f k = z at *
          go_wp2_with fail
          exact ⟨⟨k + 1, v, by omega, rfl, by simp, by rw [HE.out]; exact HO.out, HB.out⟩, by simp [intOf]; omega⟩
      · have d1 : ¬ (k : Int) < n := by omega
        have e : k = n := by omega
        subst e
        obtain ⟨A1, c1, rfl, hr⟩ := IRes.row HO.out rfl HB.out
        have HR := Lib.hid hr
        clear hr
        go_wp2_with fail
        refine bodyPost_ret (v := .tuple #[.slice A1 (geL f k).length c1, .bool true]) ?r1 rfl ?r2
        case r1 => simp [results, Try.results32, go_sem]
        case r2 => exact HR.out
theorem leaves1_any (x : Int) (w : World) : Calls Try.prog 90 #[.int .i64 x] w fun e w' => e = .returned (.slice (some ⟨w.heap.size, 0, none⟩) 1 1) ∧ w' = w.alloc (.cells #[.int .i64 x] 2) := by
  go_enter Try.func90, Try.ntmps90
  go_wp2_with fail
  go_ret
  exact ⟨rfl, rfl⟩
theorem listV_vals (L : List Int) (n : Nat) (h : L.length = n) : listV n (fun i => (valsI L).getD i undef) = valsI L := by
  subst h
  apply List.ext_getElem
  · simp [listV, valsI]
  · intro i h1 h2
    simp [listV, valsI] at h1 ⊢
    simp [h1]
theorem leaves2_any (base g1 n1 c1 g2 n2 c2 : Nat) (L1 L2 : List Int) (w : World) (h1 : w.ownsRow base 2 1 (.slice (some ⟨g1, 0, none⟩) n1 c1) n1 (valsI L1)) (h2 : w.ownsRow base 2 1 (.slice (some ⟨g2, 0, none⟩) n2 c2) n2 (valsI L2)) (hb : base ≤ w.heap.size) (hn : n1 + n2 ≤ 1048576) (hp : 0 < n1) :
    Calls Try.prog 91 #[.slice (some ⟨g1, 0, none⟩) n1 c1, .slice (some ⟨g2, 0, none⟩) n2 c2] w fun e w' => ∃ g cp, e = .returned (.slice (some ⟨g, 0, none⟩) (n1 + n2) cp) ∧ w'.ownsRow base 2 1 (.slice (some ⟨g, 0, none⟩) (n1 + n2) cp) (n1 + n2) (valsI (L1 ++ L2)) ∧ Below base w w' := by
  obtain ⟨ii, hii, hzi, hsi, hbi⟩ := info_parts infoI
  have H1 := Lib.hid h1
  have H2 := Lib.hid h2
  have hl2 : L2.length = n2 := by have := h2.1; rw [valsI_len] at this; omega
  obtain ⟨A2, c2', g2', e2, -, ho2⟩ := OwnC.of_rowV h2
  cases e2
  have HC := Lib.hid ho2.cells
  have HV := Lib.hid (listV_vals L2 n2 hl2)
  have HL := Lib.hid hl2
  clear h1 h2 ho2 hl2
  obtain ⟨k, rfl⟩ : ∃ k, n1 = k + 1 := ⟨n1 - 1, by omega⟩
  go_enter Try.func91, Try.ntmps91
  go_wp2_with (first
    | (at_builtin
       refine wpList_append_cells _ rfl _ _ 22 rfl base 2 ii (.int .i64 0) 1 8 Try.underlying22 hii hzi hsi hbi rfl (by decide) (.slice (some ⟨g1, 0, none⟩) (k + 1) c1) (k + 1) (valsI L1) rfl H1.out
         (some ⟨g2, 0, none⟩) n2 c2 (fun i => (valsI L2).getD i undef) rfl HC.out (fun j hj => by
           have : j < L2.length := by have := HL.out; omega
           simp [valsI, this, Value.oneCell']) (by unfold maxLen; omega) (by omega) hb ?_
       intro v1 w2 hown hgrow hwhere
       have hown' : w2.ownsRow base 2 1 v1 (k + n2 + 1) (valsI (L1 ++ L2)) := by
         rw [Nat.mul_one, HV.out] at hown
         rw [show k + n2 + 1 = k + 1 + n2 by omega]
         simpa [valsI] using hown
       obtain ⟨g', cp', rfl⟩ := ownsRow_succ hown'
       have HB2 := Lib.hid (show Below base w w2 from (Below.refl base w).grown hgrow hb (fun j hj => (H1.out.lt j hj).1))
       have HO2 := Lib.hid hown'
       clear hown hgrow hwhere hown')
    | go_in)
  go_ret
  exact ⟨g', cp', by simp; omega, by rw [show k + 1 + n2 = k + n2 + 1 by omega]; exact HO2.out, HB2.out⟩
end Go.Proofs.Ytgbiablibfbilaa
