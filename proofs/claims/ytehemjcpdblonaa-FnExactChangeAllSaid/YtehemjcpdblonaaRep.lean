/- slices.Repeat of one number, twelve times. -/
import Derived.Test.YtehemjcpdblonaaAppend
import Derived.Test.YtehemjcpdblonaaOwn
import Derived.Test.YtehemjcpdblonaaClone
import Derived.Laws.CopyOwn
import Derived.Deep.RegionLaw
import Derived.Deep.CutRange
set_option linter.unusedVariables false
namespace Go.Proofs.Ytehemjcpdblonaa
open Go.RowKit

set_option maxRecDepth 20000 in
theorem mul64_12 (w : World) : Calls Try.prog 108 #[.int .u64 1, .int .u64 12] w fun e w' => e = .returned (.tuple #[.int .u64 0, .int .u64 12]) ∧ w = w' := by
  have b1 : bits BinOp.and IntKind.u64 1 4294967295 = 1 := by kernel_rfl
  have b2 : bits BinOp.and IntKind.u64 12 4294967295 = 12 := by kernel_rfl
  have b3 : bits BinOp.and IntKind.u64 0 4294967295 = 0 := by kernel_rfl
  go_enter Try.func108, Try.ntmps108
  go_wp2_with fail
  refine bodyPost_ret (v := .tuple #[.int .u64 0, .int .u64 12]) ?r1 rfl ⟨rfl, rfl⟩
  simp [results, Try.results108, go_sem]
theorem mul1_12 (w : World) : Calls Try.prog 106 #[.int .u64 1, .int .u64 12] w fun e w' => e = .returned (.tuple #[.int .u64 0, .int .u64 12]) ∧ w = w' := by
  go_enter Try.func106, Try.ntmps106
  go_wp2_with fail
  refine (mul64_12 w).mono ?_
  rintro e w' ⟨rfl, rfl⟩
  go_wp2_with fail
  refine bodyPost_ret (v := .tuple #[.int .u64 0, .int .u64 12]) ?r1 rfl ⟨rfl, rfl⟩
  simp [results, Try.results106, go_sem]

/-- n times x, and then 0. -/
def repL (x : Int) (n k : Nat) : List Value := List.replicate n (.int .i64 x) ++ List.replicate (k - n) (.int .i64 0)
theorem repL_len {x : Int} {n k : Nat} (h : n ≤ k) : (repL x n k).length = k := by unfold repL; simp; omega
theorem repL_splice {x : Int} {n k m : Nat} (h : n + m ≤ k) : Go.splice (repL x n k) n (List.replicate m (.int .i64 x)) = repL x (n + m) k := by
  unfold Go.splice repL
  rw [List.take_append_of_le_length (by simp), List.take_of_length_le (by simp), List.length_replicate, List.drop_append]
  simp only [List.length_replicate, List.drop_replicate]
  have e1 : n - (n + m) = 0 := by omega
  have e2 : k - n - (n + m - n) = k - (n + m) := by omega
  rw [e1, e2, List.replicate_zero, List.nil_append, ← List.append_assoc, List.replicate_append_replicate]
theorem rep_made (x : Int) : repL x 0 12 = (madeCells (Value.int IntKind.i64 0).cells (12 * 1)).toList := by
  simp [repL, madeCells, Value.cells, List.replicate]
  rfl
theorem own_heap {w : World} {base n g : Nat} {e : TypeId} {xs : List Value} (h : w.ownsRow base e 1 (.slice (some ⟨g, 0, none⟩) n n) n xs) : w.heap[g]? = some (.cells xs.toArray e (0, 0)) := by
  have hl := h.1
  rcases h.2 with ⟨hv, _⟩ | ⟨g', cap, cur, hv, _, hh, _, _, h5, h6⟩
  · cases hv
  · cases hv
    rw [hh]
    have : cur = xs.toArray := by
      rw [← h6, List.take_of_length_le (by rw [Array.length_toList]; omega)]
    rw [this]
set_option maxRecDepth 20000 in
set_option maxHeartbeats 800000 in
theorem repeat12_any (B : Option Addr) (c : Nat) (x : Int) (w : World) (hB : Cells w B 1 (fun _ => .int .i64 x)) :
    Calls Try.prog 104 #[.slice B 1 c, .int .i64 12] w fun e w' => e = .returned (.slice (some ⟨w.heap.size, 0, none⟩) 12 12) ∧ OwnC w' w.heap.size (some ⟨w.heap.size, 0, none⟩) 12 (fun _ => .int .i64 x) ∧ Below w.heap.size w w' := by
  obtain ⟨i, hi, hz, hs, hb⟩ := info_parts infoCI
  have HB := Lib.hid hB
  clear hB
  go_enter Try.func104, Try.ntmps104
  go_wp2_with fail
  refine (mul1_12 _).mono ?_
  rintro e w' ⟨rfl, rfl⟩
  obtain ⟨a, rfl, hc0⟩ := HB.out 0 (by omega)
  have HA := Lib.hid hc0
  clear hc0
  have HPS := Lib.hid (show ∀ wr, Below w.heap.size w wr → ∀ j v, (List.replicate 1 (Value.int .i64 x))[j]? = some v → wr.cell? (a.add j) = some v from fun wr hb j v hj => by
    obtain ⟨hj1, hj2⟩ := List.getElem?_eq_some_iff.1 hj
    rw [List.getElem_replicate] at hj2
    subst hj2
    rw [List.length_replicate] at hj1
    obtain rfl : j = 0 := by omega
    rw [hb.cell (World.block_lt_of_cell? _ _ HA.out)]
    exact HA.out)
  have hsz : (Try.prog.info? 2).map (·.size) = some 1 := by simp [hi, hs]
  have HGS := Lib.hid (show ∀ wr : World, ∀ n m, m ≤ n → n ≤ 12 → wr.heap[w.heap.size]? = some (.cells (repL x n 12).toArray 2 (0, 0)) → ∀ j v, (List.replicate m (Value.int .i64 x))[j]? = some v → wr.cell? ((⟨w.heap.size, 0, none⟩ : Addr).add j) = some v from by
    intro wr n m hm hn hh j v hj
    obtain ⟨hj1, hj2⟩ := List.getElem?_eq_some_iff.1 hj
    rw [List.getElem_replicate] at hj2
    subst hj2
    rw [List.length_replicate] at hj1
    rw [add0]
    simp only [World.cell?, hh]
    unfold repL
    simp [List.getElem?_append, show j < n by omega])
  go_wp2_with (first
    | (at_make
       refine wpList_make_full _ rfl _ _ 22 rfl w.heap.size 2 i (.int .i64 0) 1 Try.underlying22 hi hz hs .i64 .i64 _ _ 12 rfl rfl rfl rfl (by rw [hb]; omega) (by unfold maxLen; omega) (Nat.le_refl _) ?_
       intro w0 hown0 hgrow0
       have HB0 := Lib.hid ((Below.refl w.heap.size w).grown hgrow0 (Nat.le_refl _) (fun _ h => by cases h))
       have HG0 := Lib.hid (show w0.heap[w.heap.size]? = some (.cells (repL x 0 12).toArray 2 (0, 0)) from own_heap (by rw [rep_made x]; exact hown0))
       clear hown0 hgrow0)
    | (refine wpList_copy_splice rfl _ _ 22 22 rfl 2 Try.underlying22 hsz (some ⟨w.heap.size, 0, none⟩) (some a) 12 12 1 c rfl rfl w.heap.size 0 (repL x 0 12) 2 HG0.out (List.replicate 1 (.int .i64 x)) rfl (fun _ => ⟨rfl, a, rfl, HPS.out _ HB0.out⟩) (by rw [repL_len (by omega)]; simp) (by simp [Value.oneCell']) w.heap.size w HB0.out (Nat.le_refl _) ?_
       intro w1 hg1 hb1
       rw [repL_splice (n := 0) (m := 1) (k := 12) (x := x) (by omega)] at hg1
       have HG1 := hg1
       have HB1 := Lib.hid hb1
       clear hg1 hb1)
    | go_in)
  go_loopw [8] (fun q wr => ∃ n : Nat, ((n = 1 ∧ q = .int .i64 1) ∨ (n = 2 ∧ q = .int .i64 2) ∨ (n = 4 ∧ q = .int .i64 4) ∨ (n = 8 ∧ q = .int .i64 8) ∨ (n = 12 ∧ q = .int .i64 12)) ∧ Hid (wr.heap[w.heap.size]? = some (.cells (repL x n 12).toArray 2 (0, 0))) ∧ Hid (Below w.heap.size w wr)) (fun q _ => 12 - (intOf q).toNat)
  case atStart => exact ⟨1, .inl ⟨rfl, rfl⟩, HG1.out, HB1.out⟩
  case round =>
    obtain ⟨n, hn, HG, HBB⟩ := hrel
    rcases hn with ⟨rfl, rfl⟩ | ⟨rfl, rfl⟩ | ⟨rfl, rfl⟩ | ⟨rfl, rfl⟩ | ⟨rfl, rfl⟩
    · skip
      have HGD := Lib.hid (show wr.drew.heap[w.heap.size]? = some (.cells (repL x 1 12).toArray 2 (0, 0)) from HG.out)
      have HGA := Lib.hid (HGS.out wr.drew 1 1 (by omega) (by omega) HG.out)
      have HFit := Lib.hid (show 1 + (List.replicate 1 (Value.int .i64 x)).length ≤ (repL x 1 12).length from by rw [List.length_replicate, repL_len (by omega)]; omega)
      have HOne := Lib.hid (show ∀ v ∈ List.replicate 1 (Value.int .i64 x), v.oneCell' = true from fun v hv => by rw [(List.mem_replicate.1 hv).2]; rfl)
      have HSp := Lib.hid (repL_splice (n := 1) (m := 1) (k := 12) (x := x) (by omega))
      go_upto_region 9 with fail
      go_region_law (refine step_copy_splice rfl (.tmp 41) (.tmp 44) 22 22 rfl 2 Try.underlying22 hsz (some ⟨w.heap.size, 1, none⟩) (some ⟨w.heap.size, 0, none⟩) 11 11 1 12 (by simp [go_sem]; done) (by simp [go_sem]; done) w.heap.size 1 (repL x 1 12) 2 HGD.out (List.replicate 1 (.int .i64 x)) rfl (fun _ => ⟨rfl, ⟨w.heap.size, 0, none⟩, rfl, HGA.out⟩) HFit.out HOne.out w.heap.size w HBB.out.drew (Nat.le_refl _) ?_; intro w4 hg4 hb4; rw [HSp.out] at hg4; have HG4 := hg4; have HB4 := Lib.hid hb4; clear hg4 hb4)
      all_goals (
        have hwN : IntKind.i64.wrap 2 = 2 := by decide +kernel
        go_simp
        go_wp2_with fail
        exact ⟨⟨2, by simp, HG4.out, HB4.out⟩, by simp [intOf]⟩)
    · skip
      have HGD := Lib.hid (show wr.drew.heap[w.heap.size]? = some (.cells (repL x 2 12).toArray 2 (0, 0)) from HG.out)
      have HGA := Lib.hid (HGS.out wr.drew 2 2 (by omega) (by omega) HG.out)
      have HFit := Lib.hid (show 2 + (List.replicate 2 (Value.int .i64 x)).length ≤ (repL x 2 12).length from by rw [List.length_replicate, repL_len (by omega)]; omega)
      have HOne := Lib.hid (show ∀ v ∈ List.replicate 2 (Value.int .i64 x), v.oneCell' = true from fun v hv => by rw [(List.mem_replicate.1 hv).2]; rfl)
      have HSp := Lib.hid (repL_splice (n := 2) (m := 2) (k := 12) (x := x) (by omega))
      go_upto_region 9 with fail
      go_region_law (refine step_copy_splice rfl (.tmp 41) (.tmp 44) 22 22 rfl 2 Try.underlying22 hsz (some ⟨w.heap.size, 2, none⟩) (some ⟨w.heap.size, 0, none⟩) 10 10 2 12 (by simp [go_sem]; done) (by simp [go_sem]; done) w.heap.size 2 (repL x 2 12) 2 HGD.out (List.replicate 2 (.int .i64 x)) rfl (fun _ => ⟨rfl, ⟨w.heap.size, 0, none⟩, rfl, HGA.out⟩) HFit.out HOne.out w.heap.size w HBB.out.drew (Nat.le_refl _) ?_; intro w4 hg4 hb4; rw [HSp.out] at hg4; have HG4 := hg4; have HB4 := Lib.hid hb4; clear hg4 hb4)
      all_goals (
        have hwN : IntKind.i64.wrap 4 = 4 := by decide +kernel
        go_simp
        go_wp2_with fail
        exact ⟨⟨4, by simp, HG4.out, HB4.out⟩, by simp [intOf]⟩)
    · skip
      have HGD := Lib.hid (show wr.drew.heap[w.heap.size]? = some (.cells (repL x 4 12).toArray 2 (0, 0)) from HG.out)
      have HGA := Lib.hid (HGS.out wr.drew 4 4 (by omega) (by omega) HG.out)
      have HFit := Lib.hid (show 4 + (List.replicate 4 (Value.int .i64 x)).length ≤ (repL x 4 12).length from by rw [List.length_replicate, repL_len (by omega)]; omega)
      have HOne := Lib.hid (show ∀ v ∈ List.replicate 4 (Value.int .i64 x), v.oneCell' = true from fun v hv => by rw [(List.mem_replicate.1 hv).2]; rfl)
      have HSp := Lib.hid (repL_splice (n := 4) (m := 4) (k := 12) (x := x) (by omega))
      go_upto_region 9 with fail
      go_region_law (refine step_copy_splice rfl (.tmp 41) (.tmp 44) 22 22 rfl 2 Try.underlying22 hsz (some ⟨w.heap.size, 4, none⟩) (some ⟨w.heap.size, 0, none⟩) 8 8 4 12 (by simp [go_sem]; done) (by simp [go_sem]; done) w.heap.size 4 (repL x 4 12) 2 HGD.out (List.replicate 4 (.int .i64 x)) rfl (fun _ => ⟨rfl, ⟨w.heap.size, 0, none⟩, rfl, HGA.out⟩) HFit.out HOne.out w.heap.size w HBB.out.drew (Nat.le_refl _) ?_; intro w4 hg4 hb4; rw [HSp.out] at hg4; have HG4 := hg4; have HB4 := Lib.hid hb4; clear hg4 hb4)
      all_goals (
        have hwN : IntKind.i64.wrap 8 = 8 := by decide +kernel
        go_simp
        go_wp2_with fail
        exact ⟨⟨8, by simp, HG4.out, HB4.out⟩, by simp [intOf]⟩)
    · skip
      have HGD := Lib.hid (show wr.drew.heap[w.heap.size]? = some (.cells (repL x 8 12).toArray 2 (0, 0)) from HG.out)
      have HGA := Lib.hid (HGS.out wr.drew 8 4 (by omega) (by omega) HG.out)
      have HFit := Lib.hid (show 8 + (List.replicate 4 (Value.int .i64 x)).length ≤ (repL x 8 12).length from by rw [List.length_replicate, repL_len (by omega)]; omega)
      have HOne := Lib.hid (show ∀ v ∈ List.replicate 4 (Value.int .i64 x), v.oneCell' = true from fun v hv => by rw [(List.mem_replicate.1 hv).2]; rfl)
      have HSp := Lib.hid (repL_splice (n := 8) (m := 4) (k := 12) (x := x) (by omega))
      go_upto_region 9 with fail
      go_region_law (refine step_copy_splice rfl (.tmp 41) (.tmp 44) 22 22 rfl 2 Try.underlying22 hsz (some ⟨w.heap.size, 8, none⟩) (some ⟨w.heap.size, 0, none⟩) 4 4 8 12 (by simp [go_sem]; done) (by simp [go_sem]; done) w.heap.size 8 (repL x 8 12) 2 HGD.out (List.replicate 4 (.int .i64 x)) rfl (fun _ => ⟨rfl, ⟨w.heap.size, 0, none⟩, rfl, HGA.out⟩) HFit.out HOne.out w.heap.size w HBB.out.drew (Nat.le_refl _) ?_; intro w4 hg4 hb4; rw [HSp.out] at hg4; have HG4 := hg4; have HB4 := Lib.hid hb4; clear hg4 hb4)
      all_goals (
        have hwN : IntKind.i64.wrap 12 = 12 := by decide +kernel
        go_simp
        go_wp2_with fail
        exact ⟨⟨12, by simp, HG4.out, HB4.out⟩, by simp [intOf]⟩)
    · go_wp2_with fail
      go_ret
      refine ⟨rfl, fun k hk => ⟨_, rfl, rfl, ?_, ?_⟩, HBB.out⟩
      · rw [add0]; simp only [World.frozen?, HG.out]; simp
      · exact HGS.out _ 12 12 (Nat.le_refl _) (Nat.le_refl _) HG.out k _ (by rw [List.getElem?_replicate, if_pos hk])
end Go.Proofs.Ytehemjcpdblonaa
