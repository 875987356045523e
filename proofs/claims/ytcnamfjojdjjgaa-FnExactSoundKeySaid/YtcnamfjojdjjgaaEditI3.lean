/- Least edits: the last one of two beginnings that are not empty, as the program tells it. -/
import Derived.Test.YtcnamfjojdjjgaaEditI2
import Derived.Deep.CutRange
set_option linter.unusedVariables false
namespace Go.Proofs.Ytcnamfjojdjjgaa
open Go.RowKit



set_option maxRecDepth 100000 in
set_option maxHeartbeats 4000000 in
theorem lastEditss_any (a b : ByteArray) (p o c s : Int) (G N S i j sd so sp ss : Nat) (xd xo xp xs : Addr) (ud uo up us : Int) (q : Nat → Nat × Int) (w : World)
    (hp : 0 ≤ p ∧ p ≤ 4000000) (ho : 0 ≤ o ∧ o ≤ 4000000) (hc : 0 ≤ c ∧ c ≤ 4000000) (hs : 0 ≤ s ∧ s ≤ 4000000) (hud : 0 ≤ ud ∧ ud ≤ 4000000) (huo : 0 ≤ uo ∧ uo ≤ 4000000) (hup : 0 ≤ up ∧ up ≤ 4000000) (hus : 0 ≤ us ∧ us ≤ 4000000)
    (hi : i < a.size) (hj : j < b.size) (ha : a.size ≤ 48) (hb : b.size ≤ 48) (hjS : j + 1 < S) (hS : S ≤ 49)
    (hrow : ∀ W, Calls Try.prog 70 #[.agg #[.slice (some ⟨G, 0, none⟩) N N, .int .i64 S], .int .i64 i] W fun e w' => e = .returned (.slice (some xd) S S) ∧ Below W.heap.size W w')
    (hrow1 : ∀ W, Calls Try.prog 70 #[.agg #[.slice (some ⟨G, 0, none⟩) N N, .int .i64 S], .int .i64 ((i : Int) + 1)] W fun e w' => e = .returned (.slice (some xp) S S) ∧ Below W.heap.size W w')
    (hed : ∀ W', Below w.heap.size w W' → W'.cell? (xd.add (j * 2)) = some (.int .u8 sd) ∧ W'.cell? ⟨(xd.add (j * 2)).block, (xd.add (j * 2)).off + 1, none⟩ = some (.int .i64 ud))
    (heo : ∀ W', Below w.heap.size w W' → W'.cell? (xd.add ((j + 1) * 2)) = some (.int .u8 so) ∧ W'.cell? ⟨(xd.add ((j + 1) * 2)).block, (xd.add ((j + 1) * 2)).off + 1, none⟩ = some (.int .i64 uo))
    (hep : ∀ W', Below w.heap.size w W' → W'.cell? (xp.add (j * 2)) = some (.int .u8 sp) ∧ W'.cell? ⟨(xp.add (j * 2)).block, (xp.add (j * 2)).off + 1, none⟩ = some (.int .i64 up))
    (hq0 : q 0 = if bx a i = bx b j then (61, ud + 0) else (33, ud + c)) (hq1 : q 1 = (45, uo + o)) (hq2 : q 2 = (43, up + p)) (hq3 : q 3 = (120, us + s)) (n : Nat) (hn : n = if swapB (bx a) (bx b) i j then 4 else 3)
    (hrow2 : 1 ≤ i → ∀ W, Calls Try.prog 70 #[.agg #[.slice (some ⟨G, 0, none⟩) N N, .int .i64 S], .int .i64 ((i - 1 : Nat) : Int)] W fun e w' => e = .returned (.slice (some xs) S S) ∧ Below W.heap.size W w')
    (hes : 1 ≤ i → 1 ≤ j → ∀ W', Below w.heap.size w W' → W'.cell? (xs.add ((j - 1) * 2)) = some (.int .u8 ss) ∧ W'.cell? ⟨(xs.add ((j - 1) * 2)).block, (xs.add ((j - 1) * 2)).off + 1, none⟩ = some (.int .i64 us)) :
    Calls Try.prog 86 #[.agg #[.string a, .string b, .int .i64 p, .int .i64 o, .int .i64 c, .int .i64 s], .agg #[.slice (some ⟨G, 0, none⟩) N N, .int .i64 S], .int .i64 ((i + 1 : Nat) : Int), .int .i64 ((j + 1 : Nat) : Int)] w fun e w' => e = .returned (.agg #[.int .u8 (leastF q n).1, .int .i64 (leastF q n).2]) ∧ Below w.heap.size w w' := by
  obtain ⟨i0, hi0, hz0, hs0, hb0⟩ := info_parts infoE
  have HL := Lib.hid (fun A r cc q W t1 t2 => leastOf_any A r cc q W t1 t2)
  have d1 : (j : Int) < S := by omega
  have d2 : (j : Int) + 1 < S := by omega
  have dwi : IntKind.i64.wrap (i : Int) = (i : Int) := by rw [IntKind.wrap_i64]; omega
  have d3 : (0 : Int) ≤ (j : Int) + 1 := by omega
  have d4 : ((j : Int) + 1).toNat = j + 1 := by omega
  have dwj : IntKind.i64.wrap (j : Int) = (j : Int) := by rw [IntKind.wrap_i64]; omega
  have HRow := Lib.hid hrow
  have HRow1 := Lib.hid hrow1
  have HED := Lib.hid hed
  have HEO := Lib.hid heo
  have HEP := Lib.hid hep
  have HQ0 := Lib.hid hq0
  have HQ1 := Lib.hid hq1
  have HQ2 := Lib.hid hq2
  have HQ3 := Lib.hid hq3
  have HN := Lib.hid hn
  have HRow2 := Lib.hid hrow2
  have HES := Lib.hid hes
  clear hrow hrow1 hed heo hep hq0 hq1 hq2 hq3 hn hrow2 hes
  go_enter Try.func86, Try.ntmps86
  go_upto_if 18 with (first
    | (at_make
       refine wpList_make_own _ rfl _ _ 83 rfl (w.heap.size + 3) 82 i0 (.agg #[.int .u8 0, .int .i64 0]) 2 Try.underlying83 hi0 hz0 hs0 .i64 .i64 4 4 rfl rfl rfl (by omega) (by unfold maxLen; omega) (by simp) ?_
       intro w0 hown0 hgrow0
       simp only [World.size_alloc] at hown0
       have HO0 := Lib.hid hown0
       have HG0 := Lib.hid hgrow0
       clear hown0 hgrow0))
  obtain ⟨W, hW⟩ : ∃ W, W = w0.alloc (.cells #[.slice (some ⟨w.heap.size + 1 + 1 + 1, 0, none⟩) 0 4] 83) := ⟨_, rfl⟩
  have E0 := Lib.hid (EdSt.init (q := q) HO0.out HG0.out)
  rw [← hW]
  rw [← hW] at E0
  generalize w0.heap.size = P at *
  clear HO0 HG0 hW w0
  go_cut [] from 13 (fun wx => EdSt a b p o c s G N S w wx P 1 q)
  case first =>
    obtain ⟨x0, x1, x2, x3, x4, x5, x6, x7⟩ := E0.out.box
    by_cases hxy : bx a i = bx b j
    · rw [if_pos hxy] at HQ0
      have hbq : ((a[i].toNat : Int) == (b[j].toNat : Int)) = true := by rw [bx_eq hi, bx_eq hj, hxy]; simp
      clear hxy
      go_wp2_with fail
      go_quiet (fail)
      have E1 := Lib.hid (EdSt.same E0.out (below_drewN (Below.refl _ _) nq))
      clear x0 x1 x2 x3 x4 x5 x6 x7
      generalize W.drewN nq = W1 at *
      clear E0
      obtain ⟨x0, x1, x2, x3, x4, x5, x6, x7⟩ := E1.out.box
      go_wp2_with (first
        | (go_at_call 70
           refine (HRow.out _).mono ?_
           rintro e u1 ⟨rfl, hb⟩
           have PU := Lib.hid (Below.step (w := W1) (by repeat (first | exact Below.refl _ _ | exact Hid.out (by assumption) | refine below_alloc ?_ _ | refine Below.setCell ?_ (by simp <;> omega) _ | refine Below.alloc ?_ (by simp <;> omega) _ | refine Below.drew ?_ | refine below_drewN ?_ _)) (Nat.le_refl _) hb)
           obtain ⟨y0, y1⟩ := HED.out u1 (E1.out.bel.trans (PU.out.mono E1.out.bel.size))
           clear hb)
        |
          (go_at_call 88
           refine (offer_any P (w.heap.size + 3) 0 q _ 61 ud 0 _ (OffS.below E1.out.off PU.out) (by omega) (by have := E1.out.lo; have := PU.out.size; omega) (by omega) (by omega) HQ0.out).mono ?_
           rintro e u2 ⟨rfl, h1, h2⟩
           have E2 := Lib.hid (EdSt.next E1.out h1 ((PU.out.mono (by have := E1.out.lo; omega)).trans (h2 _ E1.out.lo.1 (Nat.le_refl _))))
           clear h1 h2)
        )
      clear x0 x1 x2 x3 x4 x5 x6 x7
      rename World => W2
      go_wp2_with fail
      go_meet
      exact E2.out
    · rw [if_neg hxy] at HQ0
      have hbq : ((a[i].toNat : Int) == (b[j].toNat : Int)) = false := by rw [bx_eq hi, bx_eq hj]; simp; omega
      clear hxy
      go_wp2_with fail
      go_quiet (fail)
      have E1 := Lib.hid (EdSt.same E0.out (below_drewN (Below.refl _ _) nq))
      clear x0 x1 x2 x3 x4 x5 x6 x7
      generalize W.drewN nq = W1 at *
      clear E0
      go_wp2_with fail
      obtain ⟨y0, y1⟩ := HED.out _ E1.out.bel
      have HKeep := Lib.hid (show ∀ W', Below W1.heap.size W1 W' → (W'.cell? ⟨w.heap.size, 0, none⟩ = some (.string a) ∧ W'.cell? ⟨w.heap.size, 1, none⟩ = some (.string b) ∧ W'.cell? ⟨w.heap.size, 2, none⟩ = some (.int .i64 p) ∧ W'.cell? ⟨w.heap.size, 3, none⟩ = some (.int .i64 o) ∧ W'.cell? ⟨w.heap.size, 4, none⟩ = some (.int .i64 c) ∧ W'.cell? ⟨w.heap.size, 5, none⟩ = some (.int .i64 s) ∧ W'.cell? ⟨w.heap.size + 1, 0, none⟩ = some (.slice (some ⟨G, 0, none⟩) N N) ∧ W'.cell? ⟨w.heap.size + 1, 1, none⟩ = some (.int .i64 S) ∧ W'.cell? ((xd.add (j * 2))) = some (.int .u8 sd) ∧ W'.cell? ⟨((xd.add (j * 2))).block, ((xd.add (j * 2))).off + 1, none⟩ = some (.int .i64 ud)) from fun W' hW => by
        obtain ⟨z0, z1, z2, z3, z4, z5, z6, z7⟩ := E1.out.keep (hW.mono (by have := E1.out.lo; omega))
        obtain ⟨e0, e1⟩ := HED.out W' (E1.out.bel.trans (hW.mono E1.out.bel.size))
        exact ⟨z0, z1, z2, z3, z4, z5, z6, z7, e0, e1⟩)
      go_region_held3 (fun W' => W'.cell? ⟨w.heap.size, 0, none⟩ = some (.string a) ∧ W'.cell? ⟨w.heap.size, 1, none⟩ = some (.string b) ∧ W'.cell? ⟨w.heap.size, 2, none⟩ = some (.int .i64 p) ∧ W'.cell? ⟨w.heap.size, 3, none⟩ = some (.int .i64 o) ∧ W'.cell? ⟨w.heap.size, 4, none⟩ = some (.int .i64 c) ∧ W'.cell? ⟨w.heap.size, 5, none⟩ = some (.int .i64 s) ∧ W'.cell? ⟨w.heap.size + 1, 0, none⟩ = some (.slice (some ⟨G, 0, none⟩) N N) ∧ W'.cell? ⟨w.heap.size + 1, 1, none⟩ = some (.int .i64 S) ∧ W'.cell? ((xd.add (j * 2))) = some (.int .u8 sd) ∧ W'.cell? ⟨((xd.add (j * 2))).block, ((xd.add (j * 2))).off + 1, none⟩ = some (.int .i64 ud))
        (first
          | (obtain ⟨z0, z1, z2, z3, z4, z5, z6, z7⟩ := E2.out.box
             obtain ⟨e0, e1⟩ := HED.out _ E2.out.bel
             exact ⟨z0, z1, z2, z3, z4, z5, z6, z7, e0, e1⟩)
          | (exact HKeep.out _ (by repeat (first | exact Below.refl _ _ | exact Hid.out (by assumption) | refine below_alloc ?_ _ | refine Below.setCell ?_ (by simp <;> omega) _ | refine Below.alloc ?_ (by simp <;> omega) _ | refine Below.drew ?_ | refine below_drewN ?_ _))))
        (first
          |
            (go_at_call 70
             refine (HRow.out _).mono ?_
             rintro e u1 ⟨rfl, hb⟩
             have PU := Lib.hid (Below.step (w := W1) (by repeat (first | exact Below.refl _ _ | exact Hid.out (by assumption) | refine below_alloc ?_ _ | refine Below.setCell ?_ (by simp <;> omega) _ | refine Below.alloc ?_ (by simp <;> omega) _ | refine Below.drew ?_ | refine below_drewN ?_ _)) (Nat.le_refl _) hb)
             clear hb)
          |
            (go_at_call 88
             refine (offer_any P (w.heap.size + 3) 0 q _ 33 ud c _ (OffS.below E1.out.off PU.out) (by omega) (by have := E1.out.lo; have := PU.out.size; omega) (by omega) (by omega) HQ0.out).mono ?_
             rintro e u2 ⟨rfl, h1, h2⟩
             have E2 := Lib.hid (EdSt.next E1.out h1 ((PU.out.mono (by have := E1.out.lo; omega)).trans (h2 _ E1.out.lo.1 (Nat.le_refl _))))
             clear h1 h2)
          )
      clear y0 y1 HKeep PU
      rename World => W2
      go_wp2_with fail
      go_meet
      exact E2.out
  case rest =>
    obtain ⟨W1, rfl⟩ : ∃ u, u = wc := ⟨_, rfl⟩
    have E1 := Lib.hid hcut
    clear hcut E0
    go_wp2_with fail
    obtain ⟨y0, y1⟩ := HEO.out _ E1.out.bel
    have HKeep := Lib.hid (show ∀ W', Below W1.heap.size W1 W' → (W'.cell? ⟨w.heap.size, 0, none⟩ = some (.string a) ∧ W'.cell? ⟨w.heap.size, 1, none⟩ = some (.string b) ∧ W'.cell? ⟨w.heap.size, 2, none⟩ = some (.int .i64 p) ∧ W'.cell? ⟨w.heap.size, 3, none⟩ = some (.int .i64 o) ∧ W'.cell? ⟨w.heap.size, 4, none⟩ = some (.int .i64 c) ∧ W'.cell? ⟨w.heap.size, 5, none⟩ = some (.int .i64 s) ∧ W'.cell? ⟨w.heap.size + 1, 0, none⟩ = some (.slice (some ⟨G, 0, none⟩) N N) ∧ W'.cell? ⟨w.heap.size + 1, 1, none⟩ = some (.int .i64 S) ∧ W'.cell? ((xd.add ((j + 1) * 2))) = some (.int .u8 so) ∧ W'.cell? ⟨((xd.add ((j + 1) * 2))).block, ((xd.add ((j + 1) * 2))).off + 1, none⟩ = some (.int .i64 uo)) from fun W' hW => by
      obtain ⟨z0, z1, z2, z3, z4, z5, z6, z7⟩ := E1.out.keep (hW.mono (by have := E1.out.lo; omega))
      obtain ⟨e0, e1⟩ := HEO.out W' (E1.out.bel.trans (hW.mono E1.out.bel.size))
      exact ⟨z0, z1, z2, z3, z4, z5, z6, z7, e0, e1⟩)
    go_region_held3 (fun W' => W'.cell? ⟨w.heap.size, 0, none⟩ = some (.string a) ∧ W'.cell? ⟨w.heap.size, 1, none⟩ = some (.string b) ∧ W'.cell? ⟨w.heap.size, 2, none⟩ = some (.int .i64 p) ∧ W'.cell? ⟨w.heap.size, 3, none⟩ = some (.int .i64 o) ∧ W'.cell? ⟨w.heap.size, 4, none⟩ = some (.int .i64 c) ∧ W'.cell? ⟨w.heap.size, 5, none⟩ = some (.int .i64 s) ∧ W'.cell? ⟨w.heap.size + 1, 0, none⟩ = some (.slice (some ⟨G, 0, none⟩) N N) ∧ W'.cell? ⟨w.heap.size + 1, 1, none⟩ = some (.int .i64 S) ∧ W'.cell? ((xd.add ((j + 1) * 2))) = some (.int .u8 so) ∧ W'.cell? ⟨((xd.add ((j + 1) * 2))).block, ((xd.add ((j + 1) * 2))).off + 1, none⟩ = some (.int .i64 uo))
      (first
        | (obtain ⟨z0, z1, z2, z3, z4, z5, z6, z7⟩ := E2.out.box
           obtain ⟨e0, e1⟩ := HEO.out _ E2.out.bel
           exact ⟨z0, z1, z2, z3, z4, z5, z6, z7, e0, e1⟩)
        | (exact HKeep.out _ (by repeat (first | exact Below.refl _ _ | exact Hid.out (by assumption) | refine below_alloc ?_ _ | refine Below.setCell ?_ (by simp <;> omega) _ | refine Below.alloc ?_ (by simp <;> omega) _ | refine Below.drew ?_ | refine below_drewN ?_ _))))
      (first
        |
          (go_at_call 70
           refine (HRow.out _).mono ?_
           rintro e u1 ⟨rfl, hb⟩
           have PU := Lib.hid (Below.step (w := W1) (by repeat (first | exact Below.refl _ _ | exact Hid.out (by assumption) | refine below_alloc ?_ _ | refine Below.setCell ?_ (by simp <;> omega) _ | refine Below.alloc ?_ (by simp <;> omega) _ | refine Below.drew ?_ | refine below_drewN ?_ _)) (Nat.le_refl _) hb)
           clear hb)
        |
          (go_at_call 88
           refine (offer_any P (w.heap.size + 3) 1 q _ 45 uo o _ (OffS.below E1.out.off PU.out) (by omega) (by have := E1.out.lo; have := PU.out.size; omega) (by omega) (by omega) HQ1.out).mono ?_
           rintro e u2 ⟨rfl, h1, h2⟩
           have E2 := Lib.hid (EdSt.next E1.out h1 ((PU.out.mono (by have := E1.out.lo; omega)).trans (h2 _ E1.out.lo.1 (Nat.le_refl _))))
           clear h1 h2)
        )
    clear y0 y1 HKeep PU
    rename World => W2
    go_wp2_with fail
    obtain ⟨y0, y1⟩ := HEP.out _ E2.out.bel
    have HKeep := Lib.hid (show ∀ W', Below W2.heap.size W2 W' → (W'.cell? ⟨w.heap.size, 0, none⟩ = some (.string a) ∧ W'.cell? ⟨w.heap.size, 1, none⟩ = some (.string b) ∧ W'.cell? ⟨w.heap.size, 2, none⟩ = some (.int .i64 p) ∧ W'.cell? ⟨w.heap.size, 3, none⟩ = some (.int .i64 o) ∧ W'.cell? ⟨w.heap.size, 4, none⟩ = some (.int .i64 c) ∧ W'.cell? ⟨w.heap.size, 5, none⟩ = some (.int .i64 s) ∧ W'.cell? ⟨w.heap.size + 1, 0, none⟩ = some (.slice (some ⟨G, 0, none⟩) N N) ∧ W'.cell? ⟨w.heap.size + 1, 1, none⟩ = some (.int .i64 S) ∧ W'.cell? ((xp.add (j * 2))) = some (.int .u8 sp) ∧ W'.cell? ⟨((xp.add (j * 2))).block, ((xp.add (j * 2))).off + 1, none⟩ = some (.int .i64 up)) from fun W' hW => by
      obtain ⟨z0, z1, z2, z3, z4, z5, z6, z7⟩ := E2.out.keep (hW.mono (by have := E2.out.lo; omega))
      obtain ⟨e0, e1⟩ := HEP.out W' (E2.out.bel.trans (hW.mono E2.out.bel.size))
      exact ⟨z0, z1, z2, z3, z4, z5, z6, z7, e0, e1⟩)
    go_region_held3 (fun W' => W'.cell? ⟨w.heap.size, 0, none⟩ = some (.string a) ∧ W'.cell? ⟨w.heap.size, 1, none⟩ = some (.string b) ∧ W'.cell? ⟨w.heap.size, 2, none⟩ = some (.int .i64 p) ∧ W'.cell? ⟨w.heap.size, 3, none⟩ = some (.int .i64 o) ∧ W'.cell? ⟨w.heap.size, 4, none⟩ = some (.int .i64 c) ∧ W'.cell? ⟨w.heap.size, 5, none⟩ = some (.int .i64 s) ∧ W'.cell? ⟨w.heap.size + 1, 0, none⟩ = some (.slice (some ⟨G, 0, none⟩) N N) ∧ W'.cell? ⟨w.heap.size + 1, 1, none⟩ = some (.int .i64 S) ∧ W'.cell? ((xp.add (j * 2))) = some (.int .u8 sp) ∧ W'.cell? ⟨((xp.add (j * 2))).block, ((xp.add (j * 2))).off + 1, none⟩ = some (.int .i64 up))
      (first
        | (obtain ⟨z0, z1, z2, z3, z4, z5, z6, z7⟩ := E3.out.box
           obtain ⟨e0, e1⟩ := HEP.out _ E3.out.bel
           exact ⟨z0, z1, z2, z3, z4, z5, z6, z7, e0, e1⟩)
        | (exact HKeep.out _ (by repeat (first | exact Below.refl _ _ | exact Hid.out (by assumption) | refine below_alloc ?_ _ | refine Below.setCell ?_ (by simp <;> omega) _ | refine Below.alloc ?_ (by simp <;> omega) _ | refine Below.drew ?_ | refine below_drewN ?_ _))))
      (first
        |
          (go_at_call 70
           refine (HRow1.out _).mono ?_
           rintro e u1 ⟨rfl, hb⟩
           have PU := Lib.hid (Below.step (w := W2) (by repeat (first | exact Below.refl _ _ | exact Hid.out (by assumption) | refine below_alloc ?_ _ | refine Below.setCell ?_ (by simp <;> omega) _ | refine Below.alloc ?_ (by simp <;> omega) _ | refine Below.drew ?_ | refine below_drewN ?_ _)) (Nat.le_refl _) hb)
           clear hb)
        |
          (go_at_call 88
           refine (offer_any P (w.heap.size + 3) 2 q _ 43 up p _ (OffS.below E2.out.off PU.out) (by omega) (by have := E2.out.lo; have := PU.out.size; omega) (by omega) (by omega) HQ2.out).mono ?_
           rintro e u2 ⟨rfl, h1, h2⟩
           have E3 := Lib.hid (EdSt.next E2.out h1 ((PU.out.mono (by have := E2.out.lo; omega)).trans (h2 _ E2.out.lo.1 (Nat.le_refl _))))
           clear h1 h2)
        )
    clear y0 y1 HKeep PU
    rename World => W3
    clear E1 E2
    obtain ⟨x0, x1, x2, x3, x4, x5, x6, x7⟩ := E3.out.box
    by_cases h1 : (1 : Int) < (i : Int) + 1
    · have h1d := decide_eq_true h1
      by_cases h2 : (1 : Int) < (j : Int) + 1
      · have h2d := decide_eq_true h2
        obtain ⟨i', hi'⟩ : ∃ i', i = i' + 1 := ⟨i - 1, by omega⟩
        obtain ⟨j', hj'⟩ : ∃ j', j = j' + 1 := ⟨j - 1, by omega⟩
        have hi2 : i' < a.size := by omega
        have hj2 : j' < b.size := by omega
        have q1 : IntKind.i64.wrap ((i : Int) + 1 - 2) = (i' : Int) := by rw [IntKind.wrap_i64]; omega
        have q2 : IntKind.i64.wrap ((j : Int) + 1 - 2) = (j' : Int) := by rw [IntKind.wrap_i64]; omega
        have q5 : (i' : Int) < a.size := by omega
        have q6 : (j' : Int) < b.size := by omega
        have q9 : (j' : Int) < S := by omega
        have HRow3 := Lib.hid (HRow2.out (by omega))
        have HES2 := Lib.hid (HES.out (by omega) (by omega))
        rw [show i - 1 = i' by omega] at HRow3
        rw [show j - 1 = j' by omega] at HES2
        have e1 : i - 1 = i' := by omega
        have e2 : j - 1 = j' := by omega
        have e3 : 1 ≤ i := by omega
        have e4 : 1 ≤ j := by omega
        by_cases c1 : bx a i' = bx b j
        · have b1 : ((a[i'].toNat : Int) == (b[j].toNat : Int)) = true := by rw [bx_eq hi2, bx_eq hj, c1]; simp
          by_cases c2 : bx a i = bx b j'
          · have b2 : ((a[i].toNat : Int) == (b[j'].toNat : Int)) = true := by rw [bx_eq hi, bx_eq hj2, c2]; simp
            have hn : n = 4 := by rw [HN.out]; simp [swapB, e1, e2, e3, e4, c1, c2]
            subst hn
            clear c1 c2 h1 h2 HN e1 e2 e3 e4 hi' hj' HRow2 HES
            go_wp2_with fail
            go_quiet (fail)
            have E4 := Lib.hid (EdSt.same E3.out (below_drewN (Below.refl _ _) nq))
            clear x0 x1 x2 x3 x4 x5 x6 x7
            generalize W3.drewN nq = W4 at *
            clear E3
            go_wp2_with fail
            obtain ⟨y0, y1⟩ := HES2.out _ E4.out.bel
            have HKeep := Lib.hid (show ∀ W', Below W4.heap.size W4 W' → (W'.cell? ⟨w.heap.size, 0, none⟩ = some (.string a) ∧ W'.cell? ⟨w.heap.size, 1, none⟩ = some (.string b) ∧ W'.cell? ⟨w.heap.size, 2, none⟩ = some (.int .i64 p) ∧ W'.cell? ⟨w.heap.size, 3, none⟩ = some (.int .i64 o) ∧ W'.cell? ⟨w.heap.size, 4, none⟩ = some (.int .i64 c) ∧ W'.cell? ⟨w.heap.size, 5, none⟩ = some (.int .i64 s) ∧ W'.cell? ⟨w.heap.size + 1, 0, none⟩ = some (.slice (some ⟨G, 0, none⟩) N N) ∧ W'.cell? ⟨w.heap.size + 1, 1, none⟩ = some (.int .i64 S) ∧ W'.cell? ((xs.add (j' * 2))) = some (.int .u8 ss) ∧ W'.cell? ⟨((xs.add (j' * 2))).block, ((xs.add (j' * 2))).off + 1, none⟩ = some (.int .i64 us)) from fun W' hW => by
              obtain ⟨z0, z1, z2, z3, z4, z5, z6, z7⟩ := E4.out.keep (hW.mono (by have := E4.out.lo; omega))
              obtain ⟨e0, e1⟩ := HES2.out W' (E4.out.bel.trans (hW.mono E4.out.bel.size))
              exact ⟨z0, z1, z2, z3, z4, z5, z6, z7, e0, e1⟩)
            go_region_held3 (fun W' => W'.cell? ⟨w.heap.size, 0, none⟩ = some (.string a) ∧ W'.cell? ⟨w.heap.size, 1, none⟩ = some (.string b) ∧ W'.cell? ⟨w.heap.size, 2, none⟩ = some (.int .i64 p) ∧ W'.cell? ⟨w.heap.size, 3, none⟩ = some (.int .i64 o) ∧ W'.cell? ⟨w.heap.size, 4, none⟩ = some (.int .i64 c) ∧ W'.cell? ⟨w.heap.size, 5, none⟩ = some (.int .i64 s) ∧ W'.cell? ⟨w.heap.size + 1, 0, none⟩ = some (.slice (some ⟨G, 0, none⟩) N N) ∧ W'.cell? ⟨w.heap.size + 1, 1, none⟩ = some (.int .i64 S) ∧ W'.cell? ((xs.add (j' * 2))) = some (.int .u8 ss) ∧ W'.cell? ⟨((xs.add (j' * 2))).block, ((xs.add (j' * 2))).off + 1, none⟩ = some (.int .i64 us))
              (first
                | (obtain ⟨z0, z1, z2, z3, z4, z5, z6, z7⟩ := E5.out.box
                   obtain ⟨e0, e1⟩ := HES2.out _ E5.out.bel
                   exact ⟨z0, z1, z2, z3, z4, z5, z6, z7, e0, e1⟩)
                | (exact HKeep.out _ (by repeat (first | exact Below.refl _ _ | exact Hid.out (by assumption) | refine below_alloc ?_ _ | refine Below.setCell ?_ (by simp <;> omega) _ | refine Below.alloc ?_ (by simp <;> omega) _ | refine Below.drew ?_ | refine below_drewN ?_ _))))
              (first
                |
                  (go_at_call 70
                   refine (HRow3.out _).mono ?_
                   rintro e u1 ⟨rfl, hb⟩
                   have PU := Lib.hid (Below.step (w := W4) (by repeat (first | exact Below.refl _ _ | exact Hid.out (by assumption) | refine below_alloc ?_ _ | refine Below.setCell ?_ (by simp <;> omega) _ | refine Below.alloc ?_ (by simp <;> omega) _ | refine Below.drew ?_ | refine below_drewN ?_ _)) (Nat.le_refl _) hb)
                   clear hb)
                |
                  (go_at_call 88
                   refine (offer_any P (w.heap.size + 3) 3 q _ 120 us s _ (OffS.below E4.out.off PU.out) (by omega) (by have := E4.out.lo; have := PU.out.size; omega) (by omega) (by omega) HQ3.out).mono ?_
                   rintro e u2 ⟨rfl, h1, h2⟩
                   have E5 := Lib.hid (EdSt.next E4.out h1 ((PU.out.mono (by have := E4.out.lo; omega)).trans (h2 _ E4.out.lo.1 (Nat.le_refl _))))
                   clear h1 h2)
                )
            clear y0 y1 HKeep PU
            rename World => W5
            obtain ⟨Ao, co, w1, w2⟩ := E5.out.off.cells
            have HC9 := Lib.hid w2
            clear w2
            go_wp2_with (first
              | (go_at_call 89
                 refine (HL.out _ _ _ q _ (by omega) (by exact HC9.out)).mono ?_
                 rintro e u3 ⟨rfl, hb⟩
                 have B3 := Lib.hid (E5.out.bel.trans (hb.mono E5.out.bel.size))
                 obtain ⟨r0, r1⟩ := E5.out.res.below hb
                 have f0 := (hb.frozen (p := ⟨w.heap.size + 1 + 1, 0, none⟩) (World.block_lt_of_cell? _ _ E5.out.res.c0)).trans E5.out.fr.1
                 have f1 := (hb.frozen (p := ⟨w.heap.size + 1 + 1, 1, none⟩) (World.block_lt_of_cell? _ _ E5.out.res.c1)).trans E5.out.fr.2
                 clear hb))
            refine bodyPost_ret (v := .agg #[.int .u8 (leastF q 4).1, .int .i64 (leastF q 4).2]) (by simp [results, Try.results86, World.cell?_setCell_other, go_sem, r0, r1]) rfl ⟨rfl, (B3.out.setCell (by simp; omega) _).setCell (by simp; omega) _⟩
          · have b2 : ((a[i].toNat : Int) == (b[j'].toNat : Int)) = false := by rw [bx_eq hi, bx_eq hj2]; simp; omega
            have hn : n = 3 := by rw [HN.out]; simp [swapB, e1, e2, c2]
            subst hn
            clear c1 c2 h1 h2 HN e1 e2 e3 e4 hi' hj' HRow2 HES
            go_wp2_with fail
            go_quiet (fail)
            have E4 := Lib.hid (EdSt.same E3.out (below_drewN (Below.refl _ _) nq))
            generalize W3.drewN nq = W4 at *
            clear E3
            obtain ⟨Ao, co, w1, w2⟩ := E4.out.off.cells
            have HC9 := Lib.hid w2
            clear w2
            go_wp2_with (first
              | (go_at_call 89
                 refine (HL.out _ _ _ q _ (by omega) (by exact HC9.out)).mono ?_
                 rintro e u3 ⟨rfl, hb⟩
                 have B3 := Lib.hid (E4.out.bel.trans (hb.mono E4.out.bel.size))
                 obtain ⟨r0, r1⟩ := E4.out.res.below hb
                 have f0 := (hb.frozen (p := ⟨w.heap.size + 1 + 1, 0, none⟩) (World.block_lt_of_cell? _ _ E4.out.res.c0)).trans E4.out.fr.1
                 have f1 := (hb.frozen (p := ⟨w.heap.size + 1 + 1, 1, none⟩) (World.block_lt_of_cell? _ _ E4.out.res.c1)).trans E4.out.fr.2
                 clear hb))
            refine bodyPost_ret (v := .agg #[.int .u8 (leastF q 3).1, .int .i64 (leastF q 3).2]) (by simp [results, Try.results86, World.cell?_setCell_other, go_sem, r0, r1]) rfl ⟨rfl, (B3.out.setCell (by simp; omega) _).setCell (by simp; omega) _⟩
        · have b1 : ((a[i'].toNat : Int) == (b[j].toNat : Int)) = false := by rw [bx_eq hi2, bx_eq hj]; simp; omega
          have hn : n = 3 := by rw [HN.out]; simp [swapB, e1, e2, c1]
          subst hn
          clear c1 h1 h2 HN e1 e2 e3 e4 hi' hj' HRow2 HES
          go_wp2_with fail
          go_quiet (fail)
          have E4 := Lib.hid (EdSt.same E3.out (below_drewN (Below.refl _ _) nq))
          generalize W3.drewN nq = W4 at *
          clear E3
          obtain ⟨Ao, co, w1, w2⟩ := E4.out.off.cells
          have HC9 := Lib.hid w2
          clear w2
          go_wp2_with (first
            | (go_at_call 89
               refine (HL.out _ _ _ q _ (by omega) (by exact HC9.out)).mono ?_
               rintro e u3 ⟨rfl, hb⟩
               have B3 := Lib.hid (E4.out.bel.trans (hb.mono E4.out.bel.size))
               obtain ⟨r0, r1⟩ := E4.out.res.below hb
               have f0 := (hb.frozen (p := ⟨w.heap.size + 1 + 1, 0, none⟩) (World.block_lt_of_cell? _ _ E4.out.res.c0)).trans E4.out.fr.1
               have f1 := (hb.frozen (p := ⟨w.heap.size + 1 + 1, 1, none⟩) (World.block_lt_of_cell? _ _ E4.out.res.c1)).trans E4.out.fr.2
               clear hb))
          refine bodyPost_ret (v := .agg #[.int .u8 (leastF q 3).1, .int .i64 (leastF q 3).2]) (by simp [results, Try.results86, World.cell?_setCell_other, go_sem, r0, r1]) rfl ⟨rfl, (B3.out.setCell (by simp; omega) _).setCell (by simp; omega) _⟩
      · have h2d := decide_eq_false h2
        have hn : n = 3 := by rw [HN.out]; simp [swapB]; omega
        subst hn
        go_wp2_with fail
        go_quiet (fail)
        have E4 := Lib.hid (EdSt.same E3.out (below_drewN (Below.refl _ _) nq))
        generalize W3.drewN nq = W4 at *
        clear E3
        obtain ⟨Ao, co, w1, w2⟩ := E4.out.off.cells
        have HC9 := Lib.hid w2
        clear w2
        go_wp2_with (first
          | (go_at_call 89
             refine (HL.out _ _ _ q _ (by omega) (by exact HC9.out)).mono ?_
             rintro e u3 ⟨rfl, hb⟩
             have B3 := Lib.hid (E4.out.bel.trans (hb.mono E4.out.bel.size))
             obtain ⟨r0, r1⟩ := E4.out.res.below hb
             have f0 := (hb.frozen (p := ⟨w.heap.size + 1 + 1, 0, none⟩) (World.block_lt_of_cell? _ _ E4.out.res.c0)).trans E4.out.fr.1
             have f1 := (hb.frozen (p := ⟨w.heap.size + 1 + 1, 1, none⟩) (World.block_lt_of_cell? _ _ E4.out.res.c1)).trans E4.out.fr.2
             clear hb))
        refine bodyPost_ret (v := .agg #[.int .u8 (leastF q 3).1, .int .i64 (leastF q 3).2]) (by simp [results, Try.results86, World.cell?_setCell_other, go_sem, r0, r1]) rfl ⟨rfl, (B3.out.setCell (by simp; omega) _).setCell (by simp; omega) _⟩
    · have h1d := decide_eq_false h1
      have hn : n = 3 := by rw [HN.out]; simp [swapB]; omega
      subst hn
      go_wp2_with fail
      go_quiet (fail)
      have E4 := Lib.hid (EdSt.same E3.out (below_drewN (Below.refl _ _) nq))
      generalize W3.drewN nq = W4 at *
      clear E3
      obtain ⟨Ao, co, w1, w2⟩ := E4.out.off.cells
      have HC9 := Lib.hid w2
      clear w2
      go_wp2_with (first
        | (go_at_call 89
           refine (HL.out _ _ _ q _ (by omega) (by exact HC9.out)).mono ?_
           rintro e u3 ⟨rfl, hb⟩
           have B3 := Lib.hid (E4.out.bel.trans (hb.mono E4.out.bel.size))
           obtain ⟨r0, r1⟩ := E4.out.res.below hb
           have f0 := (hb.frozen (p := ⟨w.heap.size + 1 + 1, 0, none⟩) (World.block_lt_of_cell? _ _ E4.out.res.c0)).trans E4.out.fr.1
           have f1 := (hb.frozen (p := ⟨w.heap.size + 1 + 1, 1, none⟩) (World.block_lt_of_cell? _ _ E4.out.res.c1)).trans E4.out.fr.2
           clear hb))
      refine bodyPost_ret (v := .agg #[.int .u8 (leastF q 3).1, .int .i64 (leastF q 3).2]) (by simp [results, Try.results86, World.cell?_setCell_other, go_sem, r0, r1]) rfl ⟨rfl, (B3.out.setCell (by simp; omega) _).setCell (by simp; omega) _⟩
end Go.Proofs.Ytcnamfjojdjjgaa
