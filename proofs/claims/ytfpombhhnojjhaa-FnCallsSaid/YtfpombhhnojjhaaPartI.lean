/- Partners of calls and returns: the program. -/
import Derived.Test.YtfpombhhnojjhaaPart0
import Derived.Laws.OwnMore
import Derived.OneCell
import Derived.WalkSmall
import Derived.Deep.RegionHeldLaw
set_option linter.unusedVariables false
set_option linter.unusedSimpArgs false
namespace Go.Proofs.Ytfpombhhnojjhaa
open Go.RowKit
set_option maxRecDepth 20000 in
set_option maxHeartbeats 8000000 in
theorem implPartnersOf_any (A : Option Addr) (n c : Nat) (f : Nat → Int) (B : Option Addr) (m d : Nat) (g : Nat → Int) (w : World) (hn : n ≤ 1048576) (hA : Cells w A n (fun i => .int .i64 (f i))) (hm : m ≤ 1048576) (hB : Cells w B m (fun i => .int .i64 (g i))) :
    Calls Try.prog 57 #[.slice A n c, .slice B m d] w fun e w' => IRes w w' e (partOk n f m g) (partN n f m g) (partF n f g) := by
  obtain ⟨ia, hia, hza, hsa, hba⟩ := info_parts infoCI
  have HA := Lib.hid hA
  have HB := Lib.hid hB
  have HPL := Lib.hid (fun t => pst_ok f g t)
  have HW1 := Lib.hid (fun W h => implIsWord_any A n c f (m : Int) W (by omega) h)
  have HAR := Lib.hid (fun W h => areAll_any B m d g (m : Int) 2 W hm h)
  have HOK := Lib.hid (fun (h : partOk n f m g = true) => partOk_facts h)
  have HRR := Lib.hid (show partOk n f m g = (mostB (m : Int) 2 m g && (inB (m : Int) 1 4 && wordB f n ((m : Int) - 1))) from by
    unfold mostB
    rw [decide_eq_true rfl, Bool.true_and]
    rfl)
  unfold partN
  clear hA hB
  generalize partOk n f m g = r at *
  generalize (inB (m : Int) 1 4 && wordB f n ((m : Int) - 1)) = r1 at *
  generalize mostB (m : Int) 2 m g = r2 at *
  cases r1
  · obtain rfl : r = false := by rw [HRR.out]; cases r2 <;> rfl
    go_enter Try.func57, Try.ntmps57
    go_wp2_with fail
    refine (HW1.out _ (HA.out.below (by repeat (first | with_reducible exact Below.refl _ _ | exact Hid.out (by with_reducible assumption) | refine Below.setCell ?_ (by simp <;> omega) _ | refine below_alloc ?_ _ | refine Below.alloc ?_ (by simp <;> omega) _ | refine Below.drew ?_ | refine below_drewN ?_ _ | exact Below.refl _ _)))).mono ?_
    rintro e w' ⟨rfl, rfl⟩
    go_wp2_with fail
    refine bodyPost_ret (v := .tuple #[.slice none 0 0, .bool false]) (by simp [results, Try.results57, go_sem]) rfl (IRes.none_ rfl (by repeat (first | with_reducible exact Below.refl _ _ | exact Hid.out (by with_reducible assumption) | refine Below.setCell ?_ (by simp <;> omega) _ | refine below_alloc ?_ _ | refine Below.alloc ?_ (by simp <;> omega) _ | refine Below.drew ?_ | refine below_drewN ?_ _ | exact Below.refl _ _)))
  cases r2
  · obtain rfl : r = false := by rw [HRR.out]; rfl
    go_enter Try.func57, Try.ntmps57
    go_wp2_with fail
    refine (HW1.out _ (HA.out.below (by repeat (first | with_reducible exact Below.refl _ _ | exact Hid.out (by with_reducible assumption) | refine Below.setCell ?_ (by simp <;> omega) _ | refine below_alloc ?_ _ | refine Below.alloc ?_ (by simp <;> omega) _ | refine Below.drew ?_ | refine below_drewN ?_ _ | exact Below.refl _ _)))).mono ?_
    rintro e w' ⟨rfl, rfl⟩
    go_wp2_with fail
    refine (HAR.out _ (HB.out.below (by repeat (first | with_reducible exact Below.refl _ _ | exact Hid.out (by with_reducible assumption) | refine Below.setCell ?_ (by simp <;> omega) _ | refine below_alloc ?_ _ | refine Below.alloc ?_ (by simp <;> omega) _ | refine Below.drew ?_ | refine below_drewN ?_ _ | exact Below.refl _ _)))).mono ?_
    rintro e w1 ⟨rfl, hb1⟩
    have N1 := Lib.hid hb1
    clear hb1
    go_wp2_with fail
    refine bodyPost_ret (v := .tuple #[.slice none 0 0, .bool false]) (by simp [results, Try.results57, go_sem]) rfl (IRes.none_ rfl (by repeat (first | with_reducible exact Below.refl _ _ | exact Hid.out (by with_reducible assumption) | refine Below.setCell ?_ (by simp <;> omega) _ | refine below_alloc ?_ _ | refine Below.alloc ?_ (by simp <;> omega) _ | refine Below.drew ?_ | refine below_drewN ?_ _ | exact Below.refl _ _)))
  obtain rfl : r = true := by rw [HRR.out]; rfl
  obtain ⟨m1, m4, n12, hwf⟩ := HOK.out rfl
  have HWF := Lib.hid hwf
  clear HOK hwf HRR
  go_enter Try.func57, Try.ntmps57
  go_wp2_with fail
  refine (HW1.out _ (HA.out.below (by repeat (first | with_reducible exact Below.refl _ _ | exact Hid.out (by with_reducible assumption) | refine Below.setCell ?_ (by simp <;> omega) _ | refine below_alloc ?_ _ | refine Below.alloc ?_ (by simp <;> omega) _ | refine Below.drew ?_ | refine below_drewN ?_ _ | exact Below.refl _ _)))).mono ?_
  rintro e w' ⟨rfl, rfl⟩
  go_wp2_with fail
  refine (HAR.out _ (HB.out.below (by repeat (first | with_reducible exact Below.refl _ _ | exact Hid.out (by with_reducible assumption) | refine Below.setCell ?_ (by simp <;> omega) _ | refine below_alloc ?_ _ | refine Below.alloc ?_ (by simp <;> omega) _ | refine Below.drew ?_ | refine below_drewN ?_ _ | exact Below.refl _ _)))).mono ?_
  rintro e w1 ⟨rfl, hb1⟩
  have N1 := Lib.hid hb1
  have hz1 := hb1.size
  clear hb1
  have L1 := Lib.hid (show ((w1.alloc (.cells #[] 2)).alloc (.cells #[] 2)).ownsRow w.heap.size 2 1 (.slice (some ⟨w1.heap.size, 0, none⟩) 0 0) 0 (valsI []) from World.ownsRow.alloc (World.ownsRow_lit w1 #[] 0 hz1 (by unfold maxLen; omega) rfl) _)
  have L2 := Lib.hid (show ((w1.alloc (.cells #[] 2)).alloc (.cells #[] 2)).ownsRow w.heap.size 2 1 (.slice (some ⟨w1.heap.size + 1, 0, none⟩) 0 0) 0 (valsN []) from by simpa [valsN] using World.ownsRow_lit (w1.alloc (.cells #[] 2)) #[] (base := w.heap.size) (e := 2) 0 (by simp; omega) (by unfold maxLen; omega) rfl)
  go_wp2_with fail
  go_loopw [6, 7, 27] (fun pv ov iv wr => ∃ (t g1 c1 g2 c2 ol : Nat), t ≤ n ∧ iv = .int .i64 t ∧ pv = .slice (some ⟨g1, 0, none⟩) t c1 ∧ ov = .slice (some ⟨g2, 0, none⟩) ol c2 ∧ Hid (ol = (pst f g t).2.length) ∧ Hid (wr.ownsRow w.heap.size 2 1 (.slice (some ⟨g1, 0, none⟩) t c1) t (valsI (pst f g t).1)) ∧ Hid (wr.ownsRow w.heap.size 2 1 (.slice (some ⟨g2, 0, none⟩) ol c2) ol (valsN (pst f g t).2)) ∧ Hid (g1 ≠ g2) ∧ Hid (Below w.heap.size w wr)) (fun _ _ iv _ => n - (intOf iv).toNat)
  case atStart => exact ⟨0, _, _, _, _, 0, Nat.zero_le _, rfl, rfl, rfl, Lib.hid rfl, L1, L2, (by unfold Hid; simp), (by repeat (first | with_reducible exact Below.refl _ _ | exact Hid.out (by with_reducible assumption) | refine Below.setCell ?_ (by simp <;> omega) _ | refine below_alloc ?_ _ | refine Below.alloc ?_ (by simp <;> omega) _ | refine Below.drew ?_ | refine below_drewN ?_ _ | exact Below.refl _ _))⟩
  case round =>
    obtain ⟨t, g1, c1, g2, c2, ol, ht, rfl, rfl, rfl, hol, HR1, HR2, hneH, HB0⟩ := hrel
    by_cases hlt : t < n
    rotate_left
    · have d1 : ¬ (t : Int) < n := by omega
      obtain rfl : n = t := by omega
      obtain ⟨A5, c5, he5, hi5⟩ := IRes.row HR1.out (HPL.out n).1.symm HB0.out
      cases he5
      have HFIN := Lib.hid hi5
      clear hi5
      go_wp2_with fail
      refine bodyPost_ret (v := .tuple #[.slice (some ⟨g1, 0, none⟩) n c1, .bool true]) (by simp [results, Try.results57, go_sem]) rfl HFIN.out
    have d1 : (t : Int) < n := by omega
    have hne : g1 ≠ g2 := hneH.out
    have hg2l : g2 < wr.heap.size := (HR2.out.lt g2 rfl).2
    have hg1l : g1 < wr.heap.size := (HR1.out.lt g1 rfl).2
    obtain ⟨ft0, ftm⟩ := HWF.out t hlt
    have HST0 := Lib.hid (show pst f g (t + 1) = pstep (g (f t).toNat) t (pst f g t) from rfl)
    obtain ⟨pl1, pl2, pl3⟩ := HPL.out t
    obtain ⟨y, rfl, hy0⟩ := (HA.out.below HB0.out) t hlt
    have hy : ∀ W, Below w.heap.size w W → W.cell? (y.add t) = some (.int .i64 (f t)) := fun W hW => by
      obtain ⟨x, hx, h⟩ := (HA.out.below hW) t hlt
      cases hx
      exact h
    obtain ⟨z, rfl, hz0⟩ := (HB.out.below HB0.out) (f t).toNat ftm
    have hz : ∀ W, Below w.heap.size w W → W.cell? (z.add (f t).toNat) = some (.int .i64 (g (f t).toNat)) := fun W hW => by
      obtain ⟨x, hx, h⟩ := (HB.out.below hW) (f t).toNat ftm
      cases hx
      exact h
    clear hy0 hz0
    obtain ⟨a, ha⟩ : ∃ a : Nat, f t = (a : Int) := ⟨(f t).toNat, by omega⟩
    have hat : (f t).toNat = a := by omega
    rw [hat] at hz HST0 ftm
    rw [ha] at hy
    have d2 : (a : Int) < m := by omega
    have HY := Lib.hid hy
    have HZ := Lib.hid hz
    have hyr := hy wr HB0.out
    have hzr := hz wr HB0.out
    clear hy hz hat ha ft0 hneH
    have HOL0 := Lib.hid hol.out
    clear hol
    rcases hst : pst f g t with ⟨P, O⟩
    rw [hst] at HST0 pl1 pl2 pl3 HR1 HR2 HOL0
    dsimp only at HST0 pl1 pl2 pl3 HR1 HR2 HOL0
    have HOL := Lib.hid HOL0.out
    clear hst HOL0
    have hol13 : ol ≤ 12 := by have := HOL.out; omega
    have HX0 := Lib.hid (show ∀ x ∈ O, x < t from pl2)
    clear pl2
    generalize g a = cv at *
    by_cases h1c : cv = 1
    · have b1 : (cv == 1) = true := beq_iff_eq.2 h1c
      have HST := Lib.hid (show pst f g (t + 1) = (P ++ [-1], O ++ [t]) by rw [HST0.out]; unfold pstep; rw [if_pos h1c])
      clear HST0 h1c

      go_wp2_with (first
        | (at_builtin
           refine wpList_append_cells _ rfl _ _ 22 rfl w.heap.size 2 ia (.int .i64 0) 1 8 Try.underlying22 hia hza hsa hba rfl (by decide) (.slice (some ⟨g1, 0, none⟩) t c1) t _ rfl (HR1.out.alloc _)
             (some ⟨wr.heap.size, 0, none⟩) 1 1 (fun _ => .int .i64 (-1)) rfl (cells_lit1 rfl) (fun j _ => rfl) (by unfold maxLen; omega) (by omega) (by have := HB0.out.size; simp <;> omega) ?_
           intro v1 w2 hown hgrow hwhere
           rw [valsI_add] at hown
           obtain ⟨h1, e1, rfl, hb1, hl1⟩ := own_form hown
           have S1 := Lib.hid hown
           have S2 := Lib.hid (World.ownsRow.kept (HR2.out.alloc (.cells #[.int .i64 (-1)] 2)) hgrow (.inr (by simp only [Value.ownBlock]; exact fun e => hne (Option.some.inj e).symm)))
           have hne2 : h1 ≠ g2 := by
             rcases hwhere with h | h
             · simp only [Value.ownBlock] at h
               have := Option.some.inj h
               omega
             · simp only [Value.ownBlock] at h
               have := Option.some.inj h
               simp at this
               omega
           have HB2 := Lib.hid (show Below w.heap.size w w2 from Below.grown (Below.alloc HB0.out HB0.out.size _) hgrow (by have := HB0.out.size; simp; omega) (fun j hj => by have := (HR1.out.lt j hj).1; omega))
           have hsz2 : wr.heap.size + 1 ≤ w2.heap.size := by have := hgrow.size; simpa using this
           have hy2 := HY.out w2 HB2.out
           have hz2 := HZ.out w2 HB2.out
           clear hown hgrow hwhere HR1 HR2)
        | (at_builtin
           refine wpList_append_cells _ rfl _ _ 22 rfl w.heap.size 2 ia (.int .i64 0) 1 8 Try.underlying22 hia hza hsa hba rfl (by decide) (.slice (some ⟨g2, 0, none⟩) ol c2) ol _ rfl (S2.out.alloc _)
             (some ⟨w2.heap.size, 0, none⟩) 1 1 (fun _ => .int .i64 (t : Int)) rfl (cells_lit1 rfl) (fun j _ => rfl) (by unfold maxLen; omega) (by omega) (by have := HB2.out.size; simp <;> omega) ?_
           intro v3 w3 hown hgrow hwhere
           rw [valsN_add] at hown
           obtain ⟨h2, e2, rfl, hb2, hl2⟩ := own_form hown
           have R2 := Lib.hid hown
           have R1 := Lib.hid (World.ownsRow.kept (S1.out.alloc (.cells #[.int .i64 (t : Int)] 2)) hgrow (.inr (by simp only [Value.ownBlock]; exact fun e => hne2 (Option.some.inj e))))
           have hne3 : h1 ≠ h2 := by
             rcases hwhere with h | h
             · simp only [Value.ownBlock] at h
               have := Option.some.inj h
               omega
             · simp only [Value.ownBlock] at h
               have := Option.some.inj h
               simp at this
               omega
           have HB3 := Lib.hid (show Below w.heap.size w w3 from Below.grown (Below.alloc HB2.out HB2.out.size _) hgrow (by have := HB2.out.size; simp; omega) (fun j hj => by have := (S2.out.lt j hj).1; omega))
           clear hown hgrow hwhere S1 S2)
        | go_in)
      skip
      exact ⟨⟨t + 1, h1, e1, h2, e2, ol + 1, by omega, by simp, rfl, rfl, (by rw [HST.out]; unfold Hid; simp [HOL.out]), (by rw [HST.out]; exact R1.out), (by rw [HST.out]; exact R2.out), Lib.hid hne3, HB3⟩, by simp [intOf]; omega⟩
    have b1 : (cv == 1) = false := beq_eq_false_iff_ne.2 h1c
    by_cases h2c : cv = 2
    rotate_left
    · have b2 : (cv == 2) = false := beq_eq_false_iff_ne.2 h2c
      have HST := Lib.hid (show pst f g (t + 1) = (P ++ [-1], O) by rw [HST0.out]; unfold pstep; rw [if_neg h1c, if_neg h2c])
      clear HST0 h1c h2c

      go_wp2_with (first
        | (at_builtin
           refine wpList_append_cells _ rfl _ _ 22 rfl w.heap.size 2 ia (.int .i64 0) 1 8 Try.underlying22 hia hza hsa hba rfl (by decide) (.slice (some ⟨g1, 0, none⟩) t c1) t _ rfl (HR1.out.alloc _)
             (some ⟨wr.heap.size, 0, none⟩) 1 1 (fun _ => .int .i64 (-1)) rfl (cells_lit1 rfl) (fun j _ => rfl) (by unfold maxLen; omega) (by omega) (by have := HB0.out.size; simp <;> omega) ?_
           intro v1 w2 hown hgrow hwhere
           rw [valsI_add] at hown
           obtain ⟨h1, e1, rfl, hb1, hl1⟩ := own_form hown
           have S1 := Lib.hid hown
           have S2 := Lib.hid (World.ownsRow.kept (HR2.out.alloc (.cells #[.int .i64 (-1)] 2)) hgrow (.inr (by simp only [Value.ownBlock]; exact fun e => hne (Option.some.inj e).symm)))
           have hne2 : h1 ≠ g2 := by
             rcases hwhere with h | h
             · simp only [Value.ownBlock] at h
               have := Option.some.inj h
               omega
             · simp only [Value.ownBlock] at h
               have := Option.some.inj h
               simp at this
               omega
           have HB2 := Lib.hid (show Below w.heap.size w w2 from Below.grown (Below.alloc HB0.out HB0.out.size _) hgrow (by have := HB0.out.size; simp; omega) (fun j hj => by have := (HR1.out.lt j hj).1; omega))
           have hsz2 : wr.heap.size + 1 ≤ w2.heap.size := by have := hgrow.size; simpa using this
           have hy2 := HY.out w2 HB2.out
           have hz2 := HZ.out w2 HB2.out
           clear hown hgrow hwhere HR1 HR2)
        | go_in)
      exact ⟨⟨t + 1, h1, e1, g2, c2, ol, by omega, by simp, rfl, rfl, (by rw [HST.out]; unfold Hid; simp [HOL.out]), (by rw [HST.out]; exact S1.out), (by rw [HST.out]; exact S2.out), Lib.hid hne2, HB2⟩, by simp [intOf]; omega⟩
    have b2 : (cv == 2) = true := beq_iff_eq.2 h2c
    by_cases hO : ol = 0
    · subst hO
      have hO2 : O = [] := List.length_eq_zero_iff.1 HOL.out.symm
      have HST := Lib.hid (show pst f g (t + 1) = (P ++ [-1], O) by rw [HST0.out]; unfold pstep; rw [if_neg h1c, if_pos h2c, hO2]; rfl)
      clear HST0 h1c h2c hO2

      go_wp2_with (first
        | (at_builtin
           refine wpList_append_cells _ rfl _ _ 22 rfl w.heap.size 2 ia (.int .i64 0) 1 8 Try.underlying22 hia hza hsa hba rfl (by decide) (.slice (some ⟨g1, 0, none⟩) t c1) t _ rfl (HR1.out.alloc _)
             (some ⟨wr.heap.size, 0, none⟩) 1 1 (fun _ => .int .i64 (-1)) rfl (cells_lit1 rfl) (fun j _ => rfl) (by unfold maxLen; omega) (by omega) (by have := HB0.out.size; simp <;> omega) ?_
           intro v1 w2 hown hgrow hwhere
           rw [valsI_add] at hown
           obtain ⟨h1, e1, rfl, hb1, hl1⟩ := own_form hown
           have S1 := Lib.hid hown
           have S2 := Lib.hid (World.ownsRow.kept (HR2.out.alloc (.cells #[.int .i64 (-1)] 2)) hgrow (.inr (by simp only [Value.ownBlock]; exact fun e => hne (Option.some.inj e).symm)))
           have hne2 : h1 ≠ g2 := by
             rcases hwhere with h | h
             · simp only [Value.ownBlock] at h
               have := Option.some.inj h
               omega
             · simp only [Value.ownBlock] at h
               have := Option.some.inj h
               simp at this
               omega
           have HB2 := Lib.hid (show Below w.heap.size w w2 from Below.grown (Below.alloc HB0.out HB0.out.size _) hgrow (by have := HB0.out.size; simp; omega) (fun j hj => by have := (HR1.out.lt j hj).1; omega))
           have hsz2 : wr.heap.size + 1 ≤ w2.heap.size := by have := hgrow.size; simpa using this
           have hy2 := HY.out w2 HB2.out
           have hz2 := HZ.out w2 HB2.out
           clear hown hgrow hwhere HR1 HR2)
        | go_in)
      exact ⟨⟨t + 1, h1, e1, g2, c2, 0, by omega, by simp, rfl, rfl, (by rw [HST.out]; unfold Hid; simp [HOL.out]), (by rw [HST.out]; exact S1.out), (by rw [HST.out]; exact S2.out), Lib.hid hne2, HB2⟩, by simp [intOf]; omega⟩
    obtain ⟨O', x, hOx⟩ : ∃ (O' : List Nat) (x : Nat), O = O' ++ [x] := ⟨O.dropLast, O.getLast (by intro e; rw [e] at HOL; exact hO HOL.out), (List.dropLast_concat_getLast _).symm⟩
    have hxt : x < t := HX0.out x (by rw [hOx]; simp)
    obtain ⟨o, rfl⟩ : ∃ o, ol = o + 1 := ⟨ol - 1, by omega⟩
    have hOl : O'.length = o := by have := HOL.out; rw [hOx] at this; simp at this; omega
    have HST := Lib.hid (show pst f g (t + 1) = (((P ++ [-1]).set t (x : Int)).set x (t : Int), O') by
      rw [HST0.out]
      unfold pstep
      rw [if_neg h1c, if_pos h2c, hOx]
      simp)
    subst hOx
    have d3 : (0 : Int) < ((o + 1 : Nat) : Int) := by omega
    have d4 : (0 : Int) ≤ (o : Int) := by omega
    have d6 : (o : Int) < ((o + 1 : Nat) : Int) := by omega
    have d7 : (o : Int) < (o : Int) + 1 := by omega
    have d8 : (t : Int) < ((t + 1 : Nat) : Int) := by omega
    have d9 : (t : Int) < (t : Int) + 1 := by omega
    have d10 : (x : Int) < (t : Int) + 1 := by omega
    clear HST0 h1c h2c HX0

    go_wp2_with (first
      | (at_builtin
         refine wpList_append_cells _ rfl _ _ 22 rfl w.heap.size 2 ia (.int .i64 0) 1 8 Try.underlying22 hia hza hsa hba rfl (by decide) (.slice (some ⟨g1, 0, none⟩) t c1) t _ rfl (HR1.out.alloc _)
           (some ⟨wr.heap.size, 0, none⟩) 1 1 (fun _ => .int .i64 (-1)) rfl (cells_lit1 rfl) (fun j _ => rfl) (by unfold maxLen; omega) (by omega) (by have := HB0.out.size; simp <;> omega) ?_
         intro v1 w2 hown hgrow hwhere
         rw [valsI_add] at hown
         obtain ⟨h1, e1, rfl, hb1, hl1⟩ := own_form hown
         have S1 := Lib.hid hown
         have S2 := Lib.hid (World.ownsRow.kept (HR2.out.alloc (.cells #[.int .i64 (-1)] 2)) hgrow (.inr (by simp only [Value.ownBlock]; exact fun e => hne (Option.some.inj e).symm)))
         have hne2 : h1 ≠ g2 := by
           rcases hwhere with h | h
           · simp only [Value.ownBlock] at h
             have := Option.some.inj h
             omega
           · simp only [Value.ownBlock] at h
             have := Option.some.inj h
             simp at this
             omega
         have HB2 := Lib.hid (show Below w.heap.size w w2 from Below.grown (Below.alloc HB0.out HB0.out.size _) hgrow (by have := HB0.out.size; simp; omega) (fun j hj => by have := (HR1.out.lt j hj).1; omega))
         have hsz2 : wr.heap.size + 1 ≤ w2.heap.size := by have := hgrow.size; simpa using this
         have hy2 := HY.out w2 HB2.out
         have hz2 := HZ.out w2 HB2.out
         have c2x : w2.cell? ⟨g2, o, none⟩ = some (.int .i64 (x : Int)) := by rw [S2.out.cellAt o (by omega)]; unfold valsN; simp [hOl]
         have cap2 : (o : Int) ≤ (c2 : Int) := by
           rcases S2.out.2 with ⟨e, -⟩ | ⟨q1, q2, q3, e, -, -, hc, -⟩
           · cases e
           · cases e; omega
         have ft1 : w2.frozen? ⟨h1, t, none⟩ = false := S1.out.frozenAt t
         have ct1 : w2.cell? ⟨h1, t, none⟩ = some (.int .i64 (-1)) := by rw [S1.out.cellAt t (by omega)]; unfold valsI; simp [pl1]
         have T1 := Lib.hid (S1.out.stored t (.int .i64 (x : Int))).1
         have fx1 : (w2.setCell ⟨h1, t, none⟩ (.int .i64 (x : Int))).frozen? ⟨h1, x, none⟩ = false := T1.out.frozenAt x
         obtain ⟨ux, cx1⟩ : ∃ u, (w2.setCell ⟨h1, t, none⟩ (.int .i64 (x : Int))).cell? ⟨h1, x, none⟩ = some u := by
           rw [T1.out.cellAt x (by omega)]
           exact ⟨_, List.getElem?_eq_getElem (by simp [valsI, pl1]; omega)⟩
         have R1 := Lib.hid (show ((w2.setCell ⟨h1, t, none⟩ (.int .i64 (x : Int))).setCell ⟨h1, x, none⟩ (.int .i64 (t : Int))).ownsRow w.heap.size 2 1 (.slice (some ⟨h1, 0, none⟩) (t + 1) e1) (t + 1) (valsI (((P ++ [-1]).set t (x : Int)).set x (t : Int))) from by
           have h := (T1.out.stored x (.int .i64 (t : Int))).1
           rw [valsI_set, valsI_set] at h
           exact h)
         have R2 := Lib.hid (show ((w2.setCell ⟨h1, t, none⟩ (.int .i64 (x : Int))).setCell ⟨h1, x, none⟩ (.int .i64 (t : Int))).ownsRow w.heap.size 2 1 (.slice (some ⟨g2, 0, none⟩) o c2) o (valsN O') from by
           have h := ownsRow_setCell_other (ownsRow_setCell_other S2.out (a := ⟨h1, t, none⟩) (by simp only [Value.ownBlock]; exact fun e => hne2 (Option.some.inj e).symm) (.int .i64 (x : Int))) (a := ⟨h1, x, none⟩) (by simp only [Value.ownBlock]; exact fun e => hne2 (Option.some.inj e).symm) (.int .i64 (t : Int))
           have e : valsN (O' ++ [x]) = valsN O' ++ [.int .i64 (x : Int)] := by unfold valsN; simp
           rw [e] at h
           exact ownsRow_pop (by unfold valsN; simp [hOl]) h)
         have dx1 : (x : Int) < ((t + 1 : Nat) : Int) := by omega
         clear hown hgrow hwhere HR1 HR2)
      | go_in)
    go_region_law (fail)
    all_goals (
      go_wp2_with fail
      first
        | exact ⟨⟨t + 1, h1, e1, g2, c2, o, by omega, by simp, rfl, rfl, (by rw [HST.out]; unfold Hid; exact hOl.symm), (by rw [HST.out]; exact R1.out), (by rw [HST.out]; exact R2.out), Lib.hid hne2, (by repeat (first | with_reducible exact Below.refl _ _ | exact Hid.out (by with_reducible assumption) | refine Below.setCell ?_ (by simp <;> omega) _ | refine below_alloc ?_ _ | refine Below.alloc ?_ (by simp <;> omega) _ | refine Below.drew ?_ | refine below_drewN ?_ _ | exact Below.refl _ _))⟩, by simp [intOf]; omega⟩
        | exact ⟨⟨t + 1, h1, e1, g2, c2, o, by omega, by simp, rfl, rfl, (by rw [HST.out]; unfold Hid; exact hOl.symm), (by rw [HST.out]; exact R1.out.drew), (by rw [HST.out]; exact R2.out.drew), Lib.hid hne2, (by repeat (first | with_reducible exact Below.refl _ _ | exact Hid.out (by with_reducible assumption) | refine Below.setCell ?_ (by simp <;> omega) _ | refine below_alloc ?_ _ | refine Below.alloc ?_ (by simp <;> omega) _ | refine Below.drew ?_ | refine below_drewN ?_ _ | exact Below.refl _ _))⟩, by simp [intOf]; omega⟩)
end Go.Proofs.Ytfpombhhnojjhaa
