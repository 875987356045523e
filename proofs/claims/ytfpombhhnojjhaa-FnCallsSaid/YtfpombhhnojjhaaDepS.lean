/- How many calls are open: both sides. -/
import Derived.Test.YtfpombhhnojjhaaDep0
set_option linter.unusedVariables false
set_option linter.unusedSimpArgs false
namespace Go.Proofs.Ytfpombhhnojjhaa
open Go.RowKit
theorem ownsRow_le {w : World} {base base' : Nat} {e : TypeId} {size : Nat} {v : Value} {n : Nat} {xs : List Value} (h : w.ownsRow base e size v n xs) (hb : base' ≤ base) : w.ownsRow base' e size v n xs := by
  obtain ⟨p, q⟩ := h
  refine ⟨p, ?_⟩
  rcases q with q | ⟨g, cap, cur, hv, hg, r⟩
  · exact .inl q
  · exact .inr ⟨g, cap, cur, hv, Nat.le_trans hb hg, r⟩
set_option maxRecDepth 20000 in
set_option maxHeartbeats 8000000 in
theorem implDepthsOf_any (A : Option Addr) (n c : Nat) (f : Nat → Int) (B : Option Addr) (m d : Nat) (g : Nat → Int) (w : World) (hn : n ≤ 1048576) (hA : Cells w A n (fun i => .int .i64 (f i))) (hm : m ≤ 1048576) (hB : Cells w B m (fun i => .int .i64 (g i))) :
    Calls Try.prog 58 #[.slice A n c, .slice B m d] w fun e w' => IRes w w' e (partOk n f m g) (partN n f m g) (depF n f g) := by
  obtain ⟨ia, hia, hza, hsa, hba⟩ := info_parts infoCI
  have HA := Lib.hid hA
  have HB := Lib.hid hB
  have HK := Lib.hid (implPartnersOf_any A n c f B m d g w hn hA hm hB)
  have HOK := Lib.hid (fun (h : partOk n f m g = true) => partOk_facts h)
  unfold partN at *
  clear hA hB
  generalize partOk n f m g = r at *
  cases r
  · go_enter Try.func58, Try.ntmps58
    go_wp2_with fail
    refine HK.out.mono ?_
    rintro e w3 ⟨T, c1, g1, rfl, -, -, -, hb⟩
    have N3 := Lib.hid hb
    clear hb
    go_wp2_with fail
    refine bodyPost_ret (v := .tuple #[.slice none 0 0, .bool false]) (by simp [results, Try.results58, go_sem]) rfl (IRes.none_ rfl (by repeat (first | with_reducible exact Below.refl _ _ | exact Hid.out (by with_reducible assumption) | refine Below.setCell ?_ (by simp <;> omega) _ | refine below_alloc ?_ _ | refine Below.alloc ?_ (by simp <;> omega) _ | refine Below.drew ?_ | refine below_drewN ?_ _ | exact Below.refl _ _)))
  obtain ⟨m1, m4, n12, hwf⟩ := HOK.out rfl
  have HWF := Lib.hid hwf
  clear HOK hwf
  go_enter Try.func58, Try.ntmps58
  go_wp2_with fail
  refine HK.out.mono ?_
  rintro e w3 ⟨T, c1, g1, rfl, -, -, ho, hb⟩
  have N3 := Lib.hid hb
  have hz3 := hb.size
  have CP := Lib.hid (show Cells w3 T n (fun i => .int .i64 (partF n f g i)) from ho.cells)
  clear hb ho
  have L1 := Lib.hid (show (w3.alloc (.cells #[] 2)).ownsRow w3.heap.size 2 1 (.slice (some ⟨w3.heap.size, 0, none⟩) 0 0) 0 (valsI []) from World.ownsRow_lit w3 #[] 0 (Nat.le_refl _) (by unfold maxLen; omega) rfl)
  go_wp2_with fail
  go_loopw [8, 9, 23] (fun rv dv iv wr => ∃ (t : Nat) (v : Value), t ≤ n ∧ iv = .int .i64 t ∧ v = rv ∧ dv = .int .i64 ((depV f g t : Nat) : Int) ∧ Hid (wr.ownsRow w3.heap.size 2 1 v t (valsI (depL f g t))) ∧ Hid (Below w.heap.size w wr) ∧ Hid (Below w3.heap.size w3 wr)) (fun _ _ iv _ => n - (intOf iv).toNat)
  case atStart => exact ⟨0, _, Nat.zero_le _, rfl, rfl, rfl, L1, (by repeat (first | with_reducible exact Below.refl _ _ | exact Hid.out (by with_reducible assumption) | refine Below.setCell ?_ (by simp <;> omega) _ | refine below_alloc ?_ _ | refine Below.alloc ?_ (by simp <;> omega) _ | refine Below.drew ?_ | refine below_drewN ?_ _ | exact Below.refl _ _)), (Below.refl _ _).alloc (Nat.le_refl _) _⟩
  case round =>
    obtain ⟨t, v, ht, rfl, rfl, rfl, HR1, HB0, HCP⟩ := hrel
    by_cases hlt : t < n
    rotate_left
    · have d1 : ¬ (t : Int) < n := by omega
      obtain rfl : n = t := by omega
      obtain ⟨A5, c5, he5, hi5⟩ := IRes.row (ownsRow_le HR1.out hz3) (depL_len f g n).symm HB0.out
      subst he5
      have HFIN := Lib.hid hi5
      clear hi5
      generalize ((depV f g n : Nat) : Int) = dn at *
      go_wp2_with fail
      refine bodyPost_ret (v := .tuple #[.slice A5 n c5, .bool true]) (by simp [results, Try.results58, go_sem]) rfl HFIN.out
    have d1 : (t : Int) < n := by omega
    obtain ⟨ft0, ftm⟩ := HWF.out t hlt
    have HD1 := Lib.hid (fun h => dep_1 (f := f) (g := g) (t := t) h)
    have HD2 := Lib.hid (fun h => dep_2 (f := f) (g := g) (t := t) h)
    have HD0 := Lib.hid (fun h1 h2 => dep_0 (f := f) (g := g) (t := t) h1 h2)
    have hDle := dep_le f g t
    have hd2 := dep_le f g (t + 1)
    obtain ⟨y, rfl, hy0⟩ := (HA.out.below HB0.out) t hlt
    have hy : wr.cell? (y.add t) = some (.int .i64 (f t)) := hy0
    obtain ⟨z, rfl, hz0⟩ := (HB.out.below HB0.out) (f t).toNat ftm
    have hz : wr.cell? (z.add (f t).toNat) = some (.int .i64 (g (f t).toNat)) := hz0
    clear hy0 hz0
    obtain ⟨q, rfl, hq0⟩ := (CP.out.below HCP.out) t hlt
    have hq1 : wr.cell? (q.add t) = some (.int .i64 (partF n f g t)) := hq0
    have HRP := Lib.hid (fun h => ret_part (f := f) (g := g) (n := n) (a := t) hlt h)
    clear hq0

    obtain ⟨a, ha⟩ : ∃ a : Nat, f t = (a : Int) := ⟨(f t).toNat, by omega⟩
    have hat : (f t).toNat = a := by omega
    rw [hat] at hz HD1 HD2 HD0 HRP ftm
    rw [ha] at hy
    have d2 : (a : Int) < m := by omega
    clear hat ha ft0
    generalize g a = cv at *
    generalize hDD : depV f g t = D at *
    generalize partF n f g t = pv at *
    by_cases h1c : cv = 1
    · have b1 : (cv == 1) = true := beq_iff_eq.2 h1c
      have HND := Lib.hid (show (D : Int) + 1 = ((depV f g (t + 1) : Nat) : Int) by rw [HD1.out h1c]; simp)
      clear HD1 HD2 HD0 HRP hDD h1c
      go_wp2_with (first
        | (at_builtin
           refine wpList_append_cells _ rfl _ _ 22 rfl w3.heap.size 2 ia (.int .i64 0) 1 8 Try.underlying22 hia hza hsa hba rfl (by decide) v t _ rfl (HR1.out.alloc _)
             (some ⟨wr.heap.size, 0, none⟩) 1 1 (fun _ => .int .i64 ((D : Int) + 1)) rfl (cells_lit1 rfl) (fun j _ => rfl) (by unfold maxLen; omega) (by omega) (by have := HCP.out.size; simp <;> omega) ?_
           intro v1 w2 hown hgrow hwhere
           rw [valsI_add] at hown
           have S1 := Lib.hid (show w2.ownsRow w3.heap.size 2 1 v1 (t + 1) (valsI (depL f g (t + 1))) from by rw [depL_step, ← HND.out]; exact hown)
           have HB2 := Lib.hid (show Below w.heap.size w w2 from Below.grown (Below.alloc HB0.out HB0.out.size _) hgrow (by have := HB0.out.size; simp; omega) (fun j hj => by have := (HR1.out.lt j hj).1; omega))
           have HCP2 := Lib.hid (show Below w3.heap.size w3 w2 from Below.grown (Below.alloc HCP.out HCP.out.size _) hgrow (by have := HCP.out.size; simp; omega) (fun j hj => (HR1.out.lt j hj).1))
           clear hown hgrow hwhere)
        | go_in)
      exact ⟨⟨t + 1, v1, by omega, by simp, rfl, (by rw [← HND.out]), S1, HB2, HCP2⟩, by simp [intOf]; omega⟩
    have b1 : (cv == 1) = false := beq_eq_false_iff_ne.2 h1c
    by_cases h2c : cv = 2
    · have b2 : (cv == 2) = true := beq_iff_eq.2 h2c
      by_cases hD : D = 0
      · have b3 : (pv != -1) = false := by rw [(HRP.out h2c).2 hD]; rfl
        have HND := Lib.hid (show (D : Int) = ((depV f g (t + 1) : Nat) : Int) by rw [HD2.out h2c, hD])
        clear HD1 HD2 HD0 HRP hDD h1c h2c hD
        go_wp2_with (first
          | (at_builtin
             refine wpList_append_cells _ rfl _ _ 22 rfl w3.heap.size 2 ia (.int .i64 0) 1 8 Try.underlying22 hia hza hsa hba rfl (by decide) v t _ rfl (HR1.out.alloc _)
               (some ⟨wr.heap.size, 0, none⟩) 1 1 (fun _ => .int .i64 ((D : Int))) rfl (cells_lit1 rfl) (fun j _ => rfl) (by unfold maxLen; omega) (by omega) (by have := HCP.out.size; simp <;> omega) ?_
             intro v1 w2 hown hgrow hwhere
             rw [valsI_add] at hown
             have S1 := Lib.hid (show w2.ownsRow w3.heap.size 2 1 v1 (t + 1) (valsI (depL f g (t + 1))) from by rw [depL_step, ← HND.out]; exact hown)
             have HB2 := Lib.hid (show Below w.heap.size w w2 from Below.grown (Below.alloc HB0.out HB0.out.size _) hgrow (by have := HB0.out.size; simp; omega) (fun j hj => by have := (HR1.out.lt j hj).1; omega))
             have HCP2 := Lib.hid (show Below w3.heap.size w3 w2 from Below.grown (Below.alloc HCP.out HCP.out.size _) hgrow (by have := HCP.out.size; simp; omega) (fun j hj => (HR1.out.lt j hj).1))
             clear hown hgrow hwhere)
          | go_in)
        exact ⟨⟨t + 1, v1, by omega, by simp, rfl, (by rw [← HND.out]), S1, HB2, HCP2⟩, by simp [intOf]; omega⟩
      · have b3 : (pv != -1) = true := bne_iff_ne.2 fun e => hD ((HRP.out h2c).1 e)
        have HND := Lib.hid (show (D : Int) - 1 = ((depV f g (t + 1) : Nat) : Int) by rw [HD2.out h2c]; omega)
        clear HD1 HD2 HD0 HRP hDD h1c h2c
        go_wp2_with (first
          | (at_builtin
             refine wpList_append_cells _ rfl _ _ 22 rfl w3.heap.size 2 ia (.int .i64 0) 1 8 Try.underlying22 hia hza hsa hba rfl (by decide) v t _ rfl (HR1.out.alloc _)
               (some ⟨wr.heap.size, 0, none⟩) 1 1 (fun _ => .int .i64 ((D : Int) - 1)) rfl (cells_lit1 rfl) (fun j _ => rfl) (by unfold maxLen; omega) (by omega) (by have := HCP.out.size; simp <;> omega) ?_
             intro v1 w2 hown hgrow hwhere
             rw [valsI_add] at hown
             have S1 := Lib.hid (show w2.ownsRow w3.heap.size 2 1 v1 (t + 1) (valsI (depL f g (t + 1))) from by rw [depL_step, ← HND.out]; exact hown)
             have HB2 := Lib.hid (show Below w.heap.size w w2 from Below.grown (Below.alloc HB0.out HB0.out.size _) hgrow (by have := HB0.out.size; simp; omega) (fun j hj => by have := (HR1.out.lt j hj).1; omega))
             have HCP2 := Lib.hid (show Below w3.heap.size w3 w2 from Below.grown (Below.alloc HCP.out HCP.out.size _) hgrow (by have := HCP.out.size; simp; omega) (fun j hj => (HR1.out.lt j hj).1))
             clear hown hgrow hwhere)
          | go_in)
        exact ⟨⟨t + 1, v1, by omega, by simp, rfl, (by rw [← HND.out]), S1, HB2, HCP2⟩, by simp [intOf]; omega⟩
    have b2 : (cv == 2) = false := beq_eq_false_iff_ne.2 h2c
    have HND := Lib.hid (show (D : Int) = ((depV f g (t + 1) : Nat) : Int) by rw [HD0.out h1c h2c])
    clear HD1 HD2 HD0 HRP hDD h1c h2c
    go_wp2_with (first
      | (at_builtin
         refine wpList_append_cells _ rfl _ _ 22 rfl w3.heap.size 2 ia (.int .i64 0) 1 8 Try.underlying22 hia hza hsa hba rfl (by decide) v t _ rfl (HR1.out.alloc _)
           (some ⟨wr.heap.size, 0, none⟩) 1 1 (fun _ => .int .i64 ((D : Int))) rfl (cells_lit1 rfl) (fun j _ => rfl) (by unfold maxLen; omega) (by omega) (by have := HCP.out.size; simp <;> omega) ?_
         intro v1 w2 hown hgrow hwhere
         rw [valsI_add] at hown
         have S1 := Lib.hid (show w2.ownsRow w3.heap.size 2 1 v1 (t + 1) (valsI (depL f g (t + 1))) from by rw [depL_step, ← HND.out]; exact hown)
         have HB2 := Lib.hid (show Below w.heap.size w w2 from Below.grown (Below.alloc HB0.out HB0.out.size _) hgrow (by have := HB0.out.size; simp; omega) (fun j hj => by have := (HR1.out.lt j hj).1; omega))
         have HCP2 := Lib.hid (show Below w3.heap.size w3 w2 from Below.grown (Below.alloc HCP.out HCP.out.size _) hgrow (by have := HCP.out.size; simp; omega) (fun j hj => (HR1.out.lt j hj).1))
         clear hown hgrow hwhere)
      | go_in)
    exact ⟨⟨t + 1, v1, by omega, by simp, rfl, (by rw [← HND.out]), S1, HB2, HCP2⟩, by simp [intOf]; omega⟩
end Go.Proofs.Ytfpombhhnojjhaa
