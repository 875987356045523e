/- Arcs that lead back: impl.turnedArcs. -/
import Derived.Test.YtahlakhoocjkoaaClone
import Derived.Test.YtahlakhoocjkoaaArcM
import Derived.Deep.CutRange
set_option linter.unusedVariables false
namespace Go.Proofs.Ytahlakhoocjkoaa
open Go.RowKit

/-- An arc's number, read backwards. -/
def backF (f : Nat → Int) (i : Nat) : Int := f (if i % 4 = 0 then i + 1 else if i % 4 = 1 then i - 1 else i)
def partBack (f : Nat → Int) (k i : Nat) : Value := .int .i64 (if i < k * 4 then backF f i else f i)
theorem partBack_step (f : Nat → Int) (k : Nat) : (fun i => if i = k * 4 + 1 then Value.int .i64 (f (k * 4)) else (if i = k * 4 then Value.int .i64 (f (k * 4 + 1)) else partBack f k i)) = partBack f (k + 1) := by
  funext i
  unfold partBack
  by_cases h1 : i = k * 4 + 1
  · subst h1
    rw [if_pos rfl, if_pos (by omega)]
    unfold backF
    rw [if_neg (by omega), if_pos (by omega)]
    rfl
  · rw [if_neg h1]
    by_cases h0 : i = k * 4
    · subst h0
      rw [if_pos rfl, if_pos (by omega)]
      unfold backF
      rw [if_pos (by omega)]
    · rw [if_neg h0]
      by_cases h : i < k * 4
      · rw [if_pos h, if_pos (by omega)]
      · by_cases h4 : i < (k + 1) * 4
        · rw [if_neg h, if_pos h4]
          unfold backF
          rw [if_neg (by omega), if_neg (by omega)]
        · rw [if_neg h, if_neg h4]

set_option maxRecDepth 20000 in
set_option maxHeartbeats 2000000 in
theorem turnedArcs_any (a : Option Addr) (n c : Nat) (f : Nat → Int) (w : World) (hn : n ≤ 1048576) (h : Cells w a (n * 4) (fun i => .int .i64 (f i))) :
    Calls Try.prog 75 #[.slice a n c] w fun e w' => RowRes w w' e n 4 (fun i => .int .i64 (backF f i)) := by
  have HC := Lib.hid (cloneA_any a n c f w hn h)
  clear h
  go_enter Try.func75, Try.ntmps75
  go_wp2_with fail
  refine HC.out.mono ?_
  rintro e w1 ⟨A, d, g, rfl, hg, ho, hb⟩
  have HG := Lib.hid hg
  have HB1 := Lib.hid hb
  have HO := Lib.hid (show OwnC w1 g A (n * 4) (partBack f 0) from ho.congr fun i hi => by unfold partBack; rw [if_neg (by omega)])
  clear hg hb ho
  go_wp2_with fail
  go_loopw [4, 5, 10] (fun _ _ r wr => ∃ k : Nat, k ≤ n ∧ r = .int .i64 k ∧ Hid (Below w.heap.size w wr) ∧ Hid (OwnC wr g A (n * 4) (partBack f k))) (fun _ _ r _ => n - (intOf r).toNat)
  case atStart => exact ⟨0, Nat.zero_le _, rfl, HB1.out, HO.out⟩
  case round =>
    obtain ⟨k, hk, rfl, HB, HP⟩ := hrel
    by_cases hlt : k < n
    · have d1 : (k : Int) < n := by omega
      obtain ⟨x, rfl, hxg, -, -⟩ := HP.out (k * 4) (by omega)
      have hd : ∀ j, j < 4 → wr.frozen? (x.add (k * 4 + j)) = false ∧ wr.cell? (x.add (k * 4 + j)) = some (.int .i64 (f (k * 4 + j))) := fun j hj => by
        obtain ⟨y, hy, _, h3, h4⟩ := HP.out (k * 4 + j) (by omega)
        cases hy
        unfold partBack at h4
        rw [if_neg (by omega)] at h4
        exact ⟨h3, h4⟩
      obtain ⟨f0, t0⟩ := hd 0 (by omega)
      obtain ⟨f1, t1⟩ := hd 1 (by omega)
      obtain ⟨f2, t2⟩ := hd 2 (by omega)
      obtain ⟨f3, t3⟩ := hd 3 (by omega)
      rw [Nat.add_zero] at f0 t0
      rw [← add_add', add_pos (by omega)] at f1 t1 f2 t2 f3 t3
      have hlt0 := World.block_lt_of_cell? _ _ t0
      have hlt1 := World.block_lt_of_cell? _ _ t1
      have z0 : ∀ o, (wr.alloc o).cell? (x.add (k * 4)) = some (.int .i64 (f (k * 4))) := fun o => by rw [World.cell?_alloc_lt _ _ _ hlt0]; exact t0
      have z1 : ∀ o, (wr.alloc o).cell? ⟨(x.add (k * 4)).block, (x.add (k * 4)).off + 1, none⟩ = some (.int .i64 (f (k * 4 + 1))) := fun o => by rw [World.cell?_alloc_lt _ _ _ hlt1]; exact t1
      have y0 : ∀ o, (wr.alloc o).frozen? (x.add (k * 4)) = false := fun o => by rw [((Below.refl _ _).alloc (Nat.le_refl _) o : Below wr.heap.size wr _).frozen hlt0]; exact f0
      have y1 : ∀ o, (wr.alloc o).frozen? ⟨(x.add (k * 4)).block, (x.add (k * 4)).off + 1, none⟩ = false := fun o => by rw [((Below.refl _ _).alloc (Nat.le_refl _) o : Below wr.heap.size wr _).frozen hlt1]; exact f1
      have m1 : ¬ (x.add (k * 4) = (⟨(x.add (k * 4)).block, (x.add (k * 4)).off + 1, none⟩ : Addr)) := fun e => by have := congrArg Addr.off e; simp at this
      have l1 : ¬ ((⟨(x.add (k * 4)).block, (x.add (k * 4)).off + 1, none⟩ : Addr) = x.add (k * 4)) := fun e => m1 e.symm
      have nb : ¬ wr.heap.size = (x.add (k * 4)).block := by omega
      have nb2 : ¬ (x.add (k * 4)).block = wr.heap.size := by omega
      have nc : ∀ o, ¬ ((⟨wr.heap.size, o, none⟩ : Addr) = x.add (k * 4)) := fun o e => nb (congrArg Addr.block e)
      have nd : ∀ o, ¬ (x.add (k * 4) = (⟨wr.heap.size, o, none⟩ : Addr)) := fun o e => nb2 (congrArg Addr.block e)
      have HX := Lib.hid hxg
      have HS := Lib.hid (fun o => by
        have b1 := OwnC.set (HP.out.below (w' := wr.alloc o) ((Below.refl _ _).alloc (Nat.le_refl _) o)) rfl (k := k * 4) (by omega) (.int .i64 (f (k * 4 + 1)))
        have b2 := OwnC.set b1 rfl (k := k * 4 + 1) (by omega) (.int .i64 (f (k * 4)))
        rw [← add_add' x (k * 4) 1, add_pos (a := x.add (k * 4)) (j := 1) (by omega), partBack_step] at b2
        exact b2)
      have HW := Lib.hid (fun o => (show Below w.heap.size w (((wr.alloc o).setCell (x.add (k * 4)) (.int .i64 (f (k * 4 + 1)))).setCell ⟨(x.add (k * 4)).block, (x.add (k * 4)).off + 1, none⟩ (.int .i64 (f (k * 4)))) from
        ((HB.out.alloc HB.out.size o).setCell (by have := HG.out; rw [block_add]; omega) _).setCell (by have := HG.out; have e := block_add x (k * 4); simp only [e]; omega) _))
      have HL := Lib.hid hlt0
      clear hd f2 f3 hlt0 hlt1 hxg
      go_upto_region 5 with fail
      go_region
      all_goals (go_wp2_with fail; exact ⟨⟨k + 1, by omega, by simp, (HW.out _).drew, (HS.out _).below (Below.drew (Below.refl _ _))⟩, by simp [intOf]; omega⟩)
    · have d1 : ¬ (k : Int) < n := by omega
      have e : k = n := by omega
      subst e
      go_wp2_with fail
      go_ret
      exact ⟨A, d, g, rfl, HG.out, HP.out.congr fun i hi => by unfold partBack; rw [if_pos hi], HB.out⟩
end Go.Proofs.Ytahlakhoocjkoaa
