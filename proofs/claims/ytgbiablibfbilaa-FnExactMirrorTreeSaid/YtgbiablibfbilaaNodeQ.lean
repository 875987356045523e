/- The tree of a list, and whether a list is a tree: the program's. -/
import Derived.Test.YtgbiablibfbilaaNodeP
import Derived.Test.YtgbiablibfbilaaTreeE
set_option linter.unusedVariables false
namespace Go.Proofs.Ytgbiablibfbilaa
open Go.RowKit Go.Shelf
attribute [local go_sem] Oper.semAt_some
/-- The tree of a list for letters. -/
def nodeOfT (l : Int) (L : List Int) : Option Tr := if inB l 1 4 = true then trOf l L else none
theorem nodeOfT_some (l : Int) (L : List Int) : (nodeOfT l L).isSome = (inB l 1 4 && (trOf l L).isSome) := by
  unfold nodeOfT
  cases inB l 1 4 <;> rfl
set_option maxRecDepth 100000 in
set_option maxHeartbeats 2000000 in
theorem nodeOf_no (F : Fence) (N : Nat) (hf : F.fn 68) (hbf : F.fn 52) (hro : F.round = none) (hN : 4 ≤ N) (hbt : ∀ m n a b W, CallsIn F m Try.prog 52 #[.int .i64 n, .int .i64 a, .int .i64 b] W fun e w' => e = .returned (.bool (inB n a b)) ∧ w' = W)
    (A : Option Addr) (n c : Nat) (l : Int) (w : World) (hno : inB l 1 4 = true → 23 < n) :
    CallsIn F N Try.prog 68 #[.slice A n c, .int .i64 l] w fun e w' => e = .returned (.tuple #[.nilIface, .bool false]) ∧ Below w.heap.size w w' := by
  have h1 : 1 ≤ N := by omega
  have HB := Lib.hid hbt
  clear hbt
  cases hb0 : inB l 1 4
  · clear hno
    refine callsIn_of_wp_marks Try.func68 rfl hf ?_ hro
    simp only [Try.ntmps68, List.size_toArray, List.length_cons, List.length_nil, Nat.reduceAdd, Nat.reduceSub, Array.replicate_succ, Array.replicate_zero, List.push_toArray, List.append_toArray, List.nil_append, List.cons_append]
    gi_wp2_with (gi_at_call 52; refine (HB.out _ _ _ _ _).mono ?_; rintro e w' ⟨rfl, hw⟩; obtain rfl := hw.symm; clear hw; rw [hb0])
    refine ⟨.tuple #[.nilIface, .bool false], ?_, rfl, (by repeat (first | with_reducible exact Below.refl _ _ | exact Hid.out (by with_reducible assumption) | refine Below.setCell ?_ (by simp <;> omega) _ | refine below_alloc ?_ _ | refine Below.alloc ?_ (by simp <;> omega) _ | refine Below.drew ?_ | refine below_drewN ?_ _ | exact Below.refl _ _))⟩
    simp [results, Try.f68, go_sem]
  · have d1 : (23 : Int) < n := by have := hno hb0; omega
    clear hno
    refine callsIn_of_wp_marks Try.func68 rfl hf ?_ hro
    simp only [Try.ntmps68, List.size_toArray, List.length_cons, List.length_nil, Nat.reduceAdd, Nat.reduceSub, Array.replicate_succ, Array.replicate_zero, List.push_toArray, List.append_toArray, List.nil_append, List.cons_append]
    gi_wp2_with (gi_at_call 52; refine (HB.out _ _ _ _ _).mono ?_; rintro e w' ⟨rfl, hw⟩; obtain rfl := hw.symm; clear hw; rw [hb0])
    refine ⟨.tuple #[.nilIface, .bool false], ?_, rfl, (by repeat (first | with_reducible exact Below.refl _ _ | exact Hid.out (by with_reducible assumption) | refine Below.setCell ?_ (by simp <;> omega) _ | refine below_alloc ?_ _ | refine Below.alloc ?_ (by simp <;> omega) _ | refine Below.drew ?_ | refine below_drewN ?_ _ | exact Below.refl _ _))⟩
    simp [results, Try.f68, go_sem]
theorem nodeOf_any (A : Option Addr) (n c : Nat) (f : Nat → Int) (l : Int) (w : World) (h : Cells w A n (fun i => .int .i64 (f i))) :
    Calls Try.prog 68 #[.slice A n c, .int .i64 l] w fun e w' => e = .returned (.tuple #[nodeV (nodeOfT l (rowL f n)), .bool (nodeOfT l (rowL f n)).isSome]) ∧ Below w.heap.size w w' := by
  have hb : ∀ m n a b W, CallsIn Fence.wide m Try.prog 52 #[.int .i64 n, .int .i64 a, .int .i64 b] W fun e w' => e = .returned (.bool (inB n a b)) ∧ w' = W := fun m n a b W => callsIn_wide.2 (between_is rfl W)
  refine (callsIn_wide (n := 4)).1 ?_
  by_cases h0 : inB l 1 4 = true
  · by_cases hn : n ≤ 23
    · refine (nodeOf_in Fence.wide 4 trivial trivial trivial trivial rfl (by omega) hb A n c f l w hn (inB_iff.1 h0) h).mono ?_
      rintro e w' ⟨rfl, hw⟩
      exact ⟨by unfold nodeOfT; rw [if_pos h0], hw⟩
    · refine (nodeOf_no Fence.wide 4 trivial trivial rfl (by omega) hb A n c l w (fun _ => by omega)).mono ?_
      rintro e w' ⟨rfl, hw⟩
      have e0 : nodeOfT l (rowL f n) = none := by
        unfold nodeOfT trOf
        rw [if_pos h0, if_neg (by rw [rowL_len]; omega)]
      exact ⟨by rw [e0]; rfl, hw⟩
  · refine (nodeOf_no Fence.wide 4 trivial trivial rfl (by omega) hb A n c l w (fun q => absurd q h0)).mono ?_
    rintro e w' ⟨rfl, hw⟩
    have e0 : nodeOfT l (rowL f n) = none := by unfold nodeOfT; rw [if_neg h0]
    exact ⟨by rw [e0]; rfl, hw⟩
theorem implIsTree_any (A : Option Addr) (n c : Nat) (f : Nat → Int) (l : Int) (w : World) (hn : n ≤ 1048576) (h : Cells w A n (fun i => .int .i64 (f i))) :
    Calls Try.prog 30 #[.slice A n c, .int .i64 l] w fun e w' => e = .returned (.bool (nodeOfT l (rowL f n)).isSome) ∧ Below w.heap.size w w' := by
  have H := Lib.hid (nodeOf_any A n c f l w h)
  clear h
  generalize (nodeOfT l (rowL f n)).isSome = r at *
  generalize nodeV (nodeOfT l (rowL f n)) = v at *
  go_enter Try.func30, Try.ntmps30
  go_wp2_with fail
  refine H.out.mono ?_
  rintro e w1 ⟨rfl, hb⟩
  have N1 := Lib.hid hb
  clear hb
  go_wp2_with fail
  go_ret
  exact ⟨rfl, N1.out⟩
theorem specIsTree_c (A : Option Addr) (n c : Nat) (f : Nat → Int) (l : Int) (w : World) (hn : n ≤ 1048576) (h : Cells w A n (fun i => .int .i64 (f i))) :
    Calls Try.prog 28 #[.slice A n c, .int .i64 l] w fun e w' => e = .returned (.bool (nodeOfT l (rowL f n)).isSome) ∧ Below w.heap.size w w' :=
  (specIsTree_any A n c f l w hn h).mono fun e w' q => ⟨by rw [q.1, nodeOfT_some], q.2⟩
end Go.Proofs.Ytgbiablibfbilaa
