/- The tree of a list: the program's reader. -/
import Derived.Test.YtgbiablibfbilaaBackw
import Derived.Test.YtgbiablibfbilaaOwn
import Derived.Test.YtgbiablibfbilaaIRes
import Derived.Test.YtgbiablibfbilaaStep
import Derived.Test.YtgbiablibfbilaaRoundR
set_option linter.unusedVariables false
namespace Go.Proofs.Ytgbiablibfbilaa
open Go.RowKit Go.Shelf
attribute [local go_sem] Oper.semAt_some
/-- A tree as the program holds it. -/
def trVal : Tr → Value
  | .leaf x => .iface 72 (.int .i64 x)
  | .br a b => .iface 75 (.agg #[trVal a, trVal b])
theorem trVal_iface : ∀ t : Tr, ∃ T v, trVal t = .iface T v
  | .leaf x => ⟨_, _, rfl⟩
  | .br a b => ⟨_, _, by rw [trVal]⟩
/-- The trees that the numbers that have come make. -/
def stO (l : Int) (pre : List (Nat × Int)) : Option (List Tr) := stk l (pre.map (·.2)).reverse
def stT (l : Int) (pre : List (Nat × Int)) : List Tr := (stO l pre).getD []
def stV (l : Int) (pre : List (Nat × Int)) : List Value := (stT l pre).reverse.map trVal
theorem stO_snoc (l : Int) (pre : List (Nat × Int)) (x : Nat × Int) : stO l (pre ++ [x]) = (stO l pre).bind (stkStep l x.2) := by
  unfold stO
  rw [List.map_append, List.reverse_append]
  rfl
theorem infoNode : (Try.prog.info? 64).map (fun i => (i.zero, i.size, i.bytes)) = some (some .nilIface, 1, 16) := by kernel_rfl

theorem stk_len {l : Int} : ∀ {xs : List Int} {st : List Tr}, stk l xs = some st → st.length ≤ xs.length
  | [], st, h => by simp [stk] at h; subst h; simp
  | x :: xs, st, h => by
    simp only [stk] at h
    cases hs : stk l xs with
    | none => rw [hs] at h; cases h
    | some s0 =>
      have := stk_len hs
      rw [hs] at h
      simp only [Option.bind_some, stkStep] at h
      split at h
      · cases h; simp; omega
      · split at h
        · match s0, h, this with
          | a :: b :: r, h, this => cases h; simp at this ⊢; omega
          | [], h, _ => cases h
          | [a], h, _ => cases h
        · cases h
theorem stk_none_app {l : Int} {ys : List Int} (h : stk l ys = none) : ∀ xs : List Int, stk l (xs ++ ys) = none
  | [] => h
  | x :: xs => by simp only [List.cons_append, stk]; rw [stk_none_app h xs]; rfl
theorem trOf_stk {l : Int} {L : List Int} {st : List Tr} (hL : L.length ≤ 23) (h : stk l L = some st) (h1 : st.length ≠ 1) : trOf l L = none := by
  unfold trOf
  rw [if_pos hL, h]
  match st, h1 with
  | [], _ => rfl
  | a :: b :: r, _ => rfl
theorem trOf_stk1 {l : Int} {L : List Int} {t : Tr} (hL : L.length ≤ 23) (h : stk l L = some [t]) : trOf l L = some t := by
  unfold trOf
  rw [if_pos hL, h]
theorem trOf_stk0 {l : Int} {L : List Int} (h : stk l L = none) : trOf l L = none := by
  unfold trOf
  split
  · rw [h]
  · rfl
theorem kpB_of {t : TypeId} {B n₀ : Nat} {u : Value} {W W' : World} (h : Below n₀ W W') (h1 : Boxed W B t u) (h2 : Boxed W' B t u) : KpB t B n₀ W W' :=
  ⟨h, fun v q => by
    have e := (show W.heap[B]? = _ from q).symm.trans h1
    simp at e
    subst e
    exact h2⟩
theorem boxLow {W W' : World} {n₀ B : Nat} {t : TypeId} {v : Value} (h : Boxed W B t v) (hb : Below n₀ W W') (hB : B < n₀) : Boxed W' B t v := (hb.block B hB).trans h
/-- Two elements less of a row. -/
theorem own_less {w : World} {base g k c : Nat} {e : TypeId} {xs : List Value} {p q : Value} (h : w.ownsRow base e 1 (.slice (some ⟨g, 0, none⟩) (k + 2) c) (k + 2) (xs ++ [p, q])) : w.ownsRow base e 1 (.slice (some ⟨g, 0, none⟩) k c) k xs := by
  have hl : xs.length = k := by have := h.1; simp at this; omega
  rcases h.2 with ⟨hv, _⟩ | ⟨g', cap, cur, hv, hb, hh, h1, h2, h3, h4⟩
  · cases hv
  · cases hv
    refine ⟨by omega, .inr ⟨g, c, cur, rfl, hb, hh, by omega, h2, h3, ?_⟩⟩
    have e := congrArg (List.take k) h4
    rw [List.take_take, Nat.min_eq_left (by omega), List.take_left' hl] at e
    rw [Nat.mul_one]
    exact e
/-- What the loop keeps. -/
def NodeI (l : Int) (A : Option Addr) (n c : Nat) (w : World) (pre : List (Nat × Int)) (W : World) : Prop :=
  ((∃ v, Boxed W (w.heap.size + 4) 93 v ∧ W.ownsRow (w.heap.size + 3) 64 1 v (stT l pre).length (stV l pre) ∧ (stO l pre).isSome = true) ∧
    Boxed W w.heap.size 2 (.int .i64 l) ∧ Boxed W (w.heap.size + 1) 64 .nilIface ∧ Boxed W (w.heap.size + 2) 4 (.bool false) ∧ Boxed W (w.heap.size + 5) 22 (.slice A n c)) ∧ Below w.heap.size w W
def NodeX (l : Int) (w : World) (cd : Code) (pre : List (Nat × Int)) (W : World) : Prop :=
  ((cd = .ret ∧ stO l pre = none) ∧ Boxed W (w.heap.size + 1) 64 .nilIface ∧ Boxed W (w.heap.size + 2) 4 (.bool false)) ∧ Below w.heap.size w W
theorem nodeI_own {l : Int} {A : Option Addr} {n c B : Nat} {w : World} (hB : w.heap.size ≤ B) : OwnFrom B (NodeI l A n c w) :=
  OwnFrom.and (Own.from (fun s X Y row hs hg hr => ⟨holdsRow_own (w.heap.size + 3) (w.heap.size + 4) 93 64 1 (fun pre => (stT l pre).length) (fun pre => stV l pre) (fun pre v => (stO l pre).isSome = true) s X Y row hs.1 hg hr,
    boxed_own w.heap.size 2 (fun _ : List (Nat × Int) => .int .i64 l) s X Y row hs.2.1 hg hr, boxed_own (w.heap.size + 1) 64 (fun _ : List (Nat × Int) => .nilIface) s X Y row hs.2.2.1 hg hr,
    boxed_own (w.heap.size + 2) 4 (fun _ : List (Nat × Int) => .bool false) s X Y row hs.2.2.2.1 hg hr, boxed_own (w.heap.size + 5) 22 (fun _ : List (Nat × Int) => .slice A n c) s X Y row hs.2.2.2.2 hg hr⟩) _) (ownFrom_below (Nat.le_refl _) hB)
theorem nodeX_own {l : Int} {B : Nat} {w : World} (hB : w.heap.size ≤ B) (cd : Code) : OwnFrom B (NodeX l w cd) :=
  OwnFrom.and (Own.from (fun s X Y row hs hg hr => ⟨hs.1, boxed_own (w.heap.size + 1) 64 (fun _ : List (Nat × Int) => .nilIface) s X Y row hs.2.1 hg hr,
    boxed_own (w.heap.size + 2) 4 (fun _ : List (Nat × Int) => .bool false) s X Y row hs.2.2 hg hr⟩) _) (ownFrom_below (Nat.le_refl _) hB)
def nodeV : Option Tr → Value
  | none => .nilIface
  | some t => trVal t
set_option maxRecDepth 100000 in
set_option maxHeartbeats 80000000 in
theorem nodeOf_in (F : Fence) (N : Nat) (hf : F.fn 68) (hbf : F.fn 52) (hfb : F.fn 89) (hfc : F.fn 100) (hro : F.round = none) (hN : 4 ≤ N) (hbt : ∀ m n a b W, CallsIn F m Try.prog 52 #[.int .i64 n, .int .i64 a, .int .i64 b] W fun e w' => e = .returned (.bool (inB n a b)) ∧ w' = W)
    (A : Option Addr) (n c : Nat) (f : Nat → Int) (l : Int) (w : World) (hn : n ≤ 23) (hl : 1 ≤ l ∧ l ≤ 4) (h : Cells w A n (fun i => .int .i64 (f i))) :
    CallsIn F N Try.prog 68 #[.slice A n c, .int .i64 l] w fun e w' => e = .returned (.tuple #[nodeV (trOf l (rowL f n)), .bool (trOf l (rowL f n)).isSome]) ∧ Below w.heap.size w w' := by
  have h1 : 1 ≤ N := by omega
  have hN2 : 1 ≤ N - 1 - 1 := by omega
  have HB := Lib.hid hbt
  have H := Lib.hid h
  have hb0 : inB l 1 4 = true := inB_iff.2 hl
  have hmix : Try.prog.follows .mixedOrders = true := by kernel_rfl
  have hwl : IntKind.i64.wrap (l - 1) = l - 1 := by rw [IntKind.wrap_i64]; omega
  have d1 : ¬ (23 : Int) < n := by omega
  obtain ⟨i0, hi, hz0, hz1, hz2⟩ := info_parts infoNode
  clear hbt h
  refine callsIn_of_wp_marks Try.func68 rfl hf ?_ hro
  simp only [Try.ntmps68, List.size_toArray, List.length_cons, List.length_nil, Nat.reduceAdd, Nat.reduceSub, Array.replicate_succ, Array.replicate_zero, List.push_toArray, List.append_toArray, List.nil_append, List.cons_append]
  gi_wp2_with (first
    | (gi_at_call 52; refine (HB.out _ _ _ _ _).mono ?_; rintro e w' ⟨rfl, hw⟩; obtain rfl := hw.symm; clear hw; rw [hb0])
    | (gi_at_call 89; refine (back_in F (N - 1) hfb hro _ _ _ _).mono ?_; rintro e w' ⟨rfl, rfl⟩))
  obtain ⟨W0, hW0⟩ : ∃ W0, W0 = ((((((w.alloc (.cells #[.int .i64 l] 2)).alloc (.cells #[.nilIface] 64)).alloc (.cells #[.bool false] 4)).alloc (.cells #[] 64)).alloc
    (.cells #[.slice (some ⟨w.heap.size + 1 + 1 + 1, 0, none⟩) 0 0] 93)).alloc (.cells #[.slice A n c] 22)) := ⟨_, rfl⟩
  rw [← hW0]
  have hz : W0.heap.size = w.heap.size + 6 := by rw [hW0]; simp
  have hB0 : Below w.heap.size w W0 := by rw [hW0]; exact Below.alloc (Below.alloc (Below.alloc (Below.alloc (Below.alloc (Below.alloc (Below.refl _ _) (by simp) _) (by simp <;> omega) _) (by simp <;> omega) _) (by simp <;> omega) _) (by simp <;> omega) _) (by simp <;> omega) _
  have bL : Boxed W0 w.heap.size 2 (.int .i64 l) := by rw [hW0]; exact (((((Boxed.new w 2 (.int .i64 l)).alloc _).alloc _).alloc _).alloc _).alloc _
  have bR : Boxed W0 (w.heap.size + 1) 64 .nilIface := by
    rw [hW0]
    have := ((((Boxed.new (w.alloc (.cells #[.int .i64 l] 2)) 64 .nilIface).alloc (.cells #[.bool false] 4)).alloc (.cells #[] 64)).alloc (.cells #[.slice (some ⟨w.heap.size + 1 + 1 + 1, 0, none⟩) 0 0] 93)).alloc (.cells #[.slice A n c] 22)
    rw [World.size_alloc] at this
    exact this
  have bO : Boxed W0 (w.heap.size + 2) 4 (.bool false) := by
    rw [hW0]
    have := (((Boxed.new ((w.alloc (.cells #[.int .i64 l] 2)).alloc (.cells #[.nilIface] 64)) 4 (.bool false)).alloc (.cells #[] 64)).alloc (.cells #[.slice (some ⟨w.heap.size + 1 + 1 + 1, 0, none⟩) 0 0] 93)).alloc (.cells #[.slice A n c] 22)
    rw [World.size_alloc, World.size_alloc] at this
    exact this
  have bT : Boxed W0 (w.heap.size + 4) 93 (.slice (some ⟨w.heap.size + 3, 0, none⟩) 0 0) := by
    rw [hW0]
    have := (Boxed.new ((((w.alloc (.cells #[.int .i64 l] 2)).alloc (.cells #[.nilIface] 64)).alloc (.cells #[.bool false] 4)).alloc (.cells #[] 64)) 93 (.slice (some ⟨w.heap.size + 1 + 1 + 1, 0, none⟩) 0 0)).alloc (.cells #[.slice A n c] 22)
    rw [World.size_alloc, World.size_alloc, World.size_alloc, World.size_alloc] at this
    exact this
  have bS : Boxed W0 (w.heap.size + 5) 22 (.slice A n c) := by
    rw [hW0]
    have := Boxed.new (((((w.alloc (.cells #[.int .i64 l] 2)).alloc (.cells #[.nilIface] 64)).alloc (.cells #[.bool false] 4)).alloc (.cells #[] 64)).alloc (.cells #[.slice (some ⟨w.heap.size + 1 + 1 + 1, 0, none⟩) 0 0] 93)) 22 (.slice A n c)
    rw [World.size_alloc, World.size_alloc, World.size_alloc, World.size_alloc, World.size_alloc] at this
    exact this
  have oT : W0.ownsRow (w.heap.size + 3) 64 1 (.slice (some ⟨w.heap.size + 3, 0, none⟩) 0 0) 0 [] := by
    refine ⟨rfl, .inr ⟨w.heap.size + 3, 0, #[], rfl, Nat.le_refl _, ?_, Nat.le_refl _, by unfold maxLen; omega, rfl, rfl⟩⟩
    rw [hW0]
    have e1 := World.alloc_heap_new (((w.alloc (.cells #[.int .i64 l] 2)).alloc (.cells #[.nilIface] 64)).alloc (.cells #[.bool false] 4)) (.cells #[] 64)
    rw [World.size_alloc, World.size_alloc, World.size_alloc] at e1
    exact ((World.grownBy_alloc _ _ none).block _ (by simp <;> omega) (by simp)).trans (((World.grownBy_alloc _ _ none).block _ (by simp <;> omega) (by simp)).trans e1)
  clear hW0
  have hbl : ∀ x, A = some x → 0 < n → x.block < w.heap.size := fun x e h0 => by
    subst e
    obtain ⟨y, hy, hc⟩ := H.out 0 h0
    cases hy
    have := World.block_lt_of_cell? _ _ hc
    rwa [block_add] at this
  refine wpIn_rangeFunc_ownG hro h1 (gf := 100) (lb := #[.pointer (some ⟨w.heap.size + 5, 0, none⟩)]) rfl hfc (enters_of Try.func100 (by kernel_rfl) rfl)
    (back_stops F (N - 1) hfc hro (by omega) (w.heap.size + 5) w.heap.size A n c f (by omega) W0 (by omega) bS (H.out.below hB0) hbl) kpB_t (kpB_b (by omega) (by omega)) (Below.refl _ _) (fun _ => rfl)
    (NodeI l A n c w) (NodeX l w) (nodeI_own (by omega)) (nodeX_own (by omega))
    ⟨⟨⟨_, bT, oT, rfl⟩, bL, bR, bO, bS⟩, hB0⟩
    (fun x => { tmps := #[.slice A n c, .int .i64 l, undef, .pointer (some ⟨w.heap.size, 0, none⟩), .pointer (some ⟨w.heap.size + 1, 0, none⟩), .pointer (some ⟨w.heap.size + 1 + 1, 0, none⟩), .pointer (some ⟨w.heap.size + 1 + 1 + 1 + 1, 0, none⟩), undef, .int .i64 x.2, undef,
      .int .i64 l, .bool true, .bool false, .bool false, .slice A n c, .int .i64 n, .bool (decide (23 < (n : Int))), .bool (decide (23 < (n : Int))), .slice (some ⟨w.heap.size + 1 + 1 + 1, 0, none⟩) 0 0, .slice A n c,
      .func (.func 100) #[] #[.pointer (some ⟨w.heap.size + 1 + 1 + 1 + 1 + 1, 0, none⟩)], .int .i64 (x.1 : Int), .int .i64 x.2,
      undef, undef, undef, undef, undef, undef, undef, undef, undef, undef, undef, undef, undef, undef, undef, undef, undef, undef, undef, undef, undef, undef, undef, undef, undef, undef, undef, undef, undef, undef, undef, undef, undef, undef, undef, undef, undef, undef, undef, undef, undef, undef, undef], defers := [] }) ?assign ?body ?done ?stop
  case assign =>
    intro lt x W K hK
    gi_wp2
    exact hK
  case body =>
    rintro lt pre x W ⟨⟨⟨v, hv, hrow, hsome⟩, hL, hR, hO, hS⟩, hBW⟩ hlt
    obtain ⟨st, hst⟩ : ∃ st, stO l pre = some st := Option.isSome_iff_exists.1 hsome
    have hTl : st.length ≤ pre.length := by
      have := stk_len hst
      simpa using this
    have eT : stT l pre = st := by unfold stT; rw [hst]; rfl
    have eV : stV l pre = st.reverse.map trVal := by unfold stV; rw [eT]
    rw [eT, eV] at hrow
    have eN : stO l (pre ++ [x]) = stkStep l x.2 st := by rw [stO_snoc, hst]; rfl
    have HEN := Lib.hid eN
    have hsz : w.heap.size + 5 < W.heap.size := hS.lt
    obtain ⟨a', cp, g, rfl, hg, ho⟩ := OwnC.of_rowV hrow
    have cT := hv.cell
    have fT := hv.frozen
    have cL := hL.cell
    have cR := hR.cell
    have fR := hR.frozen
    have cO := hO.cell
    have fO := hO.frozen
    clear eT eV eN hst hsome
    cases hb : inB x.2 0 (l - 1)
    · by_cases hx : x.2 = -1
      · have hb2 : (x.2 == -1) = true := by simpa using hx
        have HX := Lib.hid hx
        clear hx
        rcases st with _ | ⟨a, _ | ⟨b, r⟩⟩
        · gi_wp2_with (gi_at_call 52; refine (CallsIn.inRound lt (HB.out _ _ _ _ _)).mono ?_; rintro e w' ⟨rfl, hw⟩; obtain rfl := hw.symm; clear hw; rw [hb])
          exact ⟨((KeepsOthers.setCell _ _ _).trans (KeepsOthers.setCell _ _ _)).from _, ⟨⟨⟨rfl, by rw [HEN.out, HX.out]; simp [stkStep, inB]⟩, (hR.set _).other (by omega) _, (hO.other (by omega) _).set _⟩, (hBW.setCell (p := ⟨w.heap.size + 1, 0, none⟩) (by simp) _).setCell (p := ⟨w.heap.size + 1 + 1, 0, none⟩) (by simp <;> omega) _⟩⟩
        · gi_wp2_with (gi_at_call 52; refine (CallsIn.inRound lt (HB.out _ _ _ _ _)).mono ?_; rintro e w' ⟨rfl, hw⟩; obtain rfl := hw.symm; clear hw; rw [hb])
          exact ⟨((KeepsOthers.setCell _ _ _).trans (KeepsOthers.setCell _ _ _)).from _, ⟨⟨⟨rfl, by rw [HEN.out, HX.out]; simp [stkStep, inB]⟩, (hR.set _).other (by omega) _, (hO.other (by omega) _).set _⟩, (hBW.setCell (p := ⟨w.heap.size + 1, 0, none⟩) (by simp) _).setCell (p := ⟨w.heap.size + 1 + 1, 0, none⟩) (by simp <;> omega) _⟩⟩
        · obtain ⟨k, hk⟩ : ∃ k, k = r.length := ⟨_, rfl⟩
          have hk' := Lib.hid hk
          simp only [List.length_cons, ← hk] at hv hrow hTl cT
          have hv : Boxed W (w.heap.size + 4) 93 (.slice a' (k + 2) cp) := hv
          have cT := hv.cell
          have fT := hv.frozen
          have hrow' : W.ownsRow (w.heap.size + 3) 64 1 (.slice a' (k + 2) cp) (k + 2) (r.reverse.map trVal ++ [trVal b, trVal a]) := by simpa using hrow
          obtain ⟨g2, cap2, e2⟩ := ownsRow_succ hrow'
          cases e2
          have hlen : (r.reverse.map trVal).length = k := by simp [hk]
          have c1 : W.cell? ⟨g2, k + 1, none⟩ = some (trVal a) := by
            rw [hrow'.cellAt (k + 1) (by omega), List.getElem?_append_right (by omega), hlen]
            simp
          have c2 : W.cell? ⟨g2, k, none⟩ = some (trVal b) := by
            rw [hrow'.cellAt k (by omega), List.getElem?_append_right (by omega), hlen]
            simp
          obtain ⟨ta, va, ea⟩ := trVal_iface a
          obtain ⟨tb, vb, eb⟩ := trVal_iface b
          have EB := Lib.hid (show trVal (.br a b) = .iface 75 (.agg #[.iface ta va, .iface tb vb]) by rw [trVal, ea, eb])
          rw [ea] at c1
          rw [eb] at c2
          clear ea eb
          have hcap : k + 2 ≤ cp := by
            rcases hrow'.2 with ⟨h0, _⟩ | ⟨g', cap', cur, hv', _, _, h1', _, _, _⟩
            · cases h0
            · cases hv'; exact h1'
          have hless := own_less hrow'
          clear ho hrow hk
          have w1' : IntKind.i64.wrap ((k : Int) + 2 - 1) = (k : Int) + 1 := by rw [IntKind.wrap_i64]; omega
          have w2' : IntKind.i64.wrap ((k : Int) + 2 - 2) = (k : Int) := by rw [IntKind.wrap_i64]; omega
          have w3' : IntKind.i64.wrap (k : Int) = (k : Int) := by rw [IntKind.wrap_i64]; omega
          have w4' : IntKind.i64.wrap ((k : Int) + 1) = (k : Int) + 1 := by rw [IntKind.wrap_i64]; omega
          have t1 : ((k : Int) + 1).toNat = k + 1 := by omega
          have q1 : (2 : Int) ≤ (k : Int) + 2 := by omega
          have q2 : (k : Int) ≤ cp := by omega
          have z1 : IntKind.i64.wrap ((k : Int) + 1 + 1 - 2) = (k : Int) := by rw [IntKind.wrap_i64]; omega
          have z4 : (0 : Int) ≤ (k : Int) + 1 := by omega
          have z5 : (k : Int) < (k : Int) + 1 := by omega
          have z6 : (k : Int) < (k : Int) + 1 + 1 := by omega
          have z7 : (0 : Int) ≤ (k : Int) := by omega
          gi_wp2_with (gi_at_call 52; refine (CallsIn.inRound lt (HB.out _ _ _ _ _)).mono ?_; rintro e w' ⟨rfl, hw⟩; obtain rfl := hw.symm; clear hw; rw [hb])
          refine wpIn_region_any hmix (wpAny_in (fun ⟨_, _, h⟩ => h) (plain_of_all (by kernel_rfl)) _ _ _ _ ?_)
          change wpAny _ _ _ _ _ _ _ (World.drew _)
          have hlD : W.drew.ownsRow (w.heap.size + 3) 64 1 (.slice (some ⟨g2, 0, none⟩) k cp) k (r.reverse.map trVal) := hless
          have hrD : W.drew.ownsRow (w.heap.size + 3) 64 1 (.slice (some ⟨g2, 0, none⟩) (k + 2) cp) (k + 2) (r.reverse.map trVal ++ [trVal b, trVal a]) := hrow'
          have cA := fun o => (hv.alloc o).cell
          have hvD : Boxed W.drew (w.heap.size + 4) 93 (.slice (some ⟨g2, 0, none⟩) (k + 2) cp) := hv
          have hSD : Boxed W.drew (w.heap.size + 5) 22 (.slice A n c) := hS
          refine wpAny_take (i := 1) (v := ?_) rfl (by kernel_rfl) (by kernel_rfl) (by kernel_rfl) (fun _ _ _ h => h) (Or.inl ⟨by rfl, ?_⟩) ?_
          rotate_left 1
          focus ((intro w; go_simp; (try with_reducible rfl)); done)
          try simp only [Act.put, List.getElem_toArray, List.getElem_cons_succ, List.getElem_cons_zero, List.setIfInBounds_toArray, List.set_cons_zero, List.set_cons_succ]
          refine wpAny_take (i := 2) (v := ?_) rfl (by kernel_rfl) (by kernel_rfl) (by kernel_rfl) (fun _ _ _ h => h) (Or.inl ⟨by rfl, ?_⟩) ?_
          rotate_left 1
          focus ((intro w; go_simp; (try with_reducible rfl)); done)
          try simp only [Act.put, List.getElem_toArray, List.getElem_cons_succ, List.getElem_cons_zero, List.setIfInBounds_toArray, List.set_cons_zero, List.set_cons_succ]
          refine wpAny_take (i := 5) (v := ?_) rfl (by kernel_rfl) (by kernel_rfl) (by kernel_rfl) (fun _ _ _ h => h) (Or.inl ⟨by rfl, ?_⟩) ?_
          rotate_left 1
          focus ((intro w; go_simp; (try with_reducible rfl)); done)
          try simp only [Act.put, List.getElem_toArray, List.getElem_cons_succ, List.getElem_cons_zero, List.setIfInBounds_toArray, List.set_cons_zero, List.set_cons_succ]
          refine wpAny_take (i := 6) (v := ?_) rfl (by kernel_rfl) (by kernel_rfl) (by kernel_rfl) (fun _ _ _ h => h) (Or.inl ⟨by rfl, ?_⟩) ?_
          rotate_left 1
          focus ((intro w; go_simp; (try with_reducible rfl)); done)
          try simp only [Act.put, List.getElem_toArray, List.getElem_cons_succ, List.getElem_cons_zero, List.setIfInBounds_toArray, List.set_cons_zero, List.set_cons_succ]
          refine wpAny_take (i := 10) (v := ?_) rfl (by kernel_rfl) (by kernel_rfl) (by kernel_rfl) (fun _ _ _ h => h) (Or.inl ⟨by rfl, ?_⟩) ?_
          rotate_left 1
          focus ((intro w; go_simp; (try with_reducible rfl)); done)
          try simp only [Act.put, List.getElem_toArray, List.getElem_cons_succ, List.getElem_cons_zero, List.setIfInBounds_toArray, List.set_cons_zero, List.set_cons_succ]
          refine wpAny_take (i := 11) (v := ?_) rfl (by kernel_rfl) (by kernel_rfl) (by kernel_rfl) (fun _ _ _ h => h) (Or.inl ⟨by rfl, ?_⟩) ?_
          rotate_left 1
          focus ((intro w; go_simp; (try with_reducible rfl)); done)
          try simp only [Act.put, List.getElem_toArray, List.getElem_cons_succ, List.getElem_cons_zero, List.setIfInBounds_toArray, List.set_cons_zero, List.set_cons_succ]
          refine wpAny_ready (rs := [0, 4, 9]) (by kernel_rfl) (by simp) ?_
          refine AllReady.cons rfl (fun K hK => ?_) ?_
          · skip
            go_simp
            refine hK _ _ ?_
            clear hK K
            try simp only [Act.put, List.getElem_toArray, List.getElem_cons_succ, List.getElem_cons_zero, List.setIfInBounds_toArray, List.set_cons_zero, List.set_cons_succ]
            refine wpAny_take (i := 3) (v := ?_) rfl (by kernel_rfl) (by kernel_rfl) (by kernel_rfl) (fun _ _ _ h => h) (Or.inl ⟨by rfl, ?_⟩) ?_
            rotate_left 1
            focus ((intro w; go_simp; (try with_reducible rfl)); done)
            try simp only [Act.put, List.getElem_toArray, List.getElem_cons_succ, List.getElem_cons_zero, List.setIfInBounds_toArray, List.set_cons_zero, List.set_cons_succ]
            refine wpAny_ready (rs := [4, 9]) (by kernel_rfl) (by simp) ?_
            refine AllReady.cons rfl (fun K hK => ?_) ?_
            · skip
              go_simp
              refine hK _ _ ?_
              clear hK K
              try simp only [Act.put, List.getElem_toArray, List.getElem_cons_succ, List.getElem_cons_zero, List.setIfInBounds_toArray, List.set_cons_zero, List.set_cons_succ]
              refine wpAny_take (i := 7) (v := ?_) rfl (by kernel_rfl) (by kernel_rfl) (by kernel_rfl) (fun _ _ _ h => h) (Or.inl ⟨by rfl, ?_⟩) ?_
              rotate_left 1
              focus ((intro w; go_simp; (try with_reducible rfl)); done)
              try simp only [Act.put, List.getElem_toArray, List.getElem_cons_succ, List.getElem_cons_zero, List.setIfInBounds_toArray, List.set_cons_zero, List.set_cons_succ]
              refine wpAny_ready (rs := [8, 9]) (by kernel_rfl) (by simp) ?_
              refine AllReady.cons rfl (fun K hK => ?_) ?_
              · skip
                go_simp
                refine hK _ _ ?_
                clear hK K
                try simp only [Act.put, List.getElem_toArray, List.getElem_cons_succ, List.getElem_cons_zero, List.setIfInBounds_toArray, List.set_cons_zero, List.set_cons_succ]
                refine wpAny_ready (rs := [9]) (by kernel_rfl) (by simp) ?_
                refine AllReady.cons rfl (fun K hK => ?_) ?_
                · skip
                  go_simp
                  refine hK _ _ ?_
                  clear hK K
                  try simp only [Act.put, List.getElem_toArray, List.getElem_cons_succ, List.getElem_cons_zero, List.setIfInBounds_toArray, List.set_cons_zero, List.set_cons_succ]
                  refine wpAny_take (i := 12) (v := ?_) rfl (by kernel_rfl) (by kernel_rfl) (by kernel_rfl) (fun _ _ _ h => h) (Or.inl ⟨by rfl, ?_⟩) ?_
                  rotate_left 1
                  focus ((intro w; go_simp; (try with_reducible rfl)); done)
                  try simp only [Act.put, List.getElem_toArray, List.getElem_cons_succ, List.getElem_cons_zero, List.setIfInBounds_toArray, List.set_cons_zero, List.set_cons_succ]
                  refine wpAny_ready (rs := [13]) (by kernel_rfl) (by simp) ?_
                  refine AllReady.cons rfl (fun K hK => ?_) ?_
                  · skip
                    go_simp
                    refine hK _ _ ?_
                    clear hK K
                    try simp only [Act.put, List.getElem_toArray, List.getElem_cons_succ, List.getElem_cons_zero, List.setIfInBounds_toArray, List.set_cons_zero, List.set_cons_succ]
                    refine wpAny_take (i := 14) (v := ?_) rfl (by kernel_rfl) (by kernel_rfl) (by kernel_rfl) (fun _ _ _ h => h) (Or.inl ⟨by rfl, ?_⟩) ?_
                    rotate_left 1
                    focus ((intro w; go_simp; (try with_reducible rfl)); done)
                    try simp only [Act.put, List.getElem_toArray, List.getElem_cons_succ, List.getElem_cons_zero, List.setIfInBounds_toArray, List.set_cons_zero, List.set_cons_succ]
                    refine wpAny_take (i := 15) (v := ?_) rfl (by kernel_rfl) (by kernel_rfl) (by kernel_rfl) (fun _ _ _ h => h) (Or.inl ⟨by rfl, ?_⟩) ?_
                    rotate_left 1
                    focus ((intro w; go_simp; (try with_reducible rfl)); done)
                    try simp only [Act.put, List.getElem_toArray, List.getElem_cons_succ, List.getElem_cons_zero, List.setIfInBounds_toArray, List.set_cons_zero, List.set_cons_succ]
                    refine wpAny_ready (rs := [16]) (by kernel_rfl) (by simp) ?_
                    refine AllReady.cons rfl (fun K hK => ?_) ?_
                    · skip
                      go_simp
                      refine hK _ _ ?_
                      clear hK K
                      try simp only [Act.put, List.getElem_toArray, List.getElem_cons_succ, List.getElem_cons_zero, List.setIfInBounds_toArray, List.set_cons_zero, List.set_cons_succ]
                      refine wpAny_ready (rs := [17]) (by kernel_rfl) (by simp) ?_
                      refine AllReady.cons rfl (fun K hK => ?_) ?_
                      · skip
                        refine step_append_cells _ rfl (.tmp 45) (.tmp 58) 93 rfl (w.heap.size + 3) 64 i0 .nilIface 1 16 Try.underlying93 hi hz0 hz1 hz2 rfl (by decide) (.slice (some ⟨g2, 0, none⟩) k cp) k (r.reverse.map trVal) rfl (hlD.alloc _) (some ⟨W.heap.size, 0, none⟩) 1 1 (fun _ => .iface 75 (.agg #[.iface ta va, .iface tb vb])) rfl (cells_lit1 (by simp)) (fun _ _ => by simp [Value.oneCell']) (by unfold maxLen; omega) (by omega) (by simp; omega) ?_
                        intro v' w1 hown' hgrow _
                        obtain ⟨g', cap', rfl⟩ := ownsRow_succ hown'
                        have hg' : (W.drew.alloc (.cells #[.iface 75 (.agg #[.iface ta va, .iface tb vb])] 64)).grownBy w1 (some g2) := hgrow
                        obtain ⟨hv1, hv2, hr2, hk2, hb2⟩ := hvD.appended (by decide) hrD (by simp; omega) (by omega) hown' hg'
                        have hS1 : Boxed w1 (w.heap.size + 5) 22 (.slice A n c) := (hSD.alloc _).kept hg' (hSD.not_row (by decide) hrD)
                        clear hgrow
                        have hc1 := hv1.cell
                        have hf1 := hv1.frozen
                        refine hK _ _ ?_
                        clear hK K
                        try simp only [Act.put, List.getElem_toArray, List.getElem_cons_succ, List.getElem_cons_zero, List.setIfInBounds_toArray, List.set_cons_zero, List.set_cons_succ]
                        refine wpAny_ready (rs := [18]) (by kernel_rfl) (by simp) ?_
                        refine AllReady.cons rfl (fun K hK => ?_) ?_
                        · skip
                          go_simp
                          refine hK _ _ ?_
                          clear hK K
                          try simp only [Act.put, List.getElem_toArray, List.getElem_cons_succ, List.getElem_cons_zero, List.setIfInBounds_toArray, List.set_cons_zero, List.set_cons_succ]
                          refine wpAny_done (by kernel_rfl) ?_ _
                          have hBl : Below w.heap.size W _ := Below.trans ((Below.refl _ W).drew) (hb2.mono (by omega))
                          have hS2 := hS1.other (B' := w.heap.size + 4) (by omega) (.slice (some ⟨g', 0, none⟩) (k + 1) cap')
                          gi_wp2
                          refine ⟨((KeepsOthers.drew W).trans hk2).from _, kpB_of hBl hS hS2, ⟨⟨⟨_, hv2, ?_, ?_⟩, boxLow hL (Below.trans ((Below.refl _ W).drew) hb2) (by omega), boxLow hR (Below.trans ((Below.refl _ W).drew) hb2) (by omega), boxLow hO (Below.trans ((Below.refl _ W).drew) hb2) (by omega), hS2⟩, hBW.trans hBl⟩⟩
                          · have e3 : stT l (pre ++ [x]) = .br a b :: r := by unfold stT; rw [HEN.out, HX.out, stkStep_neg]; rfl
                            have e4 : stV l (pre ++ [x]) = r.reverse.map trVal ++ [trVal (.br a b)] := by unfold stV; rw [e3]; simp
                            rw [e3, e4, show (Tr.br a b :: r).length = k + 1 by simp [hk'.out]]
                            rw [EB.out]
                            simpa [listV] using hr2
                          · rw [HEN.out, HX.out, stkStep_neg]; rfl
                        exact AllReady.nil
                      exact AllReady.nil
                    exact AllReady.nil
                  exact AllReady.nil
                exact AllReady.nil
              refine AllReady.cons rfl (fun K hK => ?_) ?_
              · skip
                go_simp
                refine hK _ _ ?_
                clear hK K
                try simp only [Act.put, List.getElem_toArray, List.getElem_cons_succ, List.getElem_cons_zero, List.setIfInBounds_toArray, List.set_cons_zero, List.set_cons_succ]
                refine wpAny_take (i := 12) (v := ?_) rfl (by kernel_rfl) (by kernel_rfl) (by kernel_rfl) (fun _ _ _ h => h) (Or.inl ⟨by rfl, ?_⟩) ?_
                rotate_left 1
                focus ((intro w; go_simp; (try with_reducible rfl)); done)
                try simp only [Act.put, List.getElem_toArray, List.getElem_cons_succ, List.getElem_cons_zero, List.setIfInBounds_toArray, List.set_cons_zero, List.set_cons_succ]
                refine wpAny_ready (rs := [8, 13]) (by kernel_rfl) (by simp) ?_
                refine AllReady.cons rfl (fun K hK => ?_) ?_
                · skip
                  go_simp
                  refine hK _ _ ?_
                  clear hK K
                  try simp only [Act.put, List.getElem_toArray, List.getElem_cons_succ, List.getElem_cons_zero, List.setIfInBounds_toArray, List.set_cons_zero, List.set_cons_succ]
                  refine wpAny_ready (rs := [13]) (by kernel_rfl) (by simp) ?_
                  refine AllReady.cons rfl (fun K hK => ?_) ?_
                  · skip
                    go_simp
                    refine hK _ _ ?_
                    clear hK K
                    try simp only [Act.put, List.getElem_toArray, List.getElem_cons_succ, List.getElem_cons_zero, List.setIfInBounds_toArray, List.set_cons_zero, List.set_cons_succ]
                    refine wpAny_take (i := 14) (v := ?_) rfl (by kernel_rfl) (by kernel_rfl) (by kernel_rfl) (fun _ _ _ h => h) (Or.inl ⟨by rfl, ?_⟩) ?_
                    rotate_left 1
                    focus ((intro w; go_simp; (try with_reducible rfl)); done)
                    try simp only [Act.put, List.getElem_toArray, List.getElem_cons_succ, List.getElem_cons_zero, List.setIfInBounds_toArray, List.set_cons_zero, List.set_cons_succ]
                    refine wpAny_take (i := 15) (v := ?_) rfl (by kernel_rfl) (by kernel_rfl) (by kernel_rfl) (fun _ _ _ h => h) (Or.inl ⟨by rfl, ?_⟩) ?_
                    rotate_left 1
                    focus ((intro w; go_simp; (try with_reducible rfl)); done)
                    try simp only [Act.put, List.getElem_toArray, List.getElem_cons_succ, List.getElem_cons_zero, List.setIfInBounds_toArray, List.set_cons_zero, List.set_cons_succ]
                    refine wpAny_ready (rs := [16]) (by kernel_rfl) (by simp) ?_
                    refine AllReady.cons rfl (fun K hK => ?_) ?_
                    · skip
                      go_simp
                      refine hK _ _ ?_
                      clear hK K
                      try simp only [Act.put, List.getElem_toArray, List.getElem_cons_succ, List.getElem_cons_zero, List.setIfInBounds_toArray, List.set_cons_zero, List.set_cons_succ]
                      refine wpAny_ready (rs := [17]) (by kernel_rfl) (by simp) ?_
                      refine AllReady.cons rfl (fun K hK => ?_) ?_
                      · skip
                        refine step_append_cells _ rfl (.tmp 45) (.tmp 58) 93 rfl (w.heap.size + 3) 64 i0 .nilIface 1 16 Try.underlying93 hi hz0 hz1 hz2 rfl (by decide) (.slice (some ⟨g2, 0, none⟩) k cp) k (r.reverse.map trVal) rfl (hlD.alloc _) (some ⟨W.heap.size, 0, none⟩) 1 1 (fun _ => .iface 75 (.agg #[.iface ta va, .iface tb vb])) rfl (cells_lit1 (by simp)) (fun _ _ => by simp [Value.oneCell']) (by unfold maxLen; omega) (by omega) (by simp; omega) ?_
                        intro v' w1 hown' hgrow _
                        obtain ⟨g', cap', rfl⟩ := ownsRow_succ hown'
                        have hg' : (W.drew.alloc (.cells #[.iface 75 (.agg #[.iface ta va, .iface tb vb])] 64)).grownBy w1 (some g2) := hgrow
                        obtain ⟨hv1, hv2, hr2, hk2, hb2⟩ := hvD.appended (by decide) hrD (by simp; omega) (by omega) hown' hg'
                        have hS1 : Boxed w1 (w.heap.size + 5) 22 (.slice A n c) := (hSD.alloc _).kept hg' (hSD.not_row (by decide) hrD)
                        clear hgrow
                        have hc1 := hv1.cell
                        have hf1 := hv1.frozen
                        refine hK _ _ ?_
                        clear hK K
                        try simp only [Act.put, List.getElem_toArray, List.getElem_cons_succ, List.getElem_cons_zero, List.setIfInBounds_toArray, List.set_cons_zero, List.set_cons_succ]
                        refine wpAny_ready (rs := [18]) (by kernel_rfl) (by simp) ?_
                        refine AllReady.cons rfl (fun K hK => ?_) ?_
                        · skip
                          go_simp
                          refine hK _ _ ?_
                          clear hK K
                          try simp only [Act.put, List.getElem_toArray, List.getElem_cons_succ, List.getElem_cons_zero, List.setIfInBounds_toArray, List.set_cons_zero, List.set_cons_succ]
                          refine wpAny_done (by kernel_rfl) ?_ _
                          have hBl : Below w.heap.size W _ := Below.trans ((Below.refl _ W).drew) (hb2.mono (by omega))
                          have hS2 := hS1.other (B' := w.heap.size + 4) (by omega) (.slice (some ⟨g', 0, none⟩) (k + 1) cap')
                          gi_wp2
                          refine ⟨((KeepsOthers.drew W).trans hk2).from _, kpB_of hBl hS hS2, ⟨⟨⟨_, hv2, ?_, ?_⟩, boxLow hL (Below.trans ((Below.refl _ W).drew) hb2) (by omega), boxLow hR (Below.trans ((Below.refl _ W).drew) hb2) (by omega), boxLow hO (Below.trans ((Below.refl _ W).drew) hb2) (by omega), hS2⟩, hBW.trans hBl⟩⟩
                          · have e3 : stT l (pre ++ [x]) = .br a b :: r := by unfold stT; rw [HEN.out, HX.out, stkStep_neg]; rfl
                            have e4 : stV l (pre ++ [x]) = r.reverse.map trVal ++ [trVal (.br a b)] := by unfold stV; rw [e3]; simp
                            rw [e3, e4, show (Tr.br a b :: r).length = k + 1 by simp [hk'.out]]
                            rw [EB.out]
                            simpa [listV] using hr2
                          · rw [HEN.out, HX.out, stkStep_neg]; rfl
                        exact AllReady.nil
                      exact AllReady.nil
                    exact AllReady.nil
                  exact AllReady.nil
                refine AllReady.cons rfl (fun K hK => ?_) ?_
                · skip
                  go_simp
                  refine hK _ _ ?_
                  clear hK K
                  try simp only [Act.put, List.getElem_toArray, List.getElem_cons_succ, List.getElem_cons_zero, List.setIfInBounds_toArray, List.set_cons_zero, List.set_cons_succ]
                  refine wpAny_ready (rs := [8]) (by kernel_rfl) (by simp) ?_
                  refine AllReady.cons rfl (fun K hK => ?_) ?_
                  · skip
                    go_simp
                    refine hK _ _ ?_
                    clear hK K
                    try simp only [Act.put, List.getElem_toArray, List.getElem_cons_succ, List.getElem_cons_zero, List.setIfInBounds_toArray, List.set_cons_zero, List.set_cons_succ]
                    refine wpAny_take (i := 14) (v := ?_) rfl (by kernel_rfl) (by kernel_rfl) (by kernel_rfl) (fun _ _ _ h => h) (Or.inl ⟨by rfl, ?_⟩) ?_
                    rotate_left 1
                    focus ((intro w; go_simp; (try with_reducible rfl)); done)
                    try simp only [Act.put, List.getElem_toArray, List.getElem_cons_succ, List.getElem_cons_zero, List.setIfInBounds_toArray, List.set_cons_zero, List.set_cons_succ]
                    refine wpAny_take (i := 15) (v := ?_) rfl (by kernel_rfl) (by kernel_rfl) (by kernel_rfl) (fun _ _ _ h => h) (Or.inl ⟨by rfl, ?_⟩) ?_
                    rotate_left 1
                    focus ((intro w; go_simp; (try with_reducible rfl)); done)
                    try simp only [Act.put, List.getElem_toArray, List.getElem_cons_succ, List.getElem_cons_zero, List.setIfInBounds_toArray, List.set_cons_zero, List.set_cons_succ]
                    refine wpAny_ready (rs := [16]) (by kernel_rfl) (by simp) ?_
                    refine AllReady.cons rfl (fun K hK => ?_) ?_
                    · skip
                      go_simp
                      refine hK _ _ ?_
                      clear hK K
                      try simp only [Act.put, List.getElem_toArray, List.getElem_cons_succ, List.getElem_cons_zero, List.setIfInBounds_toArray, List.set_cons_zero, List.set_cons_succ]
                      refine wpAny_ready (rs := [17]) (by kernel_rfl) (by simp) ?_
                      refine AllReady.cons rfl (fun K hK => ?_) ?_
                      · skip
                        refine step_append_cells _ rfl (.tmp 45) (.tmp 58) 93 rfl (w.heap.size + 3) 64 i0 .nilIface 1 16 Try.underlying93 hi hz0 hz1 hz2 rfl (by decide) (.slice (some ⟨g2, 0, none⟩) k cp) k (r.reverse.map trVal) rfl (hlD.alloc _) (some ⟨W.heap.size, 0, none⟩) 1 1 (fun _ => .iface 75 (.agg #[.iface ta va, .iface tb vb])) rfl (cells_lit1 (by simp)) (fun _ _ => by simp [Value.oneCell']) (by unfold maxLen; omega) (by omega) (by simp; omega) ?_
                        intro v' w1 hown' hgrow _
                        obtain ⟨g', cap', rfl⟩ := ownsRow_succ hown'
                        have hg' : (W.drew.alloc (.cells #[.iface 75 (.agg #[.iface ta va, .iface tb vb])] 64)).grownBy w1 (some g2) := hgrow
                        obtain ⟨hv1, hv2, hr2, hk2, hb2⟩ := hvD.appended (by decide) hrD (by simp; omega) (by omega) hown' hg'
                        have hS1 : Boxed w1 (w.heap.size + 5) 22 (.slice A n c) := (hSD.alloc _).kept hg' (hSD.not_row (by decide) hrD)
                        clear hgrow
                        have hc1 := hv1.cell
                        have hf1 := hv1.frozen
                        refine hK _ _ ?_
                        clear hK K
                        try simp only [Act.put, List.getElem_toArray, List.getElem_cons_succ, List.getElem_cons_zero, List.setIfInBounds_toArray, List.set_cons_zero, List.set_cons_succ]
                        refine wpAny_ready (rs := [18]) (by kernel_rfl) (by simp) ?_
                        refine AllReady.cons rfl (fun K hK => ?_) ?_
                        · skip
                          go_simp
                          refine hK _ _ ?_
                          clear hK K
                          try simp only [Act.put, List.getElem_toArray, List.getElem_cons_succ, List.getElem_cons_zero, List.setIfInBounds_toArray, List.set_cons_zero, List.set_cons_succ]
                          refine wpAny_done (by kernel_rfl) ?_ _
                          have hBl : Below w.heap.size W _ := Below.trans ((Below.refl _ W).drew) (hb2.mono (by omega))
                          have hS2 := hS1.other (B' := w.heap.size + 4) (by omega) (.slice (some ⟨g', 0, none⟩) (k + 1) cap')
                          gi_wp2
                          refine ⟨((KeepsOthers.drew W).trans hk2).from _, kpB_of hBl hS hS2, ⟨⟨⟨_, hv2, ?_, ?_⟩, boxLow hL (Below.trans ((Below.refl _ W).drew) hb2) (by omega), boxLow hR (Below.trans ((Below.refl _ W).drew) hb2) (by omega), boxLow hO (Below.trans ((Below.refl _ W).drew) hb2) (by omega), hS2⟩, hBW.trans hBl⟩⟩
                          · have e3 : stT l (pre ++ [x]) = .br a b :: r := by unfold stT; rw [HEN.out, HX.out, stkStep_neg]; rfl
                            have e4 : stV l (pre ++ [x]) = r.reverse.map trVal ++ [trVal (.br a b)] := by unfold stV; rw [e3]; simp
                            rw [e3, e4, show (Tr.br a b :: r).length = k + 1 by simp [hk'.out]]
                            rw [EB.out]
                            simpa [listV] using hr2
                          · rw [HEN.out, HX.out, stkStep_neg]; rfl
                        exact AllReady.nil
                      exact AllReady.nil
                    exact AllReady.nil
                  exact AllReady.nil
                exact AllReady.nil
              exact AllReady.nil
            refine AllReady.cons rfl (fun K hK => ?_) ?_
            · skip
              go_simp
              refine hK _ _ ?_
              clear hK K
              try simp only [Act.put, List.getElem_toArray, List.getElem_cons_succ, List.getElem_cons_zero, List.setIfInBounds_toArray, List.set_cons_zero, List.set_cons_succ]
              refine wpAny_take (i := 12) (v := ?_) rfl (by kernel_rfl) (by kernel_rfl) (by kernel_rfl) (fun _ _ _ h => h) (Or.inl ⟨by rfl, ?_⟩) ?_
              rotate_left 1
              focus ((intro w; go_simp; (try with_reducible rfl)); done)
              try simp only [Act.put, List.getElem_toArray, List.getElem_cons_succ, List.getElem_cons_zero, List.setIfInBounds_toArray, List.set_cons_zero, List.set_cons_succ]
              refine wpAny_ready (rs := [4, 13]) (by kernel_rfl) (by simp) ?_
              refine AllReady.cons rfl (fun K hK => ?_) ?_
              · skip
                go_simp
                refine hK _ _ ?_
                clear hK K
                try simp only [Act.put, List.getElem_toArray, List.getElem_cons_succ, List.getElem_cons_zero, List.setIfInBounds_toArray, List.set_cons_zero, List.set_cons_succ]
                refine wpAny_take (i := 7) (v := ?_) rfl (by kernel_rfl) (by kernel_rfl) (by kernel_rfl) (fun _ _ _ h => h) (Or.inl ⟨by rfl, ?_⟩) ?_
                rotate_left 1
                focus ((intro w; go_simp; (try with_reducible rfl)); done)
                try simp only [Act.put, List.getElem_toArray, List.getElem_cons_succ, List.getElem_cons_zero, List.setIfInBounds_toArray, List.set_cons_zero, List.set_cons_succ]
                refine wpAny_ready (rs := [8, 13]) (by kernel_rfl) (by simp) ?_
                refine AllReady.cons rfl (fun K hK => ?_) ?_
                · skip
                  go_simp
                  refine hK _ _ ?_
                  clear hK K
                  try simp only [Act.put, List.getElem_toArray, List.getElem_cons_succ, List.getElem_cons_zero, List.setIfInBounds_toArray, List.set_cons_zero, List.set_cons_succ]
                  refine wpAny_ready (rs := [13]) (by kernel_rfl) (by simp) ?_
                  refine AllReady.cons rfl (fun K hK => ?_) ?_
                  · skip
                    go_simp
                    refine hK _ _ ?_
                    clear hK K
                    try simp only [Act.put, List.getElem_toArray, List.getElem_cons_succ, List.getElem_cons_zero, List.setIfInBounds_toArray, List.set_cons_zero, List.set_cons_succ]
                    refine wpAny_take (i := 14) (v := ?_) rfl (by kernel_rfl) (by kernel_rfl) (by kernel_rfl) (fun _ _ _ h => h) (Or.inl ⟨by rfl, ?_⟩) ?_
                    rotate_left 1
                    focus ((intro w; go_simp; (try with_reducible rfl)); done)
                    try simp only [Act.put, List.getElem_toArray, List.getElem_cons_succ, List.getElem_cons_zero, List.setIfInBounds_toArray, List.set_cons_zero, List.set_cons_succ]
                    refine wpAny_take (i := 15) (v := ?_) rfl (by kernel_rfl) (by kernel_rfl) (by kernel_rfl) (fun _ _ _ h => h) (Or.inl ⟨by rfl, ?_⟩) ?_
                    rotate_left 1
                    focus ((intro w; go_simp; (try with_reducible rfl)); done)
                    try simp only [Act.put, List.getElem_toArray, List.getElem_cons_succ, List.getElem_cons_zero, List.setIfInBounds_toArray, List.set_cons_zero, List.set_cons_succ]
                    refine wpAny_ready (rs := [16]) (by kernel_rfl) (by simp) ?_
                    refine AllReady.cons rfl (fun K hK => ?_) ?_
                    · skip
                      go_simp
                      refine hK _ _ ?_
                      clear hK K
                      try simp only [Act.put, List.getElem_toArray, List.getElem_cons_succ, List.getElem_cons_zero, List.setIfInBounds_toArray, List.set_cons_zero, List.set_cons_succ]
                      refine wpAny_ready (rs := [17]) (by kernel_rfl) (by simp) ?_
                      refine AllReady.cons rfl (fun K hK => ?_) ?_
                      · skip
                        refine step_append_cells _ rfl (.tmp 45) (.tmp 58) 93 rfl (w.heap.size + 3) 64 i0 .nilIface 1 16 Try.underlying93 hi hz0 hz1 hz2 rfl (by decide) (.slice (some ⟨g2, 0, none⟩) k cp) k (r.reverse.map trVal) rfl (hlD.alloc _) (some ⟨W.heap.size, 0, none⟩) 1 1 (fun _ => .iface 75 (.agg #[.iface ta va, .iface tb vb])) rfl (cells_lit1 (by simp)) (fun _ _ => by simp [Value.oneCell']) (by unfold maxLen; omega) (by omega) (by simp; omega) ?_
                        intro v' w1 hown' hgrow _
                        obtain ⟨g', cap', rfl⟩ := ownsRow_succ hown'
                        have hg' : (W.drew.alloc (.cells #[.iface 75 (.agg #[.iface ta va, .iface tb vb])] 64)).grownBy w1 (some g2) := hgrow
                        obtain ⟨hv1, hv2, hr2, hk2, hb2⟩ := hvD.appended (by decide) hrD (by simp; omega) (by omega) hown' hg'
                        have hS1 : Boxed w1 (w.heap.size + 5) 22 (.slice A n c) := (hSD.alloc _).kept hg' (hSD.not_row (by decide) hrD)
                        clear hgrow
                        have hc1 := hv1.cell
                        have hf1 := hv1.frozen
                        refine hK _ _ ?_
                        clear hK K
                        try simp only [Act.put, List.getElem_toArray, List.getElem_cons_succ, List.getElem_cons_zero, List.setIfInBounds_toArray, List.set_cons_zero, List.set_cons_succ]
                        refine wpAny_ready (rs := [18]) (by kernel_rfl) (by simp) ?_
                        refine AllReady.cons rfl (fun K hK => ?_) ?_
                        · skip
                          go_simp
                          refine hK _ _ ?_
                          clear hK K
                          try simp only [Act.put, List.getElem_toArray, List.getElem_cons_succ, List.getElem_cons_zero, List.setIfInBounds_toArray, List.set_cons_zero, List.set_cons_succ]
                          refine wpAny_done (by kernel_rfl) ?_ _
                          have hBl : Below w.heap.size W _ := Below.trans ((Below.refl _ W).drew) (hb2.mono (by omega))
                          have hS2 := hS1.other (B' := w.heap.size + 4) (by omega) (.slice (some ⟨g', 0, none⟩) (k + 1) cap')
                          gi_wp2
                          refine ⟨((KeepsOthers.drew W).trans hk2).from _, kpB_of hBl hS hS2, ⟨⟨⟨_, hv2, ?_, ?_⟩, boxLow hL (Below.trans ((Below.refl _ W).drew) hb2) (by omega), boxLow hR (Below.trans ((Below.refl _ W).drew) hb2) (by omega), boxLow hO (Below.trans ((Below.refl _ W).drew) hb2) (by omega), hS2⟩, hBW.trans hBl⟩⟩
                          · have e3 : stT l (pre ++ [x]) = .br a b :: r := by unfold stT; rw [HEN.out, HX.out, stkStep_neg]; rfl
                            have e4 : stV l (pre ++ [x]) = r.reverse.map trVal ++ [trVal (.br a b)] := by unfold stV; rw [e3]; simp
                            rw [e3, e4, show (Tr.br a b :: r).length = k + 1 by simp [hk'.out]]
                            rw [EB.out]
                            simpa [listV] using hr2
                          · rw [HEN.out, HX.out, stkStep_neg]; rfl
                        exact AllReady.nil
                      exact AllReady.nil
                    exact AllReady.nil
                  exact AllReady.nil
                refine AllReady.cons rfl (fun K hK => ?_) ?_
                · skip
                  go_simp
                  refine hK _ _ ?_
                  clear hK K
                  try simp only [Act.put, List.getElem_toArray, List.getElem_cons_succ, List.getElem_cons_zero, List.setIfInBounds_toArray, List.set_cons_zero, List.set_cons_succ]
                  refine wpAny_ready (rs := [8]) (by kernel_rfl) (by simp) ?_
                  refine AllReady.cons rfl (fun K hK => ?_) ?_
                  · skip
                    go_simp
                    refine hK _ _ ?_
                    clear hK K
                    try simp only [Act.put, List.getElem_toArray, List.getElem_cons_succ, List.getElem_cons_zero, List.setIfInBounds_toArray, List.set_cons_zero, List.set_cons_succ]
                    refine wpAny_take (i := 14) (v := ?_) rfl (by kernel_rfl) (by kernel_rfl) (by kernel_rfl) (fun _ _ _ h => h) (Or.inl ⟨by rfl, ?_⟩) ?_
                    rotate_left 1
                    focus ((intro w; go_simp; (try with_reducible rfl)); done)
                    try simp only [Act.put, List.getElem_toArray, List.getElem_cons_succ, List.getElem_cons_zero, List.setIfInBounds_toArray, List.set_cons_zero, List.set_cons_succ]
                    refine wpAny_take (i := 15) (v := ?_) rfl (by kernel_rfl) (by kernel_rfl) (by kernel_rfl) (fun _ _ _ h => h) (Or.inl ⟨by rfl, ?_⟩) ?_
                    rotate_left 1
                    focus ((intro w; go_simp; (try with_reducible rfl)); done)
                    try simp only [Act.put, List.getElem_toArray, List.getElem_cons_succ, List.getElem_cons_zero, List.setIfInBounds_toArray, List.set_cons_zero, List.set_cons_succ]
                    refine wpAny_ready (rs := [16]) (by kernel_rfl) (by simp) ?_
                    refine AllReady.cons rfl (fun K hK => ?_) ?_
                    · skip
                      go_simp
                      refine hK _ _ ?_
                      clear hK K
                      try simp only [Act.put, List.getElem_toArray, List.getElem_cons_succ, List.getElem_cons_zero, List.setIfInBounds_toArray, List.set_cons_zero, List.set_cons_succ]
                      refine wpAny_ready (rs := [17]) (by kernel_rfl) (by simp) ?_
                      refine AllReady.cons rfl (fun K hK => ?_) ?_
                      · skip
                        refine step_append_cells _ rfl (.tmp 45) (.tmp 58) 93 rfl (w.heap.size + 3) 64 i0 .nilIface 1 16 Try.underlying93 hi hz0 hz1 hz2 rfl (by decide) (.slice (some ⟨g2, 0, none⟩) k cp) k (r.reverse.map trVal) rfl (hlD.alloc _) (some ⟨W.heap.size, 0, none⟩) 1 1 (fun _ => .iface 75 (.agg #[.iface ta va, .iface tb vb])) rfl (cells_lit1 (by simp)) (fun _ _ => by simp [Value.oneCell']) (by unfold maxLen; omega) (by omega) (by simp; omega) ?_
                        intro v' w1 hown' hgrow _
                        obtain ⟨g', cap', rfl⟩ := ownsRow_succ hown'
                        have hg' : (W.drew.alloc (.cells #[.iface 75 (.agg #[.iface ta va, .iface tb vb])] 64)).grownBy w1 (some g2) := hgrow
                        obtain ⟨hv1, hv2, hr2, hk2, hb2⟩ := hvD.appended (by decide) hrD (by simp; omega) (by omega) hown' hg'
                        have hS1 : Boxed w1 (w.heap.size + 5) 22 (.slice A n c) := (hSD.alloc _).kept hg' (hSD.not_row (by decide) hrD)
                        clear hgrow
                        have hc1 := hv1.cell
                        have hf1 := hv1.frozen
                        refine hK _ _ ?_
                        clear hK K
                        try simp only [Act.put, List.getElem_toArray, List.getElem_cons_succ, List.getElem_cons_zero, List.setIfInBounds_toArray, List.set_cons_zero, List.set_cons_succ]
                        refine wpAny_ready (rs := [18]) (by kernel_rfl) (by simp) ?_
                        refine AllReady.cons rfl (fun K hK => ?_) ?_
                        · skip
                          go_simp
                          refine hK _ _ ?_
                          clear hK K
                          try simp only [Act.put, List.getElem_toArray, List.getElem_cons_succ, List.getElem_cons_zero, List.setIfInBounds_toArray, List.set_cons_zero, List.set_cons_succ]
                          refine wpAny_done (by kernel_rfl) ?_ _
                          have hBl : Below w.heap.size W _ := Below.trans ((Below.refl _ W).drew) (hb2.mono (by omega))
                          have hS2 := hS1.other (B' := w.heap.size + 4) (by omega) (.slice (some ⟨g', 0, none⟩) (k + 1) cap')
                          gi_wp2
                          refine ⟨((KeepsOthers.drew W).trans hk2).from _, kpB_of hBl hS hS2, ⟨⟨⟨_, hv2, ?_, ?_⟩, boxLow hL (Below.trans ((Below.refl _ W).drew) hb2) (by omega), boxLow hR (Below.trans ((Below.refl _ W).drew) hb2) (by omega), boxLow hO (Below.trans ((Below.refl _ W).drew) hb2) (by omega), hS2⟩, hBW.trans hBl⟩⟩
                          · have e3 : stT l (pre ++ [x]) = .br a b :: r := by unfold stT; rw [HEN.out, HX.out, stkStep_neg]; rfl
                            have e4 : stV l (pre ++ [x]) = r.reverse.map trVal ++ [trVal (.br a b)] := by unfold stV; rw [e3]; simp
                            rw [e3, e4, show (Tr.br a b :: r).length = k + 1 by simp [hk'.out]]
                            rw [EB.out]
                            simpa [listV] using hr2
                          · rw [HEN.out, HX.out, stkStep_neg]; rfl
                        exact AllReady.nil
                      exact AllReady.nil
                    exact AllReady.nil
                  exact AllReady.nil
                exact AllReady.nil
              refine AllReady.cons rfl (fun K hK => ?_) ?_
              · skip
                go_simp
                refine hK _ _ ?_
                clear hK K
                try simp only [Act.put, List.getElem_toArray, List.getElem_cons_succ, List.getElem_cons_zero, List.setIfInBounds_toArray, List.set_cons_zero, List.set_cons_succ]
                refine wpAny_ready (rs := [4]) (by kernel_rfl) (by simp) ?_
                refine AllReady.cons rfl (fun K hK => ?_) ?_
                · skip
                  go_simp
                  refine hK _ _ ?_
                  clear hK K
                  try simp only [Act.put, List.getElem_toArray, List.getElem_cons_succ, List.getElem_cons_zero, List.setIfInBounds_toArray, List.set_cons_zero, List.set_cons_succ]
                  refine wpAny_take (i := 7) (v := ?_) rfl (by kernel_rfl) (by kernel_rfl) (by kernel_rfl) (fun _ _ _ h => h) (Or.inl ⟨by rfl, ?_⟩) ?_
                  rotate_left 1
                  focus ((intro w; go_simp; (try with_reducible rfl)); done)
                  try simp only [Act.put, List.getElem_toArray, List.getElem_cons_succ, List.getElem_cons_zero, List.setIfInBounds_toArray, List.set_cons_zero, List.set_cons_succ]
                  refine wpAny_ready (rs := [8]) (by kernel_rfl) (by simp) ?_
                  refine AllReady.cons rfl (fun K hK => ?_) ?_
                  · skip
                    go_simp
                    refine hK _ _ ?_
                    clear hK K
                    try simp only [Act.put, List.getElem_toArray, List.getElem_cons_succ, List.getElem_cons_zero, List.setIfInBounds_toArray, List.set_cons_zero, List.set_cons_succ]
                    refine wpAny_take (i := 14) (v := ?_) rfl (by kernel_rfl) (by kernel_rfl) (by kernel_rfl) (fun _ _ _ h => h) (Or.inl ⟨by rfl, ?_⟩) ?_
                    rotate_left 1
                    focus ((intro w; go_simp; (try with_reducible rfl)); done)
                    try simp only [Act.put, List.getElem_toArray, List.getElem_cons_succ, List.getElem_cons_zero, List.setIfInBounds_toArray, List.set_cons_zero, List.set_cons_succ]
                    refine wpAny_take (i := 15) (v := ?_) rfl (by kernel_rfl) (by kernel_rfl) (by kernel_rfl) (fun _ _ _ h => h) (Or.inl ⟨by rfl, ?_⟩) ?_
                    rotate_left 1
                    focus ((intro w; go_simp; (try with_reducible rfl)); done)
                    try simp only [Act.put, List.getElem_toArray, List.getElem_cons_succ, List.getElem_cons_zero, List.setIfInBounds_toArray, List.set_cons_zero, List.set_cons_succ]
                    refine wpAny_ready (rs := [16]) (by kernel_rfl) (by simp) ?_
                    refine AllReady.cons rfl (fun K hK => ?_) ?_
                    · skip
                      go_simp
                      refine hK _ _ ?_
                      clear hK K
                      try simp only [Act.put, List.getElem_toArray, List.getElem_cons_succ, List.getElem_cons_zero, List.setIfInBounds_toArray, List.set_cons_zero, List.set_cons_succ]
                      refine wpAny_ready (rs := [17]) (by kernel_rfl) (by simp) ?_
                      refine AllReady.cons rfl (fun K hK => ?_) ?_
                      · skip
                        refine step_append_cells _ rfl (.tmp 45) (.tmp 58) 93 rfl (w.heap.size + 3) 64 i0 .nilIface 1 16 Try.underlying93 hi hz0 hz1 hz2 rfl (by decide) (.slice (some ⟨g2, 0, none⟩) k cp) k (r.reverse.map trVal) rfl (hlD.alloc _) (some ⟨W.heap.size, 0, none⟩) 1 1 (fun _ => .iface 75 (.agg #[.iface ta va, .iface tb vb])) rfl (cells_lit1 (by simp)) (fun _ _ => by simp [Value.oneCell']) (by unfold maxLen; omega) (by omega) (by simp; omega) ?_
                        intro v' w1 hown' hgrow _
                        obtain ⟨g', cap', rfl⟩ := ownsRow_succ hown'
                        have hg' : (W.drew.alloc (.cells #[.iface 75 (.agg #[.iface ta va, .iface tb vb])] 64)).grownBy w1 (some g2) := hgrow
                        obtain ⟨hv1, hv2, hr2, hk2, hb2⟩ := hvD.appended (by decide) hrD (by simp; omega) (by omega) hown' hg'
                        have hS1 : Boxed w1 (w.heap.size + 5) 22 (.slice A n c) := (hSD.alloc _).kept hg' (hSD.not_row (by decide) hrD)
                        clear hgrow
                        have hc1 := hv1.cell
                        have hf1 := hv1.frozen
                        refine hK _ _ ?_
                        clear hK K
                        try simp only [Act.put, List.getElem_toArray, List.getElem_cons_succ, List.getElem_cons_zero, List.setIfInBounds_toArray, List.set_cons_zero, List.set_cons_succ]
                        refine wpAny_ready (rs := [18]) (by kernel_rfl) (by simp) ?_
                        refine AllReady.cons rfl (fun K hK => ?_) ?_
                        · skip
                          go_simp
                          refine hK _ _ ?_
                          clear hK K
                          try simp only [Act.put, List.getElem_toArray, List.getElem_cons_succ, List.getElem_cons_zero, List.setIfInBounds_toArray, List.set_cons_zero, List.set_cons_succ]
                          refine wpAny_done (by kernel_rfl) ?_ _
                          have hBl : Below w.heap.size W _ := Below.trans ((Below.refl _ W).drew) (hb2.mono (by omega))
                          have hS2 := hS1.other (B' := w.heap.size + 4) (by omega) (.slice (some ⟨g', 0, none⟩) (k + 1) cap')
                          gi_wp2
                          refine ⟨((KeepsOthers.drew W).trans hk2).from _, kpB_of hBl hS hS2, ⟨⟨⟨_, hv2, ?_, ?_⟩, boxLow hL (Below.trans ((Below.refl _ W).drew) hb2) (by omega), boxLow hR (Below.trans ((Below.refl _ W).drew) hb2) (by omega), boxLow hO (Below.trans ((Below.refl _ W).drew) hb2) (by omega), hS2⟩, hBW.trans hBl⟩⟩
                          · have e3 : stT l (pre ++ [x]) = .br a b :: r := by unfold stT; rw [HEN.out, HX.out, stkStep_neg]; rfl
                            have e4 : stV l (pre ++ [x]) = r.reverse.map trVal ++ [trVal (.br a b)] := by unfold stV; rw [e3]; simp
                            rw [e3, e4, show (Tr.br a b :: r).length = k + 1 by simp [hk'.out]]
                            rw [EB.out]
                            simpa [listV] using hr2
                          · rw [HEN.out, HX.out, stkStep_neg]; rfl
                        exact AllReady.nil
                      exact AllReady.nil
                    exact AllReady.nil
                  exact AllReady.nil
                exact AllReady.nil
              exact AllReady.nil
            exact AllReady.nil
          refine AllReady.cons rfl (fun K hK => ?_) ?_
          · skip
            go_simp
            refine hK _ _ ?_
            clear hK K
            try simp only [Act.put, List.getElem_toArray, List.getElem_cons_succ, List.getElem_cons_zero, List.setIfInBounds_toArray, List.set_cons_zero, List.set_cons_succ]
            refine wpAny_take (i := 7) (v := ?_) rfl (by kernel_rfl) (by kernel_rfl) (by kernel_rfl) (fun _ _ _ h => h) (Or.inl ⟨by rfl, ?_⟩) ?_
            rotate_left 1
            focus ((intro w; go_simp; (try with_reducible rfl)); done)
            try simp only [Act.put, List.getElem_toArray, List.getElem_cons_succ, List.getElem_cons_zero, List.setIfInBounds_toArray, List.set_cons_zero, List.set_cons_succ]
            refine wpAny_ready (rs := [0, 8, 9]) (by kernel_rfl) (by simp) ?_
            refine AllReady.cons rfl (fun K hK => ?_) ?_
            · skip
              go_simp
              refine hK _ _ ?_
              clear hK K
              try simp only [Act.put, List.getElem_toArray, List.getElem_cons_succ, List.getElem_cons_zero, List.setIfInBounds_toArray, List.set_cons_zero, List.set_cons_succ]
              refine wpAny_take (i := 3) (v := ?_) rfl (by kernel_rfl) (by kernel_rfl) (by kernel_rfl) (fun _ _ _ h => h) (Or.inl ⟨by rfl, ?_⟩) ?_
              rotate_left 1
              focus ((intro w; go_simp; (try with_reducible rfl)); done)
              try simp only [Act.put, List.getElem_toArray, List.getElem_cons_succ, List.getElem_cons_zero, List.setIfInBounds_toArray, List.set_cons_zero, List.set_cons_succ]
              refine wpAny_ready (rs := [8, 9]) (by kernel_rfl) (by simp) ?_
              refine AllReady.cons rfl (fun K hK => ?_) ?_
              · skip
                go_simp
                refine hK _ _ ?_
                clear hK K
                try simp only [Act.put, List.getElem_toArray, List.getElem_cons_succ, List.getElem_cons_zero, List.setIfInBounds_toArray, List.set_cons_zero, List.set_cons_succ]
                refine wpAny_ready (rs := [9]) (by kernel_rfl) (by simp) ?_
                refine AllReady.cons rfl (fun K hK => ?_) ?_
                · skip
                  go_simp
                  refine hK _ _ ?_
                  clear hK K
                  try simp only [Act.put, List.getElem_toArray, List.getElem_cons_succ, List.getElem_cons_zero, List.setIfInBounds_toArray, List.set_cons_zero, List.set_cons_succ]
                  refine wpAny_take (i := 12) (v := ?_) rfl (by kernel_rfl) (by kernel_rfl) (by kernel_rfl) (fun _ _ _ h => h) (Or.inl ⟨by rfl, ?_⟩) ?_
                  rotate_left 1
                  focus ((intro w; go_simp; (try with_reducible rfl)); done)
                  try simp only [Act.put, List.getElem_toArray, List.getElem_cons_succ, List.getElem_cons_zero, List.setIfInBounds_toArray, List.set_cons_zero, List.set_cons_succ]
                  refine wpAny_ready (rs := [13]) (by kernel_rfl) (by simp) ?_
                  refine AllReady.cons rfl (fun K hK => ?_) ?_
                  · skip
                    go_simp
                    refine hK _ _ ?_
                    clear hK K
                    try simp only [Act.put, List.getElem_toArray, List.getElem_cons_succ, List.getElem_cons_zero, List.setIfInBounds_toArray, List.set_cons_zero, List.set_cons_succ]
                    refine wpAny_take (i := 14) (v := ?_) rfl (by kernel_rfl) (by kernel_rfl) (by kernel_rfl) (fun _ _ _ h => h) (Or.inl ⟨by rfl, ?_⟩) ?_
                    rotate_left 1
                    focus ((intro w; go_simp; (try with_reducible rfl)); done)
                    try simp only [Act.put, List.getElem_toArray, List.getElem_cons_succ, List.getElem_cons_zero, List.setIfInBounds_toArray, List.set_cons_zero, List.set_cons_succ]
                    refine wpAny_take (i := 15) (v := ?_) rfl (by kernel_rfl) (by kernel_rfl) (by kernel_rfl) (fun _ _ _ h => h) (Or.inl ⟨by rfl, ?_⟩) ?_
                    rotate_left 1
                    focus ((intro w; go_simp; (try with_reducible rfl)); done)
                    try simp only [Act.put, List.getElem_toArray, List.getElem_cons_succ, List.getElem_cons_zero, List.setIfInBounds_toArray, List.set_cons_zero, List.set_cons_succ]
                    refine wpAny_ready (rs := [16]) (by kernel_rfl) (by simp) ?_
                    refine AllReady.cons rfl (fun K hK => ?_) ?_
                    · skip
                      go_simp
                      refine hK _ _ ?_
                      clear hK K
                      try simp only [Act.put, List.getElem_toArray, List.getElem_cons_succ, List.getElem_cons_zero, List.setIfInBounds_toArray, List.set_cons_zero, List.set_cons_succ]
                      refine wpAny_ready (rs := [17]) (by kernel_rfl) (by simp) ?_
                      refine AllReady.cons rfl (fun K hK => ?_) ?_
                      · skip
                        refine step_append_cells _ rfl (.tmp 45) (.tmp 58) 93 rfl (w.heap.size + 3) 64 i0 .nilIface 1 16 Try.underlying93 hi hz0 hz1 hz2 rfl (by decide) (.slice (some ⟨g2, 0, none⟩) k cp) k (r.reverse.map trVal) rfl (hlD.alloc _) (some ⟨W.heap.size, 0, none⟩) 1 1 (fun _ => .iface 75 (.agg #[.iface ta va, .iface tb vb])) rfl (cells_lit1 (by simp)) (fun _ _ => by simp [Value.oneCell']) (by unfold maxLen; omega) (by omega) (by simp; omega) ?_
                        intro v' w1 hown' hgrow _
                        obtain ⟨g', cap', rfl⟩ := ownsRow_succ hown'
                        have hg' : (W.drew.alloc (.cells #[.iface 75 (.agg #[.iface ta va, .iface tb vb])] 64)).grownBy w1 (some g2) := hgrow
                        obtain ⟨hv1, hv2, hr2, hk2, hb2⟩ := hvD.appended (by decide) hrD (by simp; omega) (by omega) hown' hg'
                        have hS1 : Boxed w1 (w.heap.size + 5) 22 (.slice A n c) := (hSD.alloc _).kept hg' (hSD.not_row (by decide) hrD)
                        clear hgrow
                        have hc1 := hv1.cell
                        have hf1 := hv1.frozen
                        refine hK _ _ ?_
                        clear hK K
                        try simp only [Act.put, List.getElem_toArray, List.getElem_cons_succ, List.getElem_cons_zero, List.setIfInBounds_toArray, List.set_cons_zero, List.set_cons_succ]
                        refine wpAny_ready (rs := [18]) (by kernel_rfl) (by simp) ?_
                        refine AllReady.cons rfl (fun K hK => ?_) ?_
                        · skip
                          go_simp
                          refine hK _ _ ?_
                          clear hK K
                          try simp only [Act.put, List.getElem_toArray, List.getElem_cons_succ, List.getElem_cons_zero, List.setIfInBounds_toArray, List.set_cons_zero, List.set_cons_succ]
                          refine wpAny_done (by kernel_rfl) ?_ _
                          have hBl : Below w.heap.size W _ := Below.trans ((Below.refl _ W).drew) (hb2.mono (by omega))
                          have hS2 := hS1.other (B' := w.heap.size + 4) (by omega) (.slice (some ⟨g', 0, none⟩) (k + 1) cap')
                          gi_wp2
                          refine ⟨((KeepsOthers.drew W).trans hk2).from _, kpB_of hBl hS hS2, ⟨⟨⟨_, hv2, ?_, ?_⟩, boxLow hL (Below.trans ((Below.refl _ W).drew) hb2) (by omega), boxLow hR (Below.trans ((Below.refl _ W).drew) hb2) (by omega), boxLow hO (Below.trans ((Below.refl _ W).drew) hb2) (by omega), hS2⟩, hBW.trans hBl⟩⟩
                          · have e3 : stT l (pre ++ [x]) = .br a b :: r := by unfold stT; rw [HEN.out, HX.out, stkStep_neg]; rfl
                            have e4 : stV l (pre ++ [x]) = r.reverse.map trVal ++ [trVal (.br a b)] := by unfold stV; rw [e3]; simp
                            rw [e3, e4, show (Tr.br a b :: r).length = k + 1 by simp [hk'.out]]
                            rw [EB.out]
                            simpa [listV] using hr2
                          · rw [HEN.out, HX.out, stkStep_neg]; rfl
                        exact AllReady.nil
                      exact AllReady.nil
                    exact AllReady.nil
                  exact AllReady.nil
                exact AllReady.nil
              refine AllReady.cons rfl (fun K hK => ?_) ?_
              · skip
                go_simp
                refine hK _ _ ?_
                clear hK K
                try simp only [Act.put, List.getElem_toArray, List.getElem_cons_succ, List.getElem_cons_zero, List.setIfInBounds_toArray, List.set_cons_zero, List.set_cons_succ]
                refine wpAny_take (i := 12) (v := ?_) rfl (by kernel_rfl) (by kernel_rfl) (by kernel_rfl) (fun _ _ _ h => h) (Or.inl ⟨by rfl, ?_⟩) ?_
                rotate_left 1
                focus ((intro w; go_simp; (try with_reducible rfl)); done)
                try simp only [Act.put, List.getElem_toArray, List.getElem_cons_succ, List.getElem_cons_zero, List.setIfInBounds_toArray, List.set_cons_zero, List.set_cons_succ]
                refine wpAny_ready (rs := [8, 13]) (by kernel_rfl) (by simp) ?_
                refine AllReady.cons rfl (fun K hK => ?_) ?_
                · skip
                  go_simp
                  refine hK _ _ ?_
                  clear hK K
                  try simp only [Act.put, List.getElem_toArray, List.getElem_cons_succ, List.getElem_cons_zero, List.setIfInBounds_toArray, List.set_cons_zero, List.set_cons_succ]
                  refine wpAny_ready (rs := [13]) (by kernel_rfl) (by simp) ?_
                  refine AllReady.cons rfl (fun K hK => ?_) ?_
                  · skip
                    go_simp
                    refine hK _ _ ?_
                    clear hK K
                    try simp only [Act.put, List.getElem_toArray, List.getElem_cons_succ, List.getElem_cons_zero, List.setIfInBounds_toArray, List.set_cons_zero, List.set_cons_succ]
                    refine wpAny_take (i := 14) (v := ?_) rfl (by kernel_rfl) (by kernel_rfl) (by kernel_rfl) (fun _ _ _ h => h) (Or.inl ⟨by rfl, ?_⟩) ?_
                    rotate_left 1
                    focus ((intro w; go_simp; (try with_reducible rfl)); done)
                    try simp only [Act.put, List.getElem_toArray, List.getElem_cons_succ, List.getElem_cons_zero, List.setIfInBounds_toArray, List.set_cons_zero, List.set_cons_succ]
                    refine wpAny_take (i := 15) (v := ?_) rfl (by kernel_rfl) (by kernel_rfl) (by kernel_rfl) (fun _ _ _ h => h) (Or.inl ⟨by rfl, ?_⟩) ?_
                    rotate_left 1
                    focus ((intro w; go_simp; (try with_reducible rfl)); done)
                    try simp only [Act.put, List.getElem_toArray, List.getElem_cons_succ, List.getElem_cons_zero, List.setIfInBounds_toArray, List.set_cons_zero, List.set_cons_succ]
                    refine wpAny_ready (rs := [16]) (by kernel_rfl) (by simp) ?_
                    refine AllReady.cons rfl (fun K hK => ?_) ?_
                    · skip
                      go_simp
                      refine hK _ _ ?_
                      clear hK K
                      try simp only [Act.put, List.getElem_toArray, List.getElem_cons_succ, List.getElem_cons_zero, List.setIfInBounds_toArray, List.set_cons_zero, List.set_cons_succ]
                      refine wpAny_ready (rs := [17]) (by kernel_rfl) (by simp) ?_
                      refine AllReady.cons rfl (fun K hK => ?_) ?_
                      · skip
                        refine step_append_cells _ rfl (.tmp 45) (.tmp 58) 93 rfl (w.heap.size + 3) 64 i0 .nilIface 1 16 Try.underlying93 hi hz0 hz1 hz2 rfl (by decide) (.slice (some ⟨g2, 0, none⟩) k cp) k (r.reverse.map trVal) rfl (hlD.alloc _) (some ⟨W.heap.size, 0, none⟩) 1 1 (fun _ => .iface 75 (.agg #[.iface ta va, .iface tb vb])) rfl (cells_lit1 (by simp)) (fun _ _ => by simp [Value.oneCell']) (by unfold maxLen; omega) (by omega) (by simp; omega) ?_
                        intro v' w1 hown' hgrow _
                        obtain ⟨g', cap', rfl⟩ := ownsRow_succ hown'
                        have hg' : (W.drew.alloc (.cells #[.iface 75 (.agg #[.iface ta va, .iface tb vb])] 64)).grownBy w1 (some g2) := hgrow
                        obtain ⟨hv1, hv2, hr2, hk2, hb2⟩ := hvD.appended (by decide) hrD (by simp; omega) (by omega) hown' hg'
                        have hS1 : Boxed w1 (w.heap.size + 5) 22 (.slice A n c) := (hSD.alloc _).kept hg' (hSD.not_row (by decide) hrD)
                        clear hgrow
                        have hc1 := hv1.cell
                        have hf1 := hv1.frozen
                        refine hK _ _ ?_
                        clear hK K
                        try simp only [Act.put, List.getElem_toArray, List.getElem_cons_succ, List.getElem_cons_zero, List.setIfInBounds_toArray, List.set_cons_zero, List.set_cons_succ]
                        refine wpAny_ready (rs := [18]) (by kernel_rfl) (by simp) ?_
                        refine AllReady.cons rfl (fun K hK => ?_) ?_
                        · skip
                          go_simp
                          refine hK _ _ ?_
                          clear hK K
                          try simp only [Act.put, List.getElem_toArray, List.getElem_cons_succ, List.getElem_cons_zero, List.setIfInBounds_toArray, List.set_cons_zero, List.set_cons_succ]
                          refine wpAny_done (by kernel_rfl) ?_ _
                          have hBl : Below w.heap.size W _ := Below.trans ((Below.refl _ W).drew) (hb2.mono (by omega))
                          have hS2 := hS1.other (B' := w.heap.size + 4) (by omega) (.slice (some ⟨g', 0, none⟩) (k + 1) cap')
                          gi_wp2
                          refine ⟨((KeepsOthers.drew W).trans hk2).from _, kpB_of hBl hS hS2, ⟨⟨⟨_, hv2, ?_, ?_⟩, boxLow hL (Below.trans ((Below.refl _ W).drew) hb2) (by omega), boxLow hR (Below.trans ((Below.refl _ W).drew) hb2) (by omega), boxLow hO (Below.trans ((Below.refl _ W).drew) hb2) (by omega), hS2⟩, hBW.trans hBl⟩⟩
                          · have e3 : stT l (pre ++ [x]) = .br a b :: r := by unfold stT; rw [HEN.out, HX.out, stkStep_neg]; rfl
                            have e4 : stV l (pre ++ [x]) = r.reverse.map trVal ++ [trVal (.br a b)] := by unfold stV; rw [e3]; simp
                            rw [e3, e4, show (Tr.br a b :: r).length = k + 1 by simp [hk'.out]]
                            rw [EB.out]
                            simpa [listV] using hr2
                          · rw [HEN.out, HX.out, stkStep_neg]; rfl
                        exact AllReady.nil
                      exact AllReady.nil
                    exact AllReady.nil
                  exact AllReady.nil
                refine AllReady.cons rfl (fun K hK => ?_) ?_
                · skip
                  go_simp
                  refine hK _ _ ?_
                  clear hK K
                  try simp only [Act.put, List.getElem_toArray, List.getElem_cons_succ, List.getElem_cons_zero, List.setIfInBounds_toArray, List.set_cons_zero, List.set_cons_succ]
                  refine wpAny_ready (rs := [8]) (by kernel_rfl) (by simp) ?_
                  refine AllReady.cons rfl (fun K hK => ?_) ?_
                  · skip
                    go_simp
                    refine hK _ _ ?_
                    clear hK K
                    try simp only [Act.put, List.getElem_toArray, List.getElem_cons_succ, List.getElem_cons_zero, List.setIfInBounds_toArray, List.set_cons_zero, List.set_cons_succ]
                    refine wpAny_take (i := 14) (v := ?_) rfl (by kernel_rfl) (by kernel_rfl) (by kernel_rfl) (fun _ _ _ h => h) (Or.inl ⟨by rfl, ?_⟩) ?_
                    rotate_left 1
                    focus ((intro w; go_simp; (try with_reducible rfl)); done)
                    try simp only [Act.put, List.getElem_toArray, List.getElem_cons_succ, List.getElem_cons_zero, List.setIfInBounds_toArray, List.set_cons_zero, List.set_cons_succ]
                    refine wpAny_take (i := 15) (v := ?_) rfl (by kernel_rfl) (by kernel_rfl) (by kernel_rfl) (fun _ _ _ h => h) (Or.inl ⟨by rfl, ?_⟩) ?_
                    rotate_left 1
                    focus ((intro w; go_simp; (try with_reducible rfl)); done)
                    try simp only [Act.put, List.getElem_toArray, List.getElem_cons_succ, List.getElem_cons_zero, List.setIfInBounds_toArray, List.set_cons_zero, List.set_cons_succ]
                    refine wpAny_ready (rs := [16]) (by kernel_rfl) (by simp) ?_
                    refine AllReady.cons rfl (fun K hK => ?_) ?_
                    · skip
                      go_simp
                      refine hK _ _ ?_
                      clear hK K
                      try simp only [Act.put, List.getElem_toArray, List.getElem_cons_succ, List.getElem_cons_zero, List.setIfInBounds_toArray, List.set_cons_zero, List.set_cons_succ]
                      refine wpAny_ready (rs := [17]) (by kernel_rfl) (by simp) ?_
                      refine AllReady.cons rfl (fun K hK => ?_) ?_
                      · skip
                        refine step_append_cells _ rfl (.tmp 45) (.tmp 58) 93 rfl (w.heap.size + 3) 64 i0 .nilIface 1 16 Try.underlying93 hi hz0 hz1 hz2 rfl (by decide) (.slice (some ⟨g2, 0, none⟩) k cp) k (r.reverse.map trVal) rfl (hlD.alloc _) (some ⟨W.heap.size, 0, none⟩) 1 1 (fun _ => .iface 75 (.agg #[.iface ta va, .iface tb vb])) rfl (cells_lit1 (by simp)) (fun _ _ => by simp [Value.oneCell']) (by unfold maxLen; omega) (by omega) (by simp; omega) ?_
                        intro v' w1 hown' hgrow _
                        obtain ⟨g', cap', rfl⟩ := ownsRow_succ hown'
                        have hg' : (W.drew.alloc (.cells #[.iface 75 (.agg #[.iface ta va, .iface tb vb])] 64)).grownBy w1 (some g2) := hgrow
                        obtain ⟨hv1, hv2, hr2, hk2, hb2⟩ := hvD.appended (by decide) hrD (by simp; omega) (by omega) hown' hg'
                        have hS1 : Boxed w1 (w.heap.size + 5) 22 (.slice A n c) := (hSD.alloc _).kept hg' (hSD.not_row (by decide) hrD)
                        clear hgrow
                        have hc1 := hv1.cell
                        have hf1 := hv1.frozen
                        refine hK _ _ ?_
                        clear hK K
                        try simp only [Act.put, List.getElem_toArray, List.getElem_cons_succ, List.getElem_cons_zero, List.setIfInBounds_toArray, List.set_cons_zero, List.set_cons_succ]
                        refine wpAny_ready (rs := [18]) (by kernel_rfl) (by simp) ?_
                        refine AllReady.cons rfl (fun K hK => ?_) ?_
                        · skip
                          go_simp
                          refine hK _ _ ?_
                          clear hK K
                          try simp only [Act.put, List.getElem_toArray, List.getElem_cons_succ, List.getElem_cons_zero, List.setIfInBounds_toArray, List.set_cons_zero, List.set_cons_succ]
                          refine wpAny_done (by kernel_rfl) ?_ _
                          have hBl : Below w.heap.size W _ := Below.trans ((Below.refl _ W).drew) (hb2.mono (by omega))
                          have hS2 := hS1.other (B' := w.heap.size + 4) (by omega) (.slice (some ⟨g', 0, none⟩) (k + 1) cap')
                          gi_wp2
                          refine ⟨((KeepsOthers.drew W).trans hk2).from _, kpB_of hBl hS hS2, ⟨⟨⟨_, hv2, ?_, ?_⟩, boxLow hL (Below.trans ((Below.refl _ W).drew) hb2) (by omega), boxLow hR (Below.trans ((Below.refl _ W).drew) hb2) (by omega), boxLow hO (Below.trans ((Below.refl _ W).drew) hb2) (by omega), hS2⟩, hBW.trans hBl⟩⟩
                          · have e3 : stT l (pre ++ [x]) = .br a b :: r := by unfold stT; rw [HEN.out, HX.out, stkStep_neg]; rfl
                            have e4 : stV l (pre ++ [x]) = r.reverse.map trVal ++ [trVal (.br a b)] := by unfold stV; rw [e3]; simp
                            rw [e3, e4, show (Tr.br a b :: r).length = k + 1 by simp [hk'.out]]
                            rw [EB.out]
                            simpa [listV] using hr2
                          · rw [HEN.out, HX.out, stkStep_neg]; rfl
                        exact AllReady.nil
                      exact AllReady.nil
                    exact AllReady.nil
                  exact AllReady.nil
                exact AllReady.nil
              exact AllReady.nil
            refine AllReady.cons rfl (fun K hK => ?_) ?_
            · skip
              go_simp
              refine hK _ _ ?_
              clear hK K
              try simp only [Act.put, List.getElem_toArray, List.getElem_cons_succ, List.getElem_cons_zero, List.setIfInBounds_toArray, List.set_cons_zero, List.set_cons_succ]
              refine wpAny_ready (rs := [0, 9]) (by kernel_rfl) (by simp) ?_
              refine AllReady.cons rfl (fun K hK => ?_) ?_
              · skip
                go_simp
                refine hK _ _ ?_
                clear hK K
                try simp only [Act.put, List.getElem_toArray, List.getElem_cons_succ, List.getElem_cons_zero, List.setIfInBounds_toArray, List.set_cons_zero, List.set_cons_succ]
                refine wpAny_take (i := 3) (v := ?_) rfl (by kernel_rfl) (by kernel_rfl) (by kernel_rfl) (fun _ _ _ h => h) (Or.inl ⟨by rfl, ?_⟩) ?_
                rotate_left 1
                focus ((intro w; go_simp; (try with_reducible rfl)); done)
                try simp only [Act.put, List.getElem_toArray, List.getElem_cons_succ, List.getElem_cons_zero, List.setIfInBounds_toArray, List.set_cons_zero, List.set_cons_succ]
                refine wpAny_ready (rs := [9]) (by kernel_rfl) (by simp) ?_
                refine AllReady.cons rfl (fun K hK => ?_) ?_
                · skip
                  go_simp
                  refine hK _ _ ?_
                  clear hK K
                  try simp only [Act.put, List.getElem_toArray, List.getElem_cons_succ, List.getElem_cons_zero, List.setIfInBounds_toArray, List.set_cons_zero, List.set_cons_succ]
                  refine wpAny_take (i := 12) (v := ?_) rfl (by kernel_rfl) (by kernel_rfl) (by kernel_rfl) (fun _ _ _ h => h) (Or.inl ⟨by rfl, ?_⟩) ?_
                  rotate_left 1
                  focus ((intro w; go_simp; (try with_reducible rfl)); done)
                  try simp only [Act.put, List.getElem_toArray, List.getElem_cons_succ, List.getElem_cons_zero, List.setIfInBounds_toArray, List.set_cons_zero, List.set_cons_succ]
                  refine wpAny_ready (rs := [13]) (by kernel_rfl) (by simp) ?_
                  refine AllReady.cons rfl (fun K hK => ?_) ?_
                  · skip
                    go_simp
                    refine hK _ _ ?_
                    clear hK K
                    try simp only [Act.put, List.getElem_toArray, List.getElem_cons_succ, List.getElem_cons_zero, List.setIfInBounds_toArray, List.set_cons_zero, List.set_cons_succ]
                    refine wpAny_take (i := 14) (v := ?_) rfl (by kernel_rfl) (by kernel_rfl) (by kernel_rfl) (fun _ _ _ h => h) (Or.inl ⟨by rfl, ?_⟩) ?_
                    rotate_left 1
                    focus ((intro w; go_simp; (try with_reducible rfl)); done)
                    try simp only [Act.put, List.getElem_toArray, List.getElem_cons_succ, List.getElem_cons_zero, List.setIfInBounds_toArray, List.set_cons_zero, List.set_cons_succ]
                    refine wpAny_take (i := 15) (v := ?_) rfl (by kernel_rfl) (by kernel_rfl) (by kernel_rfl) (fun _ _ _ h => h) (Or.inl ⟨by rfl, ?_⟩) ?_
                    rotate_left 1
                    focus ((intro w; go_simp; (try with_reducible rfl)); done)
                    try simp only [Act.put, List.getElem_toArray, List.getElem_cons_succ, List.getElem_cons_zero, List.setIfInBounds_toArray, List.set_cons_zero, List.set_cons_succ]
                    refine wpAny_ready (rs := [16]) (by kernel_rfl) (by simp) ?_
                    refine AllReady.cons rfl (fun K hK => ?_) ?_
                    · skip
                      go_simp
                      refine hK _ _ ?_
                      clear hK K
                      try simp only [Act.put, List.getElem_toArray, List.getElem_cons_succ, List.getElem_cons_zero, List.setIfInBounds_toArray, List.set_cons_zero, List.set_cons_succ]
                      refine wpAny_ready (rs := [17]) (by kernel_rfl) (by simp) ?_
                      refine AllReady.cons rfl (fun K hK => ?_) ?_
                      · skip
                        refine step_append_cells _ rfl (.tmp 45) (.tmp 58) 93 rfl (w.heap.size + 3) 64 i0 .nilIface 1 16 Try.underlying93 hi hz0 hz1 hz2 rfl (by decide) (.slice (some ⟨g2, 0, none⟩) k cp) k (r.reverse.map trVal) rfl (hlD.alloc _) (some ⟨W.heap.size, 0, none⟩) 1 1 (fun _ => .iface 75 (.agg #[.iface ta va, .iface tb vb])) rfl (cells_lit1 (by simp)) (fun _ _ => by simp [Value.oneCell']) (by unfold maxLen; omega) (by omega) (by simp; omega) ?_
                        intro v' w1 hown' hgrow _
                        obtain ⟨g', cap', rfl⟩ := ownsRow_succ hown'
                        have hg' : (W.drew.alloc (.cells #[.iface 75 (.agg #[.iface ta va, .iface tb vb])] 64)).grownBy w1 (some g2) := hgrow
                        obtain ⟨hv1, hv2, hr2, hk2, hb2⟩ := hvD.appended (by decide) hrD (by simp; omega) (by omega) hown' hg'
                        have hS1 : Boxed w1 (w.heap.size + 5) 22 (.slice A n c) := (hSD.alloc _).kept hg' (hSD.not_row (by decide) hrD)
                        clear hgrow
                        have hc1 := hv1.cell
                        have hf1 := hv1.frozen
                        refine hK _ _ ?_
                        clear hK K
                        try simp only [Act.put, List.getElem_toArray, List.getElem_cons_succ, List.getElem_cons_zero, List.setIfInBounds_toArray, List.set_cons_zero, List.set_cons_succ]
                        refine wpAny_ready (rs := [18]) (by kernel_rfl) (by simp) ?_
                        refine AllReady.cons rfl (fun K hK => ?_) ?_
                        · skip
                          go_simp
                          refine hK _ _ ?_
                          clear hK K
                          try simp only [Act.put, List.getElem_toArray, List.getElem_cons_succ, List.getElem_cons_zero, List.setIfInBounds_toArray, List.set_cons_zero, List.set_cons_succ]
                          refine wpAny_done (by kernel_rfl) ?_ _
                          have hBl : Below w.heap.size W _ := Below.trans ((Below.refl _ W).drew) (hb2.mono (by omega))
                          have hS2 := hS1.other (B' := w.heap.size + 4) (by omega) (.slice (some ⟨g', 0, none⟩) (k + 1) cap')
                          gi_wp2
                          refine ⟨((KeepsOthers.drew W).trans hk2).from _, kpB_of hBl hS hS2, ⟨⟨⟨_, hv2, ?_, ?_⟩, boxLow hL (Below.trans ((Below.refl _ W).drew) hb2) (by omega), boxLow hR (Below.trans ((Below.refl _ W).drew) hb2) (by omega), boxLow hO (Below.trans ((Below.refl _ W).drew) hb2) (by omega), hS2⟩, hBW.trans hBl⟩⟩
                          · have e3 : stT l (pre ++ [x]) = .br a b :: r := by unfold stT; rw [HEN.out, HX.out, stkStep_neg]; rfl
                            have e4 : stV l (pre ++ [x]) = r.reverse.map trVal ++ [trVal (.br a b)] := by unfold stV; rw [e3]; simp
                            rw [e3, e4, show (Tr.br a b :: r).length = k + 1 by simp [hk'.out]]
                            rw [EB.out]
                            simpa [listV] using hr2
                          · rw [HEN.out, HX.out, stkStep_neg]; rfl
                        exact AllReady.nil
                      exact AllReady.nil
                    exact AllReady.nil
                  exact AllReady.nil
                exact AllReady.nil
              refine AllReady.cons rfl (fun K hK => ?_) ?_
              · skip
                go_simp
                refine hK _ _ ?_
                clear hK K
                try simp only [Act.put, List.getElem_toArray, List.getElem_cons_succ, List.getElem_cons_zero, List.setIfInBounds_toArray, List.set_cons_zero, List.set_cons_succ]
                refine wpAny_take (i := 12) (v := ?_) rfl (by kernel_rfl) (by kernel_rfl) (by kernel_rfl) (fun _ _ _ h => h) (Or.inl ⟨by rfl, ?_⟩) ?_
                rotate_left 1
                focus ((intro w; go_simp; (try with_reducible rfl)); done)
                try simp only [Act.put, List.getElem_toArray, List.getElem_cons_succ, List.getElem_cons_zero, List.setIfInBounds_toArray, List.set_cons_zero, List.set_cons_succ]
                refine wpAny_ready (rs := [0, 13]) (by kernel_rfl) (by simp) ?_
                refine AllReady.cons rfl (fun K hK => ?_) ?_
                · skip
                  go_simp
                  refine hK _ _ ?_
                  clear hK K
                  try simp only [Act.put, List.getElem_toArray, List.getElem_cons_succ, List.getElem_cons_zero, List.setIfInBounds_toArray, List.set_cons_zero, List.set_cons_succ]
                  refine wpAny_take (i := 3) (v := ?_) rfl (by kernel_rfl) (by kernel_rfl) (by kernel_rfl) (fun _ _ _ h => h) (Or.inl ⟨by rfl, ?_⟩) ?_
                  rotate_left 1
                  focus ((intro w; go_simp; (try with_reducible rfl)); done)
                  try simp only [Act.put, List.getElem_toArray, List.getElem_cons_succ, List.getElem_cons_zero, List.setIfInBounds_toArray, List.set_cons_zero, List.set_cons_succ]
                  refine wpAny_ready (rs := [13]) (by kernel_rfl) (by simp) ?_
                  refine AllReady.cons rfl (fun K hK => ?_) ?_
                  · skip
                    go_simp
                    refine hK _ _ ?_
                    clear hK K
                    try simp only [Act.put, List.getElem_toArray, List.getElem_cons_succ, List.getElem_cons_zero, List.setIfInBounds_toArray, List.set_cons_zero, List.set_cons_succ]
                    refine wpAny_take (i := 14) (v := ?_) rfl (by kernel_rfl) (by kernel_rfl) (by kernel_rfl) (fun _ _ _ h => h) (Or.inl ⟨by rfl, ?_⟩) ?_
                    rotate_left 1
                    focus ((intro w; go_simp; (try with_reducible rfl)); done)
                    try simp only [Act.put, List.getElem_toArray, List.getElem_cons_succ, List.getElem_cons_zero, List.setIfInBounds_toArray, List.set_cons_zero, List.set_cons_succ]
                    refine wpAny_take (i := 15) (v := ?_) rfl (by kernel_rfl) (by kernel_rfl) (by kernel_rfl) (fun _ _ _ h => h) (Or.inl ⟨by rfl, ?_⟩) ?_
                    rotate_left 1
                    focus ((intro w; go_simp; (try with_reducible rfl)); done)
                    try simp only [Act.put, List.getElem_toArray, List.getElem_cons_succ, List.getElem_cons_zero, List.setIfInBounds_toArray, List.set_cons_zero, List.set_cons_succ]
                    refine wpAny_ready (rs := [16]) (by kernel_rfl) (by simp) ?_
                    refine AllReady.cons rfl (fun K hK => ?_) ?_
                    · skip
                      go_simp
                      refine hK _ _ ?_
                      clear hK K
                      try simp only [Act.put, List.getElem_toArray, List.getElem_cons_succ, List.getElem_cons_zero, List.setIfInBounds_toArray, List.set_cons_zero, List.set_cons_succ]
                      refine wpAny_ready (rs := [17]) (by kernel_rfl) (by simp) ?_
                      refine AllReady.cons rfl (fun K hK => ?_) ?_
                      · skip
                        refine step_append_cells _ rfl (.tmp 45) (.tmp 58) 93 rfl (w.heap.size + 3) 64 i0 .nilIface 1 16 Try.underlying93 hi hz0 hz1 hz2 rfl (by decide) (.slice (some ⟨g2, 0, none⟩) k cp) k (r.reverse.map trVal) rfl (hlD.alloc _) (some ⟨W.heap.size, 0, none⟩) 1 1 (fun _ => .iface 75 (.agg #[.iface ta va, .iface tb vb])) rfl (cells_lit1 (by simp)) (fun _ _ => by simp [Value.oneCell']) (by unfold maxLen; omega) (by omega) (by simp; omega) ?_
                        intro v' w1 hown' hgrow _
                        obtain ⟨g', cap', rfl⟩ := ownsRow_succ hown'
                        have hg' : (W.drew.alloc (.cells #[.iface 75 (.agg #[.iface ta va, .iface tb vb])] 64)).grownBy w1 (some g2) := hgrow
                        obtain ⟨hv1, hv2, hr2, hk2, hb2⟩ := hvD.appended (by decide) hrD (by simp; omega) (by omega) hown' hg'
                        have hS1 : Boxed w1 (w.heap.size + 5) 22 (.slice A n c) := (hSD.alloc _).kept hg' (hSD.not_row (by decide) hrD)
                        clear hgrow
                        have hc1 := hv1.cell
                        have hf1 := hv1.frozen
                        refine hK _ _ ?_
                        clear hK K
                        try simp only [Act.put, List.getElem_toArray, List.getElem_cons_succ, List.getElem_cons_zero, List.setIfInBounds_toArray, List.set_cons_zero, List.set_cons_succ]
                        refine wpAny_ready (rs := [18]) (by kernel_rfl) (by simp) ?_
                        refine AllReady.cons rfl (fun K hK => ?_) ?_
                        · skip
                          go_simp
                          refine hK _ _ ?_
                          clear hK K
                          try simp only [Act.put, List.getElem_toArray, List.getElem_cons_succ, List.getElem_cons_zero, List.setIfInBounds_toArray, List.set_cons_zero, List.set_cons_succ]
                          refine wpAny_done (by kernel_rfl) ?_ _
                          have hBl : Below w.heap.size W _ := Below.trans ((Below.refl _ W).drew) (hb2.mono (by omega))
                          have hS2 := hS1.other (B' := w.heap.size + 4) (by omega) (.slice (some ⟨g', 0, none⟩) (k + 1) cap')
                          gi_wp2
                          refine ⟨((KeepsOthers.drew W).trans hk2).from _, kpB_of hBl hS hS2, ⟨⟨⟨_, hv2, ?_, ?_⟩, boxLow hL (Below.trans ((Below.refl _ W).drew) hb2) (by omega), boxLow hR (Below.trans ((Below.refl _ W).drew) hb2) (by omega), boxLow hO (Below.trans ((Below.refl _ W).drew) hb2) (by omega), hS2⟩, hBW.trans hBl⟩⟩
                          · have e3 : stT l (pre ++ [x]) = .br a b :: r := by unfold stT; rw [HEN.out, HX.out, stkStep_neg]; rfl
                            have e4 : stV l (pre ++ [x]) = r.reverse.map trVal ++ [trVal (.br a b)] := by unfold stV; rw [e3]; simp
                            rw [e3, e4, show (Tr.br a b :: r).length = k + 1 by simp [hk'.out]]
                            rw [EB.out]
                            simpa [listV] using hr2
                          · rw [HEN.out, HX.out, stkStep_neg]; rfl
                        exact AllReady.nil
                      exact AllReady.nil
                    exact AllReady.nil
                  exact AllReady.nil
                refine AllReady.cons rfl (fun K hK => ?_) ?_
                · skip
                  go_simp
                  refine hK _ _ ?_
                  clear hK K
                  try simp only [Act.put, List.getElem_toArray, List.getElem_cons_succ, List.getElem_cons_zero, List.setIfInBounds_toArray, List.set_cons_zero, List.set_cons_succ]
                  refine wpAny_take (i := 14) (v := ?_) rfl (by kernel_rfl) (by kernel_rfl) (by kernel_rfl) (fun _ _ _ h => h) (Or.inl ⟨by rfl, ?_⟩) ?_
                  rotate_left 1
                  focus ((intro w; go_simp; (try with_reducible rfl)); done)
                  try simp only [Act.put, List.getElem_toArray, List.getElem_cons_succ, List.getElem_cons_zero, List.setIfInBounds_toArray, List.set_cons_zero, List.set_cons_succ]
                  refine wpAny_take (i := 15) (v := ?_) rfl (by kernel_rfl) (by kernel_rfl) (by kernel_rfl) (fun _ _ _ h => h) (Or.inl ⟨by rfl, ?_⟩) ?_
                  rotate_left 1
                  focus ((intro w; go_simp; (try with_reducible rfl)); done)
                  try simp only [Act.put, List.getElem_toArray, List.getElem_cons_succ, List.getElem_cons_zero, List.setIfInBounds_toArray, List.set_cons_zero, List.set_cons_succ]
                  refine wpAny_ready (rs := [0, 16]) (by kernel_rfl) (by simp) ?_
                  refine AllReady.cons rfl (fun K hK => ?_) ?_
                  · skip
                    go_simp
                    refine hK _ _ ?_
                    clear hK K
                    try simp only [Act.put, List.getElem_toArray, List.getElem_cons_succ, List.getElem_cons_zero, List.setIfInBounds_toArray, List.set_cons_zero, List.set_cons_succ]
                    refine wpAny_take (i := 3) (v := ?_) rfl (by kernel_rfl) (by kernel_rfl) (by kernel_rfl) (fun _ _ _ h => h) (Or.inl ⟨by rfl, ?_⟩) ?_
                    rotate_left 1
                    focus ((intro w; go_simp; (try with_reducible rfl)); done)
                    try simp only [Act.put, List.getElem_toArray, List.getElem_cons_succ, List.getElem_cons_zero, List.setIfInBounds_toArray, List.set_cons_zero, List.set_cons_succ]
                    refine wpAny_ready (rs := [16]) (by kernel_rfl) (by simp) ?_
                    refine AllReady.cons rfl (fun K hK => ?_) ?_
                    · skip
                      go_simp
                      refine hK _ _ ?_
                      clear hK K
                      try simp only [Act.put, List.getElem_toArray, List.getElem_cons_succ, List.getElem_cons_zero, List.setIfInBounds_toArray, List.set_cons_zero, List.set_cons_succ]
                      refine wpAny_ready (rs := [17]) (by kernel_rfl) (by simp) ?_
                      refine AllReady.cons rfl (fun K hK => ?_) ?_
                      · skip
                        refine step_append_cells _ rfl (.tmp 45) (.tmp 58) 93 rfl (w.heap.size + 3) 64 i0 .nilIface 1 16 Try.underlying93 hi hz0 hz1 hz2 rfl (by decide) (.slice (some ⟨g2, 0, none⟩) k cp) k (r.reverse.map trVal) rfl (hlD.alloc _) (some ⟨W.heap.size, 0, none⟩) 1 1 (fun _ => .iface 75 (.agg #[.iface ta va, .iface tb vb])) rfl (cells_lit1 (by simp)) (fun _ _ => by simp [Value.oneCell']) (by unfold maxLen; omega) (by omega) (by simp; omega) ?_
                        intro v' w1 hown' hgrow _
                        obtain ⟨g', cap', rfl⟩ := ownsRow_succ hown'
                        have hg' : (W.drew.alloc (.cells #[.iface 75 (.agg #[.iface ta va, .iface tb vb])] 64)).grownBy w1 (some g2) := hgrow
                        obtain ⟨hv1, hv2, hr2, hk2, hb2⟩ := hvD.appended (by decide) hrD (by simp; omega) (by omega) hown' hg'
                        have hS1 : Boxed w1 (w.heap.size + 5) 22 (.slice A n c) := (hSD.alloc _).kept hg' (hSD.not_row (by decide) hrD)
                        clear hgrow
                        have hc1 := hv1.cell
                        have hf1 := hv1.frozen
                        refine hK _ _ ?_
                        clear hK K
                        try simp only [Act.put, List.getElem_toArray, List.getElem_cons_succ, List.getElem_cons_zero, List.setIfInBounds_toArray, List.set_cons_zero, List.set_cons_succ]
                        refine wpAny_ready (rs := [18]) (by kernel_rfl) (by simp) ?_
                        refine AllReady.cons rfl (fun K hK => ?_) ?_
                        · skip
                          go_simp
                          refine hK _ _ ?_
                          clear hK K
                          try simp only [Act.put, List.getElem_toArray, List.getElem_cons_succ, List.getElem_cons_zero, List.setIfInBounds_toArray, List.set_cons_zero, List.set_cons_succ]
                          refine wpAny_done (by kernel_rfl) ?_ _
                          have hBl : Below w.heap.size W _ := Below.trans ((Below.refl _ W).drew) (hb2.mono (by omega))
                          have hS2 := hS1.other (B' := w.heap.size + 4) (by omega) (.slice (some ⟨g', 0, none⟩) (k + 1) cap')
                          gi_wp2
                          refine ⟨((KeepsOthers.drew W).trans hk2).from _, kpB_of hBl hS hS2, ⟨⟨⟨_, hv2, ?_, ?_⟩, boxLow hL (Below.trans ((Below.refl _ W).drew) hb2) (by omega), boxLow hR (Below.trans ((Below.refl _ W).drew) hb2) (by omega), boxLow hO (Below.trans ((Below.refl _ W).drew) hb2) (by omega), hS2⟩, hBW.trans hBl⟩⟩
                          · have e3 : stT l (pre ++ [x]) = .br a b :: r := by unfold stT; rw [HEN.out, HX.out, stkStep_neg]; rfl
                            have e4 : stV l (pre ++ [x]) = r.reverse.map trVal ++ [trVal (.br a b)] := by unfold stV; rw [e3]; simp
                            rw [e3, e4, show (Tr.br a b :: r).length = k + 1 by simp [hk'.out]]
                            rw [EB.out]
                            simpa [listV] using hr2
                          · rw [HEN.out, HX.out, stkStep_neg]; rfl
                        exact AllReady.nil
                      exact AllReady.nil
                    exact AllReady.nil
                  refine AllReady.cons rfl (fun K hK => ?_) ?_
                  · skip
                    go_simp
                    refine hK _ _ ?_
                    clear hK K
                    try simp only [Act.put, List.getElem_toArray, List.getElem_cons_succ, List.getElem_cons_zero, List.setIfInBounds_toArray, List.set_cons_zero, List.set_cons_succ]
                    refine wpAny_ready (rs := [0]) (by kernel_rfl) (by simp) ?_
                    refine AllReady.cons rfl (fun K hK => ?_) ?_
                    · skip
                      go_simp
                      refine hK _ _ ?_
                      clear hK K
                      try simp only [Act.put, List.getElem_toArray, List.getElem_cons_succ, List.getElem_cons_zero, List.setIfInBounds_toArray, List.set_cons_zero, List.set_cons_succ]
                      refine wpAny_take (i := 3) (v := ?_) rfl (by kernel_rfl) (by kernel_rfl) (by kernel_rfl) (fun _ _ _ h => h) (Or.inl ⟨by rfl, ?_⟩) ?_
                      rotate_left 1
                      focus ((intro w; go_simp; (try with_reducible rfl)); done)
                      try simp only [Act.put, List.getElem_toArray, List.getElem_cons_succ, List.getElem_cons_zero, List.setIfInBounds_toArray, List.set_cons_zero, List.set_cons_succ]
                      refine wpAny_ready (rs := [17]) (by kernel_rfl) (by simp) ?_
                      refine AllReady.cons rfl (fun K hK => ?_) ?_
                      · skip
                        refine step_append_cells _ rfl (.tmp 45) (.tmp 58) 93 rfl (w.heap.size + 3) 64 i0 .nilIface 1 16 Try.underlying93 hi hz0 hz1 hz2 rfl (by decide) (.slice (some ⟨g2, 0, none⟩) k cp) k (r.reverse.map trVal) rfl (hlD.alloc _) (some ⟨W.heap.size, 0, none⟩) 1 1 (fun _ => .iface 75 (.agg #[.iface ta va, .iface tb vb])) rfl (cells_lit1 (by simp)) (fun _ _ => by simp [Value.oneCell']) (by unfold maxLen; omega) (by omega) (by simp; omega) ?_
                        intro v' w1 hown' hgrow _
                        obtain ⟨g', cap', rfl⟩ := ownsRow_succ hown'
                        have hg' : (W.drew.alloc (.cells #[.iface 75 (.agg #[.iface ta va, .iface tb vb])] 64)).grownBy w1 (some g2) := hgrow
                        obtain ⟨hv1, hv2, hr2, hk2, hb2⟩ := hvD.appended (by decide) hrD (by simp; omega) (by omega) hown' hg'
                        have hS1 : Boxed w1 (w.heap.size + 5) 22 (.slice A n c) := (hSD.alloc _).kept hg' (hSD.not_row (by decide) hrD)
                        clear hgrow
                        have hc1 := hv1.cell
                        have hf1 := hv1.frozen
                        refine hK _ _ ?_
                        clear hK K
                        try simp only [Act.put, List.getElem_toArray, List.getElem_cons_succ, List.getElem_cons_zero, List.setIfInBounds_toArray, List.set_cons_zero, List.set_cons_succ]
                        refine wpAny_ready (rs := [18]) (by kernel_rfl) (by simp) ?_
                        refine AllReady.cons rfl (fun K hK => ?_) ?_
                        · skip
                          go_simp
                          refine hK _ _ ?_
                          clear hK K
                          try simp only [Act.put, List.getElem_toArray, List.getElem_cons_succ, List.getElem_cons_zero, List.setIfInBounds_toArray, List.set_cons_zero, List.set_cons_succ]
                          refine wpAny_done (by kernel_rfl) ?_ _
                          have hBl : Below w.heap.size W _ := Below.trans ((Below.refl _ W).drew) (hb2.mono (by omega))
                          have hS2 := hS1.other (B' := w.heap.size + 4) (by omega) (.slice (some ⟨g', 0, none⟩) (k + 1) cap')
                          gi_wp2
                          refine ⟨((KeepsOthers.drew W).trans hk2).from _, kpB_of hBl hS hS2, ⟨⟨⟨_, hv2, ?_, ?_⟩, boxLow hL (Below.trans ((Below.refl _ W).drew) hb2) (by omega), boxLow hR (Below.trans ((Below.refl _ W).drew) hb2) (by omega), boxLow hO (Below.trans ((Below.refl _ W).drew) hb2) (by omega), hS2⟩, hBW.trans hBl⟩⟩
                          · have e3 : stT l (pre ++ [x]) = .br a b :: r := by unfold stT; rw [HEN.out, HX.out, stkStep_neg]; rfl
                            have e4 : stV l (pre ++ [x]) = r.reverse.map trVal ++ [trVal (.br a b)] := by unfold stV; rw [e3]; simp
                            rw [e3, e4, show (Tr.br a b :: r).length = k + 1 by simp [hk'.out]]
                            rw [EB.out]
                            simpa [listV] using hr2
                          · rw [HEN.out, HX.out, stkStep_neg]; rfl
                        exact AllReady.nil
                      exact AllReady.nil
                    exact AllReady.nil
                  exact AllReady.nil
                exact AllReady.nil
              exact AllReady.nil
            refine AllReady.cons rfl (fun K hK => ?_) ?_
            · skip
              go_simp
              refine hK _ _ ?_
              clear hK K
              try simp only [Act.put, List.getElem_toArray, List.getElem_cons_succ, List.getElem_cons_zero, List.setIfInBounds_toArray, List.set_cons_zero, List.set_cons_succ]
              refine wpAny_take (i := 12) (v := ?_) rfl (by kernel_rfl) (by kernel_rfl) (by kernel_rfl) (fun _ _ _ h => h) (Or.inl ⟨by rfl, ?_⟩) ?_
              rotate_left 1
              focus ((intro w; go_simp; (try with_reducible rfl)); done)
              try simp only [Act.put, List.getElem_toArray, List.getElem_cons_succ, List.getElem_cons_zero, List.setIfInBounds_toArray, List.set_cons_zero, List.set_cons_succ]
              refine wpAny_ready (rs := [0, 8, 13]) (by kernel_rfl) (by simp) ?_
              refine AllReady.cons rfl (fun K hK => ?_) ?_
              · skip
                go_simp
                refine hK _ _ ?_
                clear hK K
                try simp only [Act.put, List.getElem_toArray, List.getElem_cons_succ, List.getElem_cons_zero, List.setIfInBounds_toArray, List.set_cons_zero, List.set_cons_succ]
                refine wpAny_take (i := 3) (v := ?_) rfl (by kernel_rfl) (by kernel_rfl) (by kernel_rfl) (fun _ _ _ h => h) (Or.inl ⟨by rfl, ?_⟩) ?_
                rotate_left 1
                focus ((intro w; go_simp; (try with_reducible rfl)); done)
                try simp only [Act.put, List.getElem_toArray, List.getElem_cons_succ, List.getElem_cons_zero, List.setIfInBounds_toArray, List.set_cons_zero, List.set_cons_succ]
                refine wpAny_ready (rs := [8, 13]) (by kernel_rfl) (by simp) ?_
                refine AllReady.cons rfl (fun K hK => ?_) ?_
                · skip
                  go_simp
                  refine hK _ _ ?_
                  clear hK K
                  try simp only [Act.put, List.getElem_toArray, List.getElem_cons_succ, List.getElem_cons_zero, List.setIfInBounds_toArray, List.set_cons_zero, List.set_cons_succ]
                  refine wpAny_ready (rs := [13]) (by kernel_rfl) (by simp) ?_
                  refine AllReady.cons rfl (fun K hK => ?_) ?_
                  · skip
                    go_simp
                    refine hK _ _ ?_
                    clear hK K
                    try simp only [Act.put, List.getElem_toArray, List.getElem_cons_succ, List.getElem_cons_zero, List.setIfInBounds_toArray, List.set_cons_zero, List.set_cons_succ]
                    refine wpAny_take (i := 14) (v := ?_) rfl (by kernel_rfl) (by kernel_rfl) (by kernel_rfl) (fun _ _ _ h => h) (Or.inl ⟨by rfl, ?_⟩) ?_
                    rotate_left 1
                    focus ((intro w; go_simp; (try with_reducible rfl)); done)
                    try simp only [Act.put, List.getElem_toArray, List.getElem_cons_succ, List.getElem_cons_zero, List.setIfInBounds_toArray, List.set_cons_zero, List.set_cons_succ]
                    refine wpAny_take (i := 15) (v := ?_) rfl (by kernel_rfl) (by kernel_rfl) (by kernel_rfl) (fun _ _ _ h => h) (Or.inl ⟨by rfl, ?_⟩) ?_
                    rotate_left 1
                    focus ((intro w; go_simp; (try with_reducible rfl)); done)
                    try simp only [Act.put, List.getElem_toArray, List.getElem_cons_succ, List.getElem_cons_zero, List.setIfInBounds_toArray, List.set_cons_zero, List.set_cons_succ]
                    refine wpAny_ready (rs := [16]) (by kernel_rfl) (by simp) ?_
                    refine AllReady.cons rfl (fun K hK => ?_) ?_
                    · skip
                      go_simp
                      refine hK _ _ ?_
                      clear hK K
                      try simp only [Act.put, List.getElem_toArray, List.getElem_cons_succ, List.getElem_cons_zero, List.setIfInBounds_toArray, List.set_cons_zero, List.set_cons_succ]
                      refine wpAny_ready (rs := [17]) (by kernel_rfl) (by simp) ?_
                      refine AllReady.cons rfl (fun K hK => ?_) ?_
                      · skip
                        refine step_append_cells _ rfl (.tmp 45) (.tmp 58) 93 rfl (w.heap.size + 3) 64 i0 .nilIface 1 16 Try.underlying93 hi hz0 hz1 hz2 rfl (by decide) (.slice (some ⟨g2, 0, none⟩) k cp) k (r.reverse.map trVal) rfl (hlD.alloc _) (some ⟨W.heap.size, 0, none⟩) 1 1 (fun _ => .iface 75 (.agg #[.iface ta va, .iface tb vb])) rfl (cells_lit1 (by simp)) (fun _ _ => by simp [Value.oneCell']) (by unfold maxLen; omega) (by omega) (by simp; omega) ?_
                        intro v' w1 hown' hgrow _
                        obtain ⟨g', cap', rfl⟩ := ownsRow_succ hown'
                        have hg' : (W.drew.alloc (.cells #[.iface 75 (.agg #[.iface ta va, .iface tb vb])] 64)).grownBy w1 (some g2) := hgrow
                        obtain ⟨hv1, hv2, hr2, hk2, hb2⟩ := hvD.appended (by decide) hrD (by simp; omega) (by omega) hown' hg'
                        have hS1 : Boxed w1 (w.heap.size + 5) 22 (.slice A n c) := (hSD.alloc _).kept hg' (hSD.not_row (by decide) hrD)
                        clear hgrow
                        have hc1 := hv1.cell
                        have hf1 := hv1.frozen
                        refine hK _ _ ?_
                        clear hK K
                        try simp only [Act.put, List.getElem_toArray, List.getElem_cons_succ, List.getElem_cons_zero, List.setIfInBounds_toArray, List.set_cons_zero, List.set_cons_succ]
                        refine wpAny_ready (rs := [18]) (by kernel_rfl) (by simp) ?_
                        refine AllReady.cons rfl (fun K hK => ?_) ?_
                        · skip
                          go_simp
                          refine hK _ _ ?_
                          clear hK K
                          try simp only [Act.put, List.getElem_toArray, List.getElem_cons_succ, List.getElem_cons_zero, List.setIfInBounds_toArray, List.set_cons_zero, List.set_cons_succ]
                          refine wpAny_done (by kernel_rfl) ?_ _
                          have hBl : Below w.heap.size W _ := Below.trans ((Below.refl _ W).drew) (hb2.mono (by omega))
                          have hS2 := hS1.other (B' := w.heap.size + 4) (by omega) (.slice (some ⟨g', 0, none⟩) (k + 1) cap')
                          gi_wp2
                          refine ⟨((KeepsOthers.drew W).trans hk2).from _, kpB_of hBl hS hS2, ⟨⟨⟨_, hv2, ?_, ?_⟩, boxLow hL (Below.trans ((Below.refl _ W).drew) hb2) (by omega), boxLow hR (Below.trans ((Below.refl _ W).drew) hb2) (by omega), boxLow hO (Below.trans ((Below.refl _ W).drew) hb2) (by omega), hS2⟩, hBW.trans hBl⟩⟩
                          · have e3 : stT l (pre ++ [x]) = .br a b :: r := by unfold stT; rw [HEN.out, HX.out, stkStep_neg]; rfl
                            have e4 : stV l (pre ++ [x]) = r.reverse.map trVal ++ [trVal (.br a b)] := by unfold stV; rw [e3]; simp
                            rw [e3, e4, show (Tr.br a b :: r).length = k + 1 by simp [hk'.out]]
                            rw [EB.out]
                            simpa [listV] using hr2
                          · rw [HEN.out, HX.out, stkStep_neg]; rfl
                        exact AllReady.nil
                      exact AllReady.nil
                    exact AllReady.nil
                  exact AllReady.nil
                refine AllReady.cons rfl (fun K hK => ?_) ?_
                · skip
                  go_simp
                  refine hK _ _ ?_
                  clear hK K
                  try simp only [Act.put, List.getElem_toArray, List.getElem_cons_succ, List.getElem_cons_zero, List.setIfInBounds_toArray, List.set_cons_zero, List.set_cons_succ]
                  refine wpAny_ready (rs := [8]) (by kernel_rfl) (by simp) ?_
                  refine AllReady.cons rfl (fun K hK => ?_) ?_
                  · skip
                    go_simp
                    refine hK _ _ ?_
                    clear hK K
                    try simp only [Act.put, List.getElem_toArray, List.getElem_cons_succ, List.getElem_cons_zero, List.setIfInBounds_toArray, List.set_cons_zero, List.set_cons_succ]
                    refine wpAny_take (i := 14) (v := ?_) rfl (by kernel_rfl) (by kernel_rfl) (by kernel_rfl) (fun _ _ _ h => h) (Or.inl ⟨by rfl, ?_⟩) ?_
                    rotate_left 1
                    focus ((intro w; go_simp; (try with_reducible rfl)); done)
                    try simp only [Act.put, List.getElem_toArray, List.getElem_cons_succ, List.getElem_cons_zero, List.setIfInBounds_toArray, List.set_cons_zero, List.set_cons_succ]
                    refine wpAny_take (i := 15) (v := ?_) rfl (by kernel_rfl) (by kernel_rfl) (by kernel_rfl) (fun _ _ _ h => h) (Or.inl ⟨by rfl, ?_⟩) ?_
                    rotate_left 1
                    focus ((intro w; go_simp; (try with_reducible rfl)); done)
                    try simp only [Act.put, List.getElem_toArray, List.getElem_cons_succ, List.getElem_cons_zero, List.setIfInBounds_toArray, List.set_cons_zero, List.set_cons_succ]
                    refine wpAny_ready (rs := [16]) (by kernel_rfl) (by simp) ?_
                    refine AllReady.cons rfl (fun K hK => ?_) ?_
                    · skip
                      go_simp
                      refine hK _ _ ?_
                      clear hK K
                      try simp only [Act.put, List.getElem_toArray, List.getElem_cons_succ, List.getElem_cons_zero, List.setIfInBounds_toArray, List.set_cons_zero, List.set_cons_succ]
                      refine wpAny_ready (rs := [17]) (by kernel_rfl) (by simp) ?_
                      refine AllReady.cons rfl (fun K hK => ?_) ?_
                      · skip
                        refine step_append_cells _ rfl (.tmp 45) (.tmp 58) 93 rfl (w.heap.size + 3) 64 i0 .nilIface 1 16 Try.underlying93 hi hz0 hz1 hz2 rfl (by decide) (.slice (some ⟨g2, 0, none⟩) k cp) k (r.reverse.map trVal) rfl (hlD.alloc _) (some ⟨W.heap.size, 0, none⟩) 1 1 (fun _ => .iface 75 (.agg #[.iface ta va, .iface tb vb])) rfl (cells_lit1 (by simp)) (fun _ _ => by simp [Value.oneCell']) (by unfold maxLen; omega) (by omega) (by simp; omega) ?_
                        intro v' w1 hown' hgrow _
                        obtain ⟨g', cap', rfl⟩ := ownsRow_succ hown'
                        have hg' : (W.drew.alloc (.cells #[.iface 75 (.agg #[.iface ta va, .iface tb vb])] 64)).grownBy w1 (some g2) := hgrow
                        obtain ⟨hv1, hv2, hr2, hk2, hb2⟩ := hvD.appended (by decide) hrD (by simp; omega) (by omega) hown' hg'
                        have hS1 : Boxed w1 (w.heap.size + 5) 22 (.slice A n c) := (hSD.alloc _).kept hg' (hSD.not_row (by decide) hrD)
                        clear hgrow
                        have hc1 := hv1.cell
                        have hf1 := hv1.frozen
                        refine hK _ _ ?_
                        clear hK K
                        try simp only [Act.put, List.getElem_toArray, List.getElem_cons_succ, List.getElem_cons_zero, List.setIfInBounds_toArray, List.set_cons_zero, List.set_cons_succ]
                        refine wpAny_ready (rs := [18]) (by kernel_rfl) (by simp) ?_
                        refine AllReady.cons rfl (fun K hK => ?_) ?_
                        · skip
                          go_simp
                          refine hK _ _ ?_
                          clear hK K
                          try simp only [Act.put, List.getElem_toArray, List.getElem_cons_succ, List.getElem_cons_zero, List.setIfInBounds_toArray, List.set_cons_zero, List.set_cons_succ]
                          refine wpAny_done (by kernel_rfl) ?_ _
                          have hBl : Below w.heap.size W _ := Below.trans ((Below.refl _ W).drew) (hb2.mono (by omega))
                          have hS2 := hS1.other (B' := w.heap.size + 4) (by omega) (.slice (some ⟨g', 0, none⟩) (k + 1) cap')
                          gi_wp2
                          refine ⟨((KeepsOthers.drew W).trans hk2).from _, kpB_of hBl hS hS2, ⟨⟨⟨_, hv2, ?_, ?_⟩, boxLow hL (Below.trans ((Below.refl _ W).drew) hb2) (by omega), boxLow hR (Below.trans ((Below.refl _ W).drew) hb2) (by omega), boxLow hO (Below.trans ((Below.refl _ W).drew) hb2) (by omega), hS2⟩, hBW.trans hBl⟩⟩
                          · have e3 : stT l (pre ++ [x]) = .br a b :: r := by unfold stT; rw [HEN.out, HX.out, stkStep_neg]; rfl
                            have e4 : stV l (pre ++ [x]) = r.reverse.map trVal ++ [trVal (.br a b)] := by unfold stV; rw [e3]; simp
                            rw [e3, e4, show (Tr.br a b :: r).length = k + 1 by simp [hk'.out]]
                            rw [EB.out]
                            simpa [listV] using hr2
                          · rw [HEN.out, HX.out, stkStep_neg]; rfl
                        exact AllReady.nil
                      exact AllReady.nil
                    exact AllReady.nil
                  exact AllReady.nil
                exact AllReady.nil
              refine AllReady.cons rfl (fun K hK => ?_) ?_
              · skip
                go_simp
                refine hK _ _ ?_
                clear hK K
                try simp only [Act.put, List.getElem_toArray, List.getElem_cons_succ, List.getElem_cons_zero, List.setIfInBounds_toArray, List.set_cons_zero, List.set_cons_succ]
                refine wpAny_ready (rs := [0, 13]) (by kernel_rfl) (by simp) ?_
                refine AllReady.cons rfl (fun K hK => ?_) ?_
                · skip
                  go_simp
                  refine hK _ _ ?_
                  clear hK K
                  try simp only [Act.put, List.getElem_toArray, List.getElem_cons_succ, List.getElem_cons_zero, List.setIfInBounds_toArray, List.set_cons_zero, List.set_cons_succ]
                  refine wpAny_take (i := 3) (v := ?_) rfl (by kernel_rfl) (by kernel_rfl) (by kernel_rfl) (fun _ _ _ h => h) (Or.inl ⟨by rfl, ?_⟩) ?_
                  rotate_left 1
                  focus ((intro w; go_simp; (try with_reducible rfl)); done)
                  try simp only [Act.put, List.getElem_toArray, List.getElem_cons_succ, List.getElem_cons_zero, List.setIfInBounds_toArray, List.set_cons_zero, List.set_cons_succ]
                  refine wpAny_ready (rs := [13]) (by kernel_rfl) (by simp) ?_
                  refine AllReady.cons rfl (fun K hK => ?_) ?_
                  · skip
                    go_simp
                    refine hK _ _ ?_
                    clear hK K
                    try simp only [Act.put, List.getElem_toArray, List.getElem_cons_succ, List.getElem_cons_zero, List.setIfInBounds_toArray, List.set_cons_zero, List.set_cons_succ]
                    refine wpAny_take (i := 14) (v := ?_) rfl (by kernel_rfl) (by kernel_rfl) (by kernel_rfl) (fun _ _ _ h => h) (Or.inl ⟨by rfl, ?_⟩) ?_
                    rotate_left 1
                    focus ((intro w; go_simp; (try with_reducible rfl)); done)
                    try simp only [Act.put, List.getElem_toArray, List.getElem_cons_succ, List.getElem_cons_zero, List.setIfInBounds_toArray, List.set_cons_zero, List.set_cons_succ]
                    refine wpAny_take (i := 15) (v := ?_) rfl (by kernel_rfl) (by kernel_rfl) (by kernel_rfl) (fun _ _ _ h => h) (Or.inl ⟨by rfl, ?_⟩) ?_
                    rotate_left 1
                    focus ((intro w; go_simp; (try with_reducible rfl)); done)
                    try simp only [Act.put, List.getElem_toArray, List.getElem_cons_succ, List.getElem_cons_zero, List.setIfInBounds_toArray, List.set_cons_zero, List.set_cons_succ]
                    refine wpAny_ready (rs := [16]) (by kernel_rfl) (by simp) ?_
                    refine AllReady.cons rfl (fun K hK => ?_) ?_
                    · skip
                      go_simp
                      refine hK _ _ ?_
                      clear hK K
                      try simp only [Act.put, List.getElem_toArray, List.getElem_cons_succ, List.getElem_cons_zero, List.setIfInBounds_toArray, List.set_cons_zero, List.set_cons_succ]
                      refine wpAny_ready (rs := [17]) (by kernel_rfl) (by simp) ?_
                      refine AllReady.cons rfl (fun K hK => ?_) ?_
                      · skip
                        refine step_append_cells _ rfl (.tmp 45) (.tmp 58) 93 rfl (w.heap.size + 3) 64 i0 .nilIface 1 16 Try.underlying93 hi hz0 hz1 hz2 rfl (by decide) (.slice (some ⟨g2, 0, none⟩) k cp) k (r.reverse.map trVal) rfl (hlD.alloc _) (some ⟨W.heap.size, 0, none⟩) 1 1 (fun _ => .iface 75 (.agg #[.iface ta va, .iface tb vb])) rfl (cells_lit1 (by simp)) (fun _ _ => by simp [Value.oneCell']) (by unfold maxLen; omega) (by omega) (by simp; omega) ?_
                        intro v' w1 hown' hgrow _
                        obtain ⟨g', cap', rfl⟩ := ownsRow_succ hown'
                        have hg' : (W.drew.alloc (.cells #[.iface 75 (.agg #[.iface ta va, .iface tb vb])] 64)).grownBy w1 (some g2) := hgrow
                        obtain ⟨hv1, hv2, hr2, hk2, hb2⟩ := hvD.appended (by decide) hrD (by simp; omega) (by omega) hown' hg'
                        have hS1 : Boxed w1 (w.heap.size + 5) 22 (.slice A n c) := (hSD.alloc _).kept hg' (hSD.not_row (by decide) hrD)
                        clear hgrow
                        have hc1 := hv1.cell
                        have hf1 := hv1.frozen
                        refine hK _ _ ?_
                        clear hK K
                        try simp only [Act.put, List.getElem_toArray, List.getElem_cons_succ, List.getElem_cons_zero, List.setIfInBounds_toArray, List.set_cons_zero, List.set_cons_succ]
                        refine wpAny_ready (rs := [18]) (by kernel_rfl) (by simp) ?_
                        refine AllReady.cons rfl (fun K hK => ?_) ?_
                        · skip
                          go_simp
                          refine hK _ _ ?_
                          clear hK K
                          try simp only [Act.put, List.getElem_toArray, List.getElem_cons_succ, List.getElem_cons_zero, List.setIfInBounds_toArray, List.set_cons_zero, List.set_cons_succ]
                          refine wpAny_done (by kernel_rfl) ?_ _
                          have hBl : Below w.heap.size W _ := Below.trans ((Below.refl _ W).drew) (hb2.mono (by omega))
                          have hS2 := hS1.other (B' := w.heap.size + 4) (by omega) (.slice (some ⟨g', 0, none⟩) (k + 1) cap')
                          gi_wp2
                          refine ⟨((KeepsOthers.drew W).trans hk2).from _, kpB_of hBl hS hS2, ⟨⟨⟨_, hv2, ?_, ?_⟩, boxLow hL (Below.trans ((Below.refl _ W).drew) hb2) (by omega), boxLow hR (Below.trans ((Below.refl _ W).drew) hb2) (by omega), boxLow hO (Below.trans ((Below.refl _ W).drew) hb2) (by omega), hS2⟩, hBW.trans hBl⟩⟩
                          · have e3 : stT l (pre ++ [x]) = .br a b :: r := by unfold stT; rw [HEN.out, HX.out, stkStep_neg]; rfl
                            have e4 : stV l (pre ++ [x]) = r.reverse.map trVal ++ [trVal (.br a b)] := by unfold stV; rw [e3]; simp
                            rw [e3, e4, show (Tr.br a b :: r).length = k + 1 by simp [hk'.out]]
                            rw [EB.out]
                            simpa [listV] using hr2
                          · rw [HEN.out, HX.out, stkStep_neg]; rfl
                        exact AllReady.nil
                      exact AllReady.nil
                    exact AllReady.nil
                  exact AllReady.nil
                refine AllReady.cons rfl (fun K hK => ?_) ?_
                · skip
                  go_simp
                  refine hK _ _ ?_
                  clear hK K
                  try simp only [Act.put, List.getElem_toArray, List.getElem_cons_succ, List.getElem_cons_zero, List.setIfInBounds_toArray, List.set_cons_zero, List.set_cons_succ]
                  refine wpAny_take (i := 14) (v := ?_) rfl (by kernel_rfl) (by kernel_rfl) (by kernel_rfl) (fun _ _ _ h => h) (Or.inl ⟨by rfl, ?_⟩) ?_
                  rotate_left 1
                  focus ((intro w; go_simp; (try with_reducible rfl)); done)
                  try simp only [Act.put, List.getElem_toArray, List.getElem_cons_succ, List.getElem_cons_zero, List.setIfInBounds_toArray, List.set_cons_zero, List.set_cons_succ]
                  refine wpAny_take (i := 15) (v := ?_) rfl (by kernel_rfl) (by kernel_rfl) (by kernel_rfl) (fun _ _ _ h => h) (Or.inl ⟨by rfl, ?_⟩) ?_
                  rotate_left 1
                  focus ((intro w; go_simp; (try with_reducible rfl)); done)
                  try simp only [Act.put, List.getElem_toArray, List.getElem_cons_succ, List.getElem_cons_zero, List.setIfInBounds_toArray, List.set_cons_zero, List.set_cons_succ]
                  refine wpAny_ready (rs := [0, 16]) (by kernel_rfl) (by simp) ?_
                  refine AllReady.cons rfl (fun K hK => ?_) ?_
                  · skip
                    go_simp
                    refine hK _ _ ?_
                    clear hK K
                    try simp only [Act.put, List.getElem_toArray, List.getElem_cons_succ, List.getElem_cons_zero, List.setIfInBounds_toArray, List.set_cons_zero, List.set_cons_succ]
                    refine wpAny_take (i := 3) (v := ?_) rfl (by kernel_rfl) (by kernel_rfl) (by kernel_rfl) (fun _ _ _ h => h) (Or.inl ⟨by rfl, ?_⟩) ?_
                    rotate_left 1
                    focus ((intro w; go_simp; (try with_reducible rfl)); done)
                    try simp only [Act.put, List.getElem_toArray, List.getElem_cons_succ, List.getElem_cons_zero, List.setIfInBounds_toArray, List.set_cons_zero, List.set_cons_succ]
                    refine wpAny_ready (rs := [16]) (by kernel_rfl) (by simp) ?_
                    refine AllReady.cons rfl (fun K hK => ?_) ?_
                    · skip
                      go_simp
                      refine hK _ _ ?_
                      clear hK K
                      try simp only [Act.put, List.getElem_toArray, List.getElem_cons_succ, List.getElem_cons_zero, List.setIfInBounds_toArray, List.set_cons_zero, List.set_cons_succ]
                      refine wpAny_ready (rs := [17]) (by kernel_rfl) (by simp) ?_
                      refine AllReady.cons rfl (fun K hK => ?_) ?_
                      · skip
                        refine step_append_cells _ rfl (.tmp 45) (.tmp 58) 93 rfl (w.heap.size + 3) 64 i0 .nilIface 1 16 Try.underlying93 hi hz0 hz1 hz2 rfl (by decide) (.slice (some ⟨g2, 0, none⟩) k cp) k (r.reverse.map trVal) rfl (hlD.alloc _) (some ⟨W.heap.size, 0, none⟩) 1 1 (fun _ => .iface 75 (.agg #[.iface ta va, .iface tb vb])) rfl (cells_lit1 (by simp)) (fun _ _ => by simp [Value.oneCell']) (by unfold maxLen; omega) (by omega) (by simp; omega) ?_
                        intro v' w1 hown' hgrow _
                        obtain ⟨g', cap', rfl⟩ := ownsRow_succ hown'
                        have hg' : (W.drew.alloc (.cells #[.iface 75 (.agg #[.iface ta va, .iface tb vb])] 64)).grownBy w1 (some g2) := hgrow
                        obtain ⟨hv1, hv2, hr2, hk2, hb2⟩ := hvD.appended (by decide) hrD (by simp; omega) (by omega) hown' hg'
                        have hS1 : Boxed w1 (w.heap.size + 5) 22 (.slice A n c) := (hSD.alloc _).kept hg' (hSD.not_row (by decide) hrD)
                        clear hgrow
                        have hc1 := hv1.cell
                        have hf1 := hv1.frozen
                        refine hK _ _ ?_
                        clear hK K
                        try simp only [Act.put, List.getElem_toArray, List.getElem_cons_succ, List.getElem_cons_zero, List.setIfInBounds_toArray, List.set_cons_zero, List.set_cons_succ]
                        refine wpAny_ready (rs := [18]) (by kernel_rfl) (by simp) ?_
                        refine AllReady.cons rfl (fun K hK => ?_) ?_
                        · skip
                          go_simp
                          refine hK _ _ ?_
                          clear hK K
                          try simp only [Act.put, List.getElem_toArray, List.getElem_cons_succ, List.getElem_cons_zero, List.setIfInBounds_toArray, List.set_cons_zero, List.set_cons_succ]
                          refine wpAny_done (by kernel_rfl) ?_ _
                          have hBl : Below w.heap.size W _ := Below.trans ((Below.refl _ W).drew) (hb2.mono (by omega))
                          have hS2 := hS1.other (B' := w.heap.size + 4) (by omega) (.slice (some ⟨g', 0, none⟩) (k + 1) cap')
                          gi_wp2
                          refine ⟨((KeepsOthers.drew W).trans hk2).from _, kpB_of hBl hS hS2, ⟨⟨⟨_, hv2, ?_, ?_⟩, boxLow hL (Below.trans ((Below.refl _ W).drew) hb2) (by omega), boxLow hR (Below.trans ((Below.refl _ W).drew) hb2) (by omega), boxLow hO (Below.trans ((Below.refl _ W).drew) hb2) (by omega), hS2⟩, hBW.trans hBl⟩⟩
                          · have e3 : stT l (pre ++ [x]) = .br a b :: r := by unfold stT; rw [HEN.out, HX.out, stkStep_neg]; rfl
                            have e4 : stV l (pre ++ [x]) = r.reverse.map trVal ++ [trVal (.br a b)] := by unfold stV; rw [e3]; simp
                            rw [e3, e4, show (Tr.br a b :: r).length = k + 1 by simp [hk'.out]]
                            rw [EB.out]
                            simpa [listV] using hr2
                          · rw [HEN.out, HX.out, stkStep_neg]; rfl
                        exact AllReady.nil
                      exact AllReady.nil
                    exact AllReady.nil
                  refine AllReady.cons rfl (fun K hK => ?_) ?_
                  · skip
                    go_simp
                    refine hK _ _ ?_
                    clear hK K
                    try simp only [Act.put, List.getElem_toArray, List.getElem_cons_succ, List.getElem_cons_zero, List.setIfInBounds_toArray, List.set_cons_zero, List.set_cons_succ]
                    refine wpAny_ready (rs := [0]) (by kernel_rfl) (by simp) ?_
                    refine AllReady.cons rfl (fun K hK => ?_) ?_
                    · skip
                      go_simp
                      refine hK _ _ ?_
                      clear hK K
                      try simp only [Act.put, List.getElem_toArray, List.getElem_cons_succ, List.getElem_cons_zero, List.setIfInBounds_toArray, List.set_cons_zero, List.set_cons_succ]
                      refine wpAny_take (i := 3) (v := ?_) rfl (by kernel_rfl) (by kernel_rfl) (by kernel_rfl) (fun _ _ _ h => h) (Or.inl ⟨by rfl, ?_⟩) ?_
                      rotate_left 1
                      focus ((intro w; go_simp; (try with_reducible rfl)); done)
                      try simp only [Act.put, List.getElem_toArray, List.getElem_cons_succ, List.getElem_cons_zero, List.setIfInBounds_toArray, List.set_cons_zero, List.set_cons_succ]
                      refine wpAny_ready (rs := [17]) (by kernel_rfl) (by simp) ?_
                      refine AllReady.cons rfl (fun K hK => ?_) ?_
                      · skip
                        refine step_append_cells _ rfl (.tmp 45) (.tmp 58) 93 rfl (w.heap.size + 3) 64 i0 .nilIface 1 16 Try.underlying93 hi hz0 hz1 hz2 rfl (by decide) (.slice (some ⟨g2, 0, none⟩) k cp) k (r.reverse.map trVal) rfl (hlD.alloc _) (some ⟨W.heap.size, 0, none⟩) 1 1 (fun _ => .iface 75 (.agg #[.iface ta va, .iface tb vb])) rfl (cells_lit1 (by simp)) (fun _ _ => by simp [Value.oneCell']) (by unfold maxLen; omega) (by omega) (by simp; omega) ?_
                        intro v' w1 hown' hgrow _
                        obtain ⟨g', cap', rfl⟩ := ownsRow_succ hown'
                        have hg' : (W.drew.alloc (.cells #[.iface 75 (.agg #[.iface ta va, .iface tb vb])] 64)).grownBy w1 (some g2) := hgrow
                        obtain ⟨hv1, hv2, hr2, hk2, hb2⟩ := hvD.appended (by decide) hrD (by simp; omega) (by omega) hown' hg'
                        have hS1 : Boxed w1 (w.heap.size + 5) 22 (.slice A n c) := (hSD.alloc _).kept hg' (hSD.not_row (by decide) hrD)
                        clear hgrow
                        have hc1 := hv1.cell
                        have hf1 := hv1.frozen
                        refine hK _ _ ?_
                        clear hK K
                        try simp only [Act.put, List.getElem_toArray, List.getElem_cons_succ, List.getElem_cons_zero, List.setIfInBounds_toArray, List.set_cons_zero, List.set_cons_succ]
                        refine wpAny_ready (rs := [18]) (by kernel_rfl) (by simp) ?_
                        refine AllReady.cons rfl (fun K hK => ?_) ?_
                        · skip
                          go_simp
                          refine hK _ _ ?_
                          clear hK K
                          try simp only [Act.put, List.getElem_toArray, List.getElem_cons_succ, List.getElem_cons_zero, List.setIfInBounds_toArray, List.set_cons_zero, List.set_cons_succ]
                          refine wpAny_done (by kernel_rfl) ?_ _
                          have hBl : Below w.heap.size W _ := Below.trans ((Below.refl _ W).drew) (hb2.mono (by omega))
                          have hS2 := hS1.other (B' := w.heap.size + 4) (by omega) (.slice (some ⟨g', 0, none⟩) (k + 1) cap')
                          gi_wp2
                          refine ⟨((KeepsOthers.drew W).trans hk2).from _, kpB_of hBl hS hS2, ⟨⟨⟨_, hv2, ?_, ?_⟩, boxLow hL (Below.trans ((Below.refl _ W).drew) hb2) (by omega), boxLow hR (Below.trans ((Below.refl _ W).drew) hb2) (by omega), boxLow hO (Below.trans ((Below.refl _ W).drew) hb2) (by omega), hS2⟩, hBW.trans hBl⟩⟩
                          · have e3 : stT l (pre ++ [x]) = .br a b :: r := by unfold stT; rw [HEN.out, HX.out, stkStep_neg]; rfl
                            have e4 : stV l (pre ++ [x]) = r.reverse.map trVal ++ [trVal (.br a b)] := by unfold stV; rw [e3]; simp
                            rw [e3, e4, show (Tr.br a b :: r).length = k + 1 by simp [hk'.out]]
                            rw [EB.out]
                            simpa [listV] using hr2
                          · rw [HEN.out, HX.out, stkStep_neg]; rfl
                        exact AllReady.nil
                      exact AllReady.nil
                    exact AllReady.nil
                  exact AllReady.nil
                exact AllReady.nil
              refine AllReady.cons rfl (fun K hK => ?_) ?_
              · skip
                go_simp
                refine hK _ _ ?_
                clear hK K
                try simp only [Act.put, List.getElem_toArray, List.getElem_cons_succ, List.getElem_cons_zero, List.setIfInBounds_toArray, List.set_cons_zero, List.set_cons_succ]
                refine wpAny_ready (rs := [0, 8]) (by kernel_rfl) (by simp) ?_
                refine AllReady.cons rfl (fun K hK => ?_) ?_
                · skip
                  go_simp
                  refine hK _ _ ?_
                  clear hK K
                  try simp only [Act.put, List.getElem_toArray, List.getElem_cons_succ, List.getElem_cons_zero, List.setIfInBounds_toArray, List.set_cons_zero, List.set_cons_succ]
                  refine wpAny_take (i := 3) (v := ?_) rfl (by kernel_rfl) (by kernel_rfl) (by kernel_rfl) (fun _ _ _ h => h) (Or.inl ⟨by rfl, ?_⟩) ?_
                  rotate_left 1
                  focus ((intro w; go_simp; (try with_reducible rfl)); done)
                  try simp only [Act.put, List.getElem_toArray, List.getElem_cons_succ, List.getElem_cons_zero, List.setIfInBounds_toArray, List.set_cons_zero, List.set_cons_succ]
                  refine wpAny_ready (rs := [8]) (by kernel_rfl) (by simp) ?_
                  refine AllReady.cons rfl (fun K hK => ?_) ?_
                  · skip
                    go_simp
                    refine hK _ _ ?_
                    clear hK K
                    try simp only [Act.put, List.getElem_toArray, List.getElem_cons_succ, List.getElem_cons_zero, List.setIfInBounds_toArray, List.set_cons_zero, List.set_cons_succ]
                    refine wpAny_take (i := 14) (v := ?_) rfl (by kernel_rfl) (by kernel_rfl) (by kernel_rfl) (fun _ _ _ h => h) (Or.inl ⟨by rfl, ?_⟩) ?_
                    rotate_left 1
                    focus ((intro w; go_simp; (try with_reducible rfl)); done)
                    try simp only [Act.put, List.getElem_toArray, List.getElem_cons_succ, List.getElem_cons_zero, List.setIfInBounds_toArray, List.set_cons_zero, List.set_cons_succ]
                    refine wpAny_take (i := 15) (v := ?_) rfl (by kernel_rfl) (by kernel_rfl) (by kernel_rfl) (fun _ _ _ h => h) (Or.inl ⟨by rfl, ?_⟩) ?_
                    rotate_left 1
                    focus ((intro w; go_simp; (try with_reducible rfl)); done)
                    try simp only [Act.put, List.getElem_toArray, List.getElem_cons_succ, List.getElem_cons_zero, List.setIfInBounds_toArray, List.set_cons_zero, List.set_cons_succ]
                    refine wpAny_ready (rs := [16]) (by kernel_rfl) (by simp) ?_
                    refine AllReady.cons rfl (fun K hK => ?_) ?_
                    · skip
                      go_simp
                      refine hK _ _ ?_
                      clear hK K
                      try simp only [Act.put, List.getElem_toArray, List.getElem_cons_succ, List.getElem_cons_zero, List.setIfInBounds_toArray, List.set_cons_zero, List.set_cons_succ]
                      refine wpAny_ready (rs := [17]) (by kernel_rfl) (by simp) ?_
                      refine AllReady.cons rfl (fun K hK => ?_) ?_
                      · skip
                        refine step_append_cells _ rfl (.tmp 45) (.tmp 58) 93 rfl (w.heap.size + 3) 64 i0 .nilIface 1 16 Try.underlying93 hi hz0 hz1 hz2 rfl (by decide) (.slice (some ⟨g2, 0, none⟩) k cp) k (r.reverse.map trVal) rfl (hlD.alloc _) (some ⟨W.heap.size, 0, none⟩) 1 1 (fun _ => .iface 75 (.agg #[.iface ta va, .iface tb vb])) rfl (cells_lit1 (by simp)) (fun _ _ => by simp [Value.oneCell']) (by unfold maxLen; omega) (by omega) (by simp; omega) ?_
                        intro v' w1 hown' hgrow _
                        obtain ⟨g', cap', rfl⟩ := ownsRow_succ hown'
                        have hg' : (W.drew.alloc (.cells #[.iface 75 (.agg #[.iface ta va, .iface tb vb])] 64)).grownBy w1 (some g2) := hgrow
                        obtain ⟨hv1, hv2, hr2, hk2, hb2⟩ := hvD.appended (by decide) hrD (by simp; omega) (by omega) hown' hg'
                        have hS1 : Boxed w1 (w.heap.size + 5) 22 (.slice A n c) := (hSD.alloc _).kept hg' (hSD.not_row (by decide) hrD)
                        clear hgrow
                        have hc1 := hv1.cell
                        have hf1 := hv1.frozen
                        refine hK _ _ ?_
                        clear hK K
                        try simp only [Act.put, List.getElem_toArray, List.getElem_cons_succ, List.getElem_cons_zero, List.setIfInBounds_toArray, List.set_cons_zero, List.set_cons_succ]
                        refine wpAny_ready (rs := [18]) (by kernel_rfl) (by simp) ?_
                        refine AllReady.cons rfl (fun K hK => ?_) ?_
                        · skip
                          go_simp
                          refine hK _ _ ?_
                          clear hK K
                          try simp only [Act.put, List.getElem_toArray, List.getElem_cons_succ, List.getElem_cons_zero, List.setIfInBounds_toArray, List.set_cons_zero, List.set_cons_succ]
                          refine wpAny_done (by kernel_rfl) ?_ _
                          have hBl : Below w.heap.size W _ := Below.trans ((Below.refl _ W).drew) (hb2.mono (by omega))
                          have hS2 := hS1.other (B' := w.heap.size + 4) (by omega) (.slice (some ⟨g', 0, none⟩) (k + 1) cap')
                          gi_wp2
                          refine ⟨((KeepsOthers.drew W).trans hk2).from _, kpB_of hBl hS hS2, ⟨⟨⟨_, hv2, ?_, ?_⟩, boxLow hL (Below.trans ((Below.refl _ W).drew) hb2) (by omega), boxLow hR (Below.trans ((Below.refl _ W).drew) hb2) (by omega), boxLow hO (Below.trans ((Below.refl _ W).drew) hb2) (by omega), hS2⟩, hBW.trans hBl⟩⟩
                          · have e3 : stT l (pre ++ [x]) = .br a b :: r := by unfold stT; rw [HEN.out, HX.out, stkStep_neg]; rfl
                            have e4 : stV l (pre ++ [x]) = r.reverse.map trVal ++ [trVal (.br a b)] := by unfold stV; rw [e3]; simp
                            rw [e3, e4, show (Tr.br a b :: r).length = k + 1 by simp [hk'.out]]
                            rw [EB.out]
                            simpa [listV] using hr2
                          · rw [HEN.out, HX.out, stkStep_neg]; rfl
                        exact AllReady.nil
                      exact AllReady.nil
                    exact AllReady.nil
                  exact AllReady.nil
                refine AllReady.cons rfl (fun K hK => ?_) ?_
                · skip
                  go_simp
                  refine hK _ _ ?_
                  clear hK K
                  try simp only [Act.put, List.getElem_toArray, List.getElem_cons_succ, List.getElem_cons_zero, List.setIfInBounds_toArray, List.set_cons_zero, List.set_cons_succ]
                  refine wpAny_take (i := 14) (v := ?_) rfl (by kernel_rfl) (by kernel_rfl) (by kernel_rfl) (fun _ _ _ h => h) (Or.inl ⟨by rfl, ?_⟩) ?_
                  rotate_left 1
                  focus ((intro w; go_simp; (try with_reducible rfl)); done)
                  try simp only [Act.put, List.getElem_toArray, List.getElem_cons_succ, List.getElem_cons_zero, List.setIfInBounds_toArray, List.set_cons_zero, List.set_cons_succ]
                  refine wpAny_take (i := 15) (v := ?_) rfl (by kernel_rfl) (by kernel_rfl) (by kernel_rfl) (fun _ _ _ h => h) (Or.inl ⟨by rfl, ?_⟩) ?_
                  rotate_left 1
                  focus ((intro w; go_simp; (try with_reducible rfl)); done)
                  try simp only [Act.put, List.getElem_toArray, List.getElem_cons_succ, List.getElem_cons_zero, List.setIfInBounds_toArray, List.set_cons_zero, List.set_cons_succ]
                  refine wpAny_ready (rs := [0, 16]) (by kernel_rfl) (by simp) ?_
                  refine AllReady.cons rfl (fun K hK => ?_) ?_
                  · skip
                    go_simp
                    refine hK _ _ ?_
                    clear hK K
                    try simp only [Act.put, List.getElem_toArray, List.getElem_cons_succ, List.getElem_cons_zero, List.setIfInBounds_toArray, List.set_cons_zero, List.set_cons_succ]
                    refine wpAny_take (i := 3) (v := ?_) rfl (by kernel_rfl) (by kernel_rfl) (by kernel_rfl) (fun _ _ _ h => h) (Or.inl ⟨by rfl, ?_⟩) ?_
                    rotate_left 1
                    focus ((intro w; go_simp; (try with_reducible rfl)); done)
                    try simp only [Act.put, List.getElem_toArray, List.getElem_cons_succ, List.getElem_cons_zero, List.setIfInBounds_toArray, List.set_cons_zero, List.set_cons_succ]
                    refine wpAny_ready (rs := [16]) (by kernel_rfl) (by simp) ?_
                    refine AllReady.cons rfl (fun K hK => ?_) ?_
                    · skip
                      go_simp
                      refine hK _ _ ?_
                      clear hK K
                      try simp only [Act.put, List.getElem_toArray, List.getElem_cons_succ, List.getElem_cons_zero, List.setIfInBounds_toArray, List.set_cons_zero, List.set_cons_succ]
                      refine wpAny_ready (rs := [17]) (by kernel_rfl) (by simp) ?_
                      refine AllReady.cons rfl (fun K hK => ?_) ?_
                      · skip
                        refine step_append_cells _ rfl (.tmp 45) (.tmp 58) 93 rfl (w.heap.size + 3) 64 i0 .nilIface 1 16 Try.underlying93 hi hz0 hz1 hz2 rfl (by decide) (.slice (some ⟨g2, 0, none⟩) k cp) k (r.reverse.map trVal) rfl (hlD.alloc _) (some ⟨W.heap.size, 0, none⟩) 1 1 (fun _ => .iface 75 (.agg #[.iface ta va, .iface tb vb])) rfl (cells_lit1 (by simp)) (fun _ _ => by simp [Value.oneCell']) (by unfold maxLen; omega) (by omega) (by simp; omega) ?_
                        intro v' w1 hown' hgrow _
                        obtain ⟨g', cap', rfl⟩ := ownsRow_succ hown'
                        have hg' : (W.drew.alloc (.cells #[.iface 75 (.agg #[.iface ta va, .iface tb vb])] 64)).grownBy w1 (some g2) := hgrow
                        obtain ⟨hv1, hv2, hr2, hk2, hb2⟩ := hvD.appended (by decide) hrD (by simp; omega) (by omega) hown' hg'
                        have hS1 : Boxed w1 (w.heap.size + 5) 22 (.slice A n c) := (hSD.alloc _).kept hg' (hSD.not_row (by decide) hrD)
                        clear hgrow
                        have hc1 := hv1.cell
                        have hf1 := hv1.frozen
                        refine hK _ _ ?_
                        clear hK K
                        try simp only [Act.put, List.getElem_toArray, List.getElem_cons_succ, List.getElem_cons_zero, List.setIfInBounds_toArray, List.set_cons_zero, List.set_cons_succ]
                        refine wpAny_ready (rs := [18]) (by kernel_rfl) (by simp) ?_
                        refine AllReady.cons rfl (fun K hK => ?_) ?_
                        · skip
                          go_simp
                          refine hK _ _ ?_
                          clear hK K
                          try simp only [Act.put, List.getElem_toArray, List.getElem_cons_succ, List.getElem_cons_zero, List.setIfInBounds_toArray, List.set_cons_zero, List.set_cons_succ]
                          refine wpAny_done (by kernel_rfl) ?_ _
                          have hBl : Below w.heap.size W _ := Below.trans ((Below.refl _ W).drew) (hb2.mono (by omega))
                          have hS2 := hS1.other (B' := w.heap.size + 4) (by omega) (.slice (some ⟨g', 0, none⟩) (k + 1) cap')
                          gi_wp2
                          refine ⟨((KeepsOthers.drew W).trans hk2).from _, kpB_of hBl hS hS2, ⟨⟨⟨_, hv2, ?_, ?_⟩, boxLow hL (Below.trans ((Below.refl _ W).drew) hb2) (by omega), boxLow hR (Below.trans ((Below.refl _ W).drew) hb2) (by omega), boxLow hO (Below.trans ((Below.refl _ W).drew) hb2) (by omega), hS2⟩, hBW.trans hBl⟩⟩
                          · have e3 : stT l (pre ++ [x]) = .br a b :: r := by unfold stT; rw [HEN.out, HX.out, stkStep_neg]; rfl
                            have e4 : stV l (pre ++ [x]) = r.reverse.map trVal ++ [trVal (.br a b)] := by unfold stV; rw [e3]; simp
                            rw [e3, e4, show (Tr.br a b :: r).length = k + 1 by simp [hk'.out]]
                            rw [EB.out]
                            simpa [listV] using hr2
                          · rw [HEN.out, HX.out, stkStep_neg]; rfl
                        exact AllReady.nil
                      exact AllReady.nil
                    exact AllReady.nil
                  refine AllReady.cons rfl (fun K hK => ?_) ?_
                  · skip
                    go_simp
                    refine hK _ _ ?_
                    clear hK K
                    try simp only [Act.put, List.getElem_toArray, List.getElem_cons_succ, List.getElem_cons_zero, List.setIfInBounds_toArray, List.set_cons_zero, List.set_cons_succ]
                    refine wpAny_ready (rs := [0]) (by kernel_rfl) (by simp) ?_
                    refine AllReady.cons rfl (fun K hK => ?_) ?_
                    · skip
                      go_simp
                      refine hK _ _ ?_
                      clear hK K
                      try simp only [Act.put, List.getElem_toArray, List.getElem_cons_succ, List.getElem_cons_zero, List.setIfInBounds_toArray, List.set_cons_zero, List.set_cons_succ]
                      refine wpAny_take (i := 3) (v := ?_) rfl (by kernel_rfl) (by kernel_rfl) (by kernel_rfl) (fun _ _ _ h => h) (Or.inl ⟨by rfl, ?_⟩) ?_
                      rotate_left 1
                      focus ((intro w; go_simp; (try with_reducible rfl)); done)
                      try simp only [Act.put, List.getElem_toArray, List.getElem_cons_succ, List.getElem_cons_zero, List.setIfInBounds_toArray, List.set_cons_zero, List.set_cons_succ]
                      refine wpAny_ready (rs := [17]) (by kernel_rfl) (by simp) ?_
                      refine AllReady.cons rfl (fun K hK => ?_) ?_
                      · skip
                        refine step_append_cells _ rfl (.tmp 45) (.tmp 58) 93 rfl (w.heap.size + 3) 64 i0 .nilIface 1 16 Try.underlying93 hi hz0 hz1 hz2 rfl (by decide) (.slice (some ⟨g2, 0, none⟩) k cp) k (r.reverse.map trVal) rfl (hlD.alloc _) (some ⟨W.heap.size, 0, none⟩) 1 1 (fun _ => .iface 75 (.agg #[.iface ta va, .iface tb vb])) rfl (cells_lit1 (by simp)) (fun _ _ => by simp [Value.oneCell']) (by unfold maxLen; omega) (by omega) (by simp; omega) ?_
                        intro v' w1 hown' hgrow _
                        obtain ⟨g', cap', rfl⟩ := ownsRow_succ hown'
                        have hg' : (W.drew.alloc (.cells #[.iface 75 (.agg #[.iface ta va, .iface tb vb])] 64)).grownBy w1 (some g2) := hgrow
                        obtain ⟨hv1, hv2, hr2, hk2, hb2⟩ := hvD.appended (by decide) hrD (by simp; omega) (by omega) hown' hg'
                        have hS1 : Boxed w1 (w.heap.size + 5) 22 (.slice A n c) := (hSD.alloc _).kept hg' (hSD.not_row (by decide) hrD)
                        clear hgrow
                        have hc1 := hv1.cell
                        have hf1 := hv1.frozen
                        refine hK _ _ ?_
                        clear hK K
                        try simp only [Act.put, List.getElem_toArray, List.getElem_cons_succ, List.getElem_cons_zero, List.setIfInBounds_toArray, List.set_cons_zero, List.set_cons_succ]
                        refine wpAny_ready (rs := [18]) (by kernel_rfl) (by simp) ?_
                        refine AllReady.cons rfl (fun K hK => ?_) ?_
                        · skip
                          go_simp
                          refine hK _ _ ?_
                          clear hK K
                          try simp only [Act.put, List.getElem_toArray, List.getElem_cons_succ, List.getElem_cons_zero, List.setIfInBounds_toArray, List.set_cons_zero, List.set_cons_succ]
                          refine wpAny_done (by kernel_rfl) ?_ _
                          have hBl : Below w.heap.size W _ := Below.trans ((Below.refl _ W).drew) (hb2.mono (by omega))
                          have hS2 := hS1.other (B' := w.heap.size + 4) (by omega) (.slice (some ⟨g', 0, none⟩) (k + 1) cap')
                          gi_wp2
                          refine ⟨((KeepsOthers.drew W).trans hk2).from _, kpB_of hBl hS hS2, ⟨⟨⟨_, hv2, ?_, ?_⟩, boxLow hL (Below.trans ((Below.refl _ W).drew) hb2) (by omega), boxLow hR (Below.trans ((Below.refl _ W).drew) hb2) (by omega), boxLow hO (Below.trans ((Below.refl _ W).drew) hb2) (by omega), hS2⟩, hBW.trans hBl⟩⟩
                          · have e3 : stT l (pre ++ [x]) = .br a b :: r := by unfold stT; rw [HEN.out, HX.out, stkStep_neg]; rfl
                            have e4 : stV l (pre ++ [x]) = r.reverse.map trVal ++ [trVal (.br a b)] := by unfold stV; rw [e3]; simp
                            rw [e3, e4, show (Tr.br a b :: r).length = k + 1 by simp [hk'.out]]
                            rw [EB.out]
                            simpa [listV] using hr2
                          · rw [HEN.out, HX.out, stkStep_neg]; rfl
                        exact AllReady.nil
                      exact AllReady.nil
                    exact AllReady.nil
                  exact AllReady.nil
                exact AllReady.nil
              exact AllReady.nil
            exact AllReady.nil
          refine AllReady.cons rfl (fun K hK => ?_) ?_
          · skip
            go_simp
            refine hK _ _ ?_
            clear hK K
            try simp only [Act.put, List.getElem_toArray, List.getElem_cons_succ, List.getElem_cons_zero, List.setIfInBounds_toArray, List.set_cons_zero, List.set_cons_succ]
            refine wpAny_take (i := 12) (v := ?_) rfl (by kernel_rfl) (by kernel_rfl) (by kernel_rfl) (fun _ _ _ h => h) (Or.inl ⟨by rfl, ?_⟩) ?_
            rotate_left 1
            focus ((intro w; go_simp; (try with_reducible rfl)); done)
            try simp only [Act.put, List.getElem_toArray, List.getElem_cons_succ, List.getElem_cons_zero, List.setIfInBounds_toArray, List.set_cons_zero, List.set_cons_succ]
            refine wpAny_ready (rs := [0, 4, 13]) (by kernel_rfl) (by simp) ?_
            refine AllReady.cons rfl (fun K hK => ?_) ?_
            · skip
              go_simp
              refine hK _ _ ?_
              clear hK K
              try simp only [Act.put, List.getElem_toArray, List.getElem_cons_succ, List.getElem_cons_zero, List.setIfInBounds_toArray, List.set_cons_zero, List.set_cons_succ]
              refine wpAny_take (i := 3) (v := ?_) rfl (by kernel_rfl) (by kernel_rfl) (by kernel_rfl) (fun _ _ _ h => h) (Or.inl ⟨by rfl, ?_⟩) ?_
              rotate_left 1
              focus ((intro w; go_simp; (try with_reducible rfl)); done)
              try simp only [Act.put, List.getElem_toArray, List.getElem_cons_succ, List.getElem_cons_zero, List.setIfInBounds_toArray, List.set_cons_zero, List.set_cons_succ]
              refine wpAny_ready (rs := [4, 13]) (by kernel_rfl) (by simp) ?_
              refine AllReady.cons rfl (fun K hK => ?_) ?_
              · skip
                go_simp
                refine hK _ _ ?_
                clear hK K
                try simp only [Act.put, List.getElem_toArray, List.getElem_cons_succ, List.getElem_cons_zero, List.setIfInBounds_toArray, List.set_cons_zero, List.set_cons_succ]
                refine wpAny_take (i := 7) (v := ?_) rfl (by kernel_rfl) (by kernel_rfl) (by kernel_rfl) (fun _ _ _ h => h) (Or.inl ⟨by rfl, ?_⟩) ?_
                rotate_left 1
                focus ((intro w; go_simp; (try with_reducible rfl)); done)
                try simp only [Act.put, List.getElem_toArray, List.getElem_cons_succ, List.getElem_cons_zero, List.setIfInBounds_toArray, List.set_cons_zero, List.set_cons_succ]
                refine wpAny_ready (rs := [8, 13]) (by kernel_rfl) (by simp) ?_
                refine AllReady.cons rfl (fun K hK => ?_) ?_
                · skip
                  go_simp
                  refine hK _ _ ?_
                  clear hK K
                  try simp only [Act.put, List.getElem_toArray, List.getElem_cons_succ, List.getElem_cons_zero, List.setIfInBounds_toArray, List.set_cons_zero, List.set_cons_succ]
                  refine wpAny_ready (rs := [13]) (by kernel_rfl) (by simp) ?_
                  refine AllReady.cons rfl (fun K hK => ?_) ?_
                  · skip
                    go_simp
                    refine hK _ _ ?_
                    clear hK K
                    try simp only [Act.put, List.getElem_toArray, List.getElem_cons_succ, List.getElem_cons_zero, List.setIfInBounds_toArray, List.set_cons_zero, List.set_cons_succ]
                    refine wpAny_take (i := 14) (v := ?_) rfl (by kernel_rfl) (by kernel_rfl) (by kernel_rfl) (fun _ _ _ h => h) (Or.inl ⟨by rfl, ?_⟩) ?_
                    rotate_left 1
                    focus ((intro w; go_simp; (try with_reducible rfl)); done)
                    try simp only [Act.put, List.getElem_toArray, List.getElem_cons_succ, List.getElem_cons_zero, List.setIfInBounds_toArray, List.set_cons_zero, List.set_cons_succ]
                    refine wpAny_take (i := 15) (v := ?_) rfl (by kernel_rfl) (by kernel_rfl) (by kernel_rfl) (fun _ _ _ h => h) (Or.inl ⟨by rfl, ?_⟩) ?_
                    rotate_left 1
                    focus ((intro w; go_simp; (try with_reducible rfl)); done)
                    try simp only [Act.put, List.getElem_toArray, List.getElem_cons_succ, List.getElem_cons_zero, List.setIfInBounds_toArray, List.set_cons_zero, List.set_cons_succ]
                    refine wpAny_ready (rs := [16]) (by kernel_rfl) (by simp) ?_
                    refine AllReady.cons rfl (fun K hK => ?_) ?_
                    · skip
                      go_simp
                      refine hK _ _ ?_
                      clear hK K
                      try simp only [Act.put, List.getElem_toArray, List.getElem_cons_succ, List.getElem_cons_zero, List.setIfInBounds_toArray, List.set_cons_zero, List.set_cons_succ]
                      refine wpAny_ready (rs := [17]) (by kernel_rfl) (by simp) ?_
                      refine AllReady.cons rfl (fun K hK => ?_) ?_
                      · skip
                        refine step_append_cells _ rfl (.tmp 45) (.tmp 58) 93 rfl (w.heap.size + 3) 64 i0 .nilIface 1 16 Try.underlying93 hi hz0 hz1 hz2 rfl (by decide) (.slice (some ⟨g2, 0, none⟩) k cp) k (r.reverse.map trVal) rfl (hlD.alloc _) (some ⟨W.heap.size, 0, none⟩) 1 1 (fun _ => .iface 75 (.agg #[.iface ta va, .iface tb vb])) rfl (cells_lit1 (by simp)) (fun _ _ => by simp [Value.oneCell']) (by unfold maxLen; omega) (by omega) (by simp; omega) ?_
                        intro v' w1 hown' hgrow _
                        obtain ⟨g', cap', rfl⟩ := ownsRow_succ hown'
                        have hg' : (W.drew.alloc (.cells #[.iface 75 (.agg #[.iface ta va, .iface tb vb])] 64)).grownBy w1 (some g2) := hgrow
                        obtain ⟨hv1, hv2, hr2, hk2, hb2⟩ := hvD.appended (by decide) hrD (by simp; omega) (by omega) hown' hg'
                        have hS1 : Boxed w1 (w.heap.size + 5) 22 (.slice A n c) := (hSD.alloc _).kept hg' (hSD.not_row (by decide) hrD)
                        clear hgrow
                        have hc1 := hv1.cell
                        have hf1 := hv1.frozen
                        refine hK _ _ ?_
                        clear hK K
                        try simp only [Act.put, List.getElem_toArray, List.getElem_cons_succ, List.getElem_cons_zero, List.setIfInBounds_toArray, List.set_cons_zero, List.set_cons_succ]
                        refine wpAny_ready (rs := [18]) (by kernel_rfl) (by simp) ?_
                        refine AllReady.cons rfl (fun K hK => ?_) ?_
                        · skip
                          go_simp
                          refine hK _ _ ?_
                          clear hK K
                          try simp only [Act.put, List.getElem_toArray, List.getElem_cons_succ, List.getElem_cons_zero, List.setIfInBounds_toArray, List.set_cons_zero, List.set_cons_succ]
                          refine wpAny_done (by kernel_rfl) ?_ _
                          have hBl : Below w.heap.size W _ := Below.trans ((Below.refl _ W).drew) (hb2.mono (by omega))
                          have hS2 := hS1.other (B' := w.heap.size + 4) (by omega) (.slice (some ⟨g', 0, none⟩) (k + 1) cap')
                          gi_wp2
                          refine ⟨((KeepsOthers.drew W).trans hk2).from _, kpB_of hBl hS hS2, ⟨⟨⟨_, hv2, ?_, ?_⟩, boxLow hL (Below.trans ((Below.refl _ W).drew) hb2) (by omega), boxLow hR (Below.trans ((Below.refl _ W).drew) hb2) (by omega), boxLow hO (Below.trans ((Below.refl _ W).drew) hb2) (by omega), hS2⟩, hBW.trans hBl⟩⟩
                          · have e3 : stT l (pre ++ [x]) = .br a b :: r := by unfold stT; rw [HEN.out, HX.out, stkStep_neg]; rfl
                            have e4 : stV l (pre ++ [x]) = r.reverse.map trVal ++ [trVal (.br a b)] := by unfold stV; rw [e3]; simp
                            rw [e3, e4, show (Tr.br a b :: r).length = k + 1 by simp [hk'.out]]
                            rw [EB.out]
                            simpa [listV] using hr2
                          · rw [HEN.out, HX.out, stkStep_neg]; rfl
                        exact AllReady.nil
                      exact AllReady.nil
                    exact AllReady.nil
                  exact AllReady.nil
                refine AllReady.cons rfl (fun K hK => ?_) ?_
                · skip
                  go_simp
                  refine hK _ _ ?_
                  clear hK K
                  try simp only [Act.put, List.getElem_toArray, List.getElem_cons_succ, List.getElem_cons_zero, List.setIfInBounds_toArray, List.set_cons_zero, List.set_cons_succ]
                  refine wpAny_ready (rs := [8]) (by kernel_rfl) (by simp) ?_
                  refine AllReady.cons rfl (fun K hK => ?_) ?_
                  · skip
                    go_simp
                    refine hK _ _ ?_
                    clear hK K
                    try simp only [Act.put, List.getElem_toArray, List.getElem_cons_succ, List.getElem_cons_zero, List.setIfInBounds_toArray, List.set_cons_zero, List.set_cons_succ]
                    refine wpAny_take (i := 14) (v := ?_) rfl (by kernel_rfl) (by kernel_rfl) (by kernel_rfl) (fun _ _ _ h => h) (Or.inl ⟨by rfl, ?_⟩) ?_
                    rotate_left 1
                    focus ((intro w; go_simp; (try with_reducible rfl)); done)
                    try simp only [Act.put, List.getElem_toArray, List.getElem_cons_succ, List.getElem_cons_zero, List.setIfInBounds_toArray, List.set_cons_zero, List.set_cons_succ]
                    refine wpAny_take (i := 15) (v := ?_) rfl (by kernel_rfl) (by kernel_rfl) (by kernel_rfl) (fun _ _ _ h => h) (Or.inl ⟨by rfl, ?_⟩) ?_
                    rotate_left 1
                    focus ((intro w; go_simp; (try with_reducible rfl)); done)
                    try simp only [Act.put, List.getElem_toArray, List.getElem_cons_succ, List.getElem_cons_zero, List.setIfInBounds_toArray, List.set_cons_zero, List.set_cons_succ]
                    refine wpAny_ready (rs := [16]) (by kernel_rfl) (by simp) ?_
                    refine AllReady.cons rfl (fun K hK => ?_) ?_
                    · skip
                      go_simp
                      refine hK _ _ ?_
                      clear hK K
                      try simp only [Act.put, List.getElem_toArray, List.getElem_cons_succ, List.getElem_cons_zero, List.setIfInBounds_toArray, List.set_cons_zero, List.set_cons_succ]
                      refine wpAny_ready (rs := [17]) (by kernel_rfl) (by simp) ?_
                      refine AllReady.cons rfl (fun K hK => ?_) ?_
                      · skip
                        refine step_append_cells _ rfl (.tmp 45) (.tmp 58) 93 rfl (w.heap.size + 3) 64 i0 .nilIface 1 16 Try.underlying93 hi hz0 hz1 hz2 rfl (by decide) (.slice (some ⟨g2, 0, none⟩) k cp) k (r.reverse.map trVal) rfl (hlD.alloc _) (some ⟨W.heap.size, 0, none⟩) 1 1 (fun _ => .iface 75 (.agg #[.iface ta va, .iface tb vb])) rfl (cells_lit1 (by simp)) (fun _ _ => by simp [Value.oneCell']) (by unfold maxLen; omega) (by omega) (by simp; omega) ?_
                        intro v' w1 hown' hgrow _
                        obtain ⟨g', cap', rfl⟩ := ownsRow_succ hown'
                        have hg' : (W.drew.alloc (.cells #[.iface 75 (.agg #[.iface ta va, .iface tb vb])] 64)).grownBy w1 (some g2) := hgrow
                        obtain ⟨hv1, hv2, hr2, hk2, hb2⟩ := hvD.appended (by decide) hrD (by simp; omega) (by omega) hown' hg'
                        have hS1 : Boxed w1 (w.heap.size + 5) 22 (.slice A n c) := (hSD.alloc _).kept hg' (hSD.not_row (by decide) hrD)
                        clear hgrow
                        have hc1 := hv1.cell
                        have hf1 := hv1.frozen
                        refine hK _ _ ?_
                        clear hK K
                        try simp only [Act.put, List.getElem_toArray, List.getElem_cons_succ, List.getElem_cons_zero, List.setIfInBounds_toArray, List.set_cons_zero, List.set_cons_succ]
                        refine wpAny_ready (rs := [18]) (by kernel_rfl) (by simp) ?_
                        refine AllReady.cons rfl (fun K hK => ?_) ?_
                        · skip
                          go_simp
                          refine hK _ _ ?_
                          clear hK K
                          try simp only [Act.put, List.getElem_toArray, List.getElem_cons_succ, List.getElem_cons_zero, List.setIfInBounds_toArray, List.set_cons_zero, List.set_cons_succ]
                          refine wpAny_done (by kernel_rfl) ?_ _
                          have hBl : Below w.heap.size W _ := Below.trans ((Below.refl _ W).drew) (hb2.mono (by omega))
                          have hS2 := hS1.other (B' := w.heap.size + 4) (by omega) (.slice (some ⟨g', 0, none⟩) (k + 1) cap')
                          gi_wp2
                          refine ⟨((KeepsOthers.drew W).trans hk2).from _, kpB_of hBl hS hS2, ⟨⟨⟨_, hv2, ?_, ?_⟩, boxLow hL (Below.trans ((Below.refl _ W).drew) hb2) (by omega), boxLow hR (Below.trans ((Below.refl _ W).drew) hb2) (by omega), boxLow hO (Below.trans ((Below.refl _ W).drew) hb2) (by omega), hS2⟩, hBW.trans hBl⟩⟩
                          · have e3 : stT l (pre ++ [x]) = .br a b :: r := by unfold stT; rw [HEN.out, HX.out, stkStep_neg]; rfl
                            have e4 : stV l (pre ++ [x]) = r.reverse.map trVal ++ [trVal (.br a b)] := by unfold stV; rw [e3]; simp
                            rw [e3, e4, show (Tr.br a b :: r).length = k + 1 by simp [hk'.out]]
                            rw [EB.out]
                            simpa [listV] using hr2
                          · rw [HEN.out, HX.out, stkStep_neg]; rfl
                        exact AllReady.nil
                      exact AllReady.nil
                    exact AllReady.nil
                  exact AllReady.nil
                exact AllReady.nil
              refine AllReady.cons rfl (fun K hK => ?_) ?_
              · skip
                go_simp
                refine hK _ _ ?_
                clear hK K
                try simp only [Act.put, List.getElem_toArray, List.getElem_cons_succ, List.getElem_cons_zero, List.setIfInBounds_toArray, List.set_cons_zero, List.set_cons_succ]
                refine wpAny_ready (rs := [4]) (by kernel_rfl) (by simp) ?_
                refine AllReady.cons rfl (fun K hK => ?_) ?_
                · skip
                  go_simp
                  refine hK _ _ ?_
                  clear hK K
                  try simp only [Act.put, List.getElem_toArray, List.getElem_cons_succ, List.getElem_cons_zero, List.setIfInBounds_toArray, List.set_cons_zero, List.set_cons_succ]
                  refine wpAny_take (i := 7) (v := ?_) rfl (by kernel_rfl) (by kernel_rfl) (by kernel_rfl) (fun _ _ _ h => h) (Or.inl ⟨by rfl, ?_⟩) ?_
                  rotate_left 1
                  focus ((intro w; go_simp; (try with_reducible rfl)); done)
                  try simp only [Act.put, List.getElem_toArray, List.getElem_cons_succ, List.getElem_cons_zero, List.setIfInBounds_toArray, List.set_cons_zero, List.set_cons_succ]
                  refine wpAny_ready (rs := [8]) (by kernel_rfl) (by simp) ?_
                  refine AllReady.cons rfl (fun K hK => ?_) ?_
                  · skip
                    go_simp
                    refine hK _ _ ?_
                    clear hK K
                    try simp only [Act.put, List.getElem_toArray, List.getElem_cons_succ, List.getElem_cons_zero, List.setIfInBounds_toArray, List.set_cons_zero, List.set_cons_succ]
                    refine wpAny_take (i := 14) (v := ?_) rfl (by kernel_rfl) (by kernel_rfl) (by kernel_rfl) (fun _ _ _ h => h) (Or.inl ⟨by rfl, ?_⟩) ?_
                    rotate_left 1
                    focus ((intro w; go_simp; (try with_reducible rfl)); done)
                    try simp only [Act.put, List.getElem_toArray, List.getElem_cons_succ, List.getElem_cons_zero, List.setIfInBounds_toArray, List.set_cons_zero, List.set_cons_succ]
                    refine wpAny_take (i := 15) (v := ?_) rfl (by kernel_rfl) (by kernel_rfl) (by kernel_rfl) (fun _ _ _ h => h) (Or.inl ⟨by rfl, ?_⟩) ?_
                    rotate_left 1
                    focus ((intro w; go_simp; (try with_reducible rfl)); done)
                    try simp only [Act.put, List.getElem_toArray, List.getElem_cons_succ, List.getElem_cons_zero, List.setIfInBounds_toArray, List.set_cons_zero, List.set_cons_succ]
                    refine wpAny_ready (rs := [16]) (by kernel_rfl) (by simp) ?_
                    refine AllReady.cons rfl (fun K hK => ?_) ?_
                    · skip
                      go_simp
                      refine hK _ _ ?_
                      clear hK K
                      try simp only [Act.put, List.getElem_toArray, List.getElem_cons_succ, List.getElem_cons_zero, List.setIfInBounds_toArray, List.set_cons_zero, List.set_cons_succ]
                      refine wpAny_ready (rs := [17]) (by kernel_rfl) (by simp) ?_
                      refine AllReady.cons rfl (fun K hK => ?_) ?_
                      · skip
                        refine step_append_cells _ rfl (.tmp 45) (.tmp 58) 93 rfl (w.heap.size + 3) 64 i0 .nilIface 1 16 Try.underlying93 hi hz0 hz1 hz2 rfl (by decide) (.slice (some ⟨g2, 0, none⟩) k cp) k (r.reverse.map trVal) rfl (hlD.alloc _) (some ⟨W.heap.size, 0, none⟩) 1 1 (fun _ => .iface 75 (.agg #[.iface ta va, .iface tb vb])) rfl (cells_lit1 (by simp)) (fun _ _ => by simp [Value.oneCell']) (by unfold maxLen; omega) (by omega) (by simp; omega) ?_
                        intro v' w1 hown' hgrow _
                        obtain ⟨g', cap', rfl⟩ := ownsRow_succ hown'
                        have hg' : (W.drew.alloc (.cells #[.iface 75 (.agg #[.iface ta va, .iface tb vb])] 64)).grownBy w1 (some g2) := hgrow
                        obtain ⟨hv1, hv2, hr2, hk2, hb2⟩ := hvD.appended (by decide) hrD (by simp; omega) (by omega) hown' hg'
                        have hS1 : Boxed w1 (w.heap.size + 5) 22 (.slice A n c) := (hSD.alloc _).kept hg' (hSD.not_row (by decide) hrD)
                        clear hgrow
                        have hc1 := hv1.cell
                        have hf1 := hv1.frozen
                        refine hK _ _ ?_
                        clear hK K
                        try simp only [Act.put, List.getElem_toArray, List.getElem_cons_succ, List.getElem_cons_zero, List.setIfInBounds_toArray, List.set_cons_zero, List.set_cons_succ]
                        refine wpAny_ready (rs := [18]) (by kernel_rfl) (by simp) ?_
                        refine AllReady.cons rfl (fun K hK => ?_) ?_
                        · skip
                          go_simp
                          refine hK _ _ ?_
                          clear hK K
                          try simp only [Act.put, List.getElem_toArray, List.getElem_cons_succ, List.getElem_cons_zero, List.setIfInBounds_toArray, List.set_cons_zero, List.set_cons_succ]
                          refine wpAny_done (by kernel_rfl) ?_ _
                          have hBl : Below w.heap.size W _ := Below.trans ((Below.refl _ W).drew) (hb2.mono (by omega))
                          have hS2 := hS1.other (B' := w.heap.size + 4) (by omega) (.slice (some ⟨g', 0, none⟩) (k + 1) cap')
                          gi_wp2
                          refine ⟨((KeepsOthers.drew W).trans hk2).from _, kpB_of hBl hS hS2, ⟨⟨⟨_, hv2, ?_, ?_⟩, boxLow hL (Below.trans ((Below.refl _ W).drew) hb2) (by omega), boxLow hR (Below.trans ((Below.refl _ W).drew) hb2) (by omega), boxLow hO (Below.trans ((Below.refl _ W).drew) hb2) (by omega), hS2⟩, hBW.trans hBl⟩⟩
                          · have e3 : stT l (pre ++ [x]) = .br a b :: r := by unfold stT; rw [HEN.out, HX.out, stkStep_neg]; rfl
                            have e4 : stV l (pre ++ [x]) = r.reverse.map trVal ++ [trVal (.br a b)] := by unfold stV; rw [e3]; simp
                            rw [e3, e4, show (Tr.br a b :: r).length = k + 1 by simp [hk'.out]]
                            rw [EB.out]
                            simpa [listV] using hr2
                          · rw [HEN.out, HX.out, stkStep_neg]; rfl
                        exact AllReady.nil
                      exact AllReady.nil
                    exact AllReady.nil
                  exact AllReady.nil
                exact AllReady.nil
              exact AllReady.nil
            refine AllReady.cons rfl (fun K hK => ?_) ?_
            · skip
              go_simp
              refine hK _ _ ?_
              clear hK K
              try simp only [Act.put, List.getElem_toArray, List.getElem_cons_succ, List.getElem_cons_zero, List.setIfInBounds_toArray, List.set_cons_zero, List.set_cons_succ]
              refine wpAny_take (i := 7) (v := ?_) rfl (by kernel_rfl) (by kernel_rfl) (by kernel_rfl) (fun _ _ _ h => h) (Or.inl ⟨by rfl, ?_⟩) ?_
              rotate_left 1
              focus ((intro w; go_simp; (try with_reducible rfl)); done)
              try simp only [Act.put, List.getElem_toArray, List.getElem_cons_succ, List.getElem_cons_zero, List.setIfInBounds_toArray, List.set_cons_zero, List.set_cons_succ]
              refine wpAny_ready (rs := [0, 8, 13]) (by kernel_rfl) (by simp) ?_
              refine AllReady.cons rfl (fun K hK => ?_) ?_
              · skip
                go_simp
                refine hK _ _ ?_
                clear hK K
                try simp only [Act.put, List.getElem_toArray, List.getElem_cons_succ, List.getElem_cons_zero, List.setIfInBounds_toArray, List.set_cons_zero, List.set_cons_succ]
                refine wpAny_take (i := 3) (v := ?_) rfl (by kernel_rfl) (by kernel_rfl) (by kernel_rfl) (fun _ _ _ h => h) (Or.inl ⟨by rfl, ?_⟩) ?_
                rotate_left 1
                focus ((intro w; go_simp; (try with_reducible rfl)); done)
                try simp only [Act.put, List.getElem_toArray, List.getElem_cons_succ, List.getElem_cons_zero, List.setIfInBounds_toArray, List.set_cons_zero, List.set_cons_succ]
                refine wpAny_ready (rs := [8, 13]) (by kernel_rfl) (by simp) ?_
                refine AllReady.cons rfl (fun K hK => ?_) ?_
                · skip
                  go_simp
                  refine hK _ _ ?_
                  clear hK K
                  try simp only [Act.put, List.getElem_toArray, List.getElem_cons_succ, List.getElem_cons_zero, List.setIfInBounds_toArray, List.set_cons_zero, List.set_cons_succ]
                  refine wpAny_ready (rs := [13]) (by kernel_rfl) (by simp) ?_
                  refine AllReady.cons rfl (fun K hK => ?_) ?_
                  · skip
                    go_simp
                    refine hK _ _ ?_
                    clear hK K
                    try simp only [Act.put, List.getElem_toArray, List.getElem_cons_succ, List.getElem_cons_zero, List.setIfInBounds_toArray, List.set_cons_zero, List.set_cons_succ]
                    refine wpAny_take (i := 14) (v := ?_) rfl (by kernel_rfl) (by kernel_rfl) (by kernel_rfl) (fun _ _ _ h => h) (Or.inl ⟨by rfl, ?_⟩) ?_
                    rotate_left 1
                    focus ((intro w; go_simp; (try with_reducible rfl)); done)
                    try simp only [Act.put, List.getElem_toArray, List.getElem_cons_succ, List.getElem_cons_zero, List.setIfInBounds_toArray, List.set_cons_zero, List.set_cons_succ]
                    refine wpAny_take (i := 15) (v := ?_) rfl (by kernel_rfl) (by kernel_rfl) (by kernel_rfl) (fun _ _ _ h => h) (Or.inl ⟨by rfl, ?_⟩) ?_
                    rotate_left 1
                    focus ((intro w; go_simp; (try with_reducible rfl)); done)
                    try simp only [Act.put, List.getElem_toArray, List.getElem_cons_succ, List.getElem_cons_zero, List.setIfInBounds_toArray, List.set_cons_zero, List.set_cons_succ]
                    refine wpAny_ready (rs := [16]) (by kernel_rfl) (by simp) ?_
                    refine AllReady.cons rfl (fun K hK => ?_) ?_
                    · skip
                      go_simp
                      refine hK _ _ ?_
                      clear hK K
                      try simp only [Act.put, List.getElem_toArray, List.getElem_cons_succ, List.getElem_cons_zero, List.setIfInBounds_toArray, List.set_cons_zero, List.set_cons_succ]
                      refine wpAny_ready (rs := [17]) (by kernel_rfl) (by simp) ?_
                      refine AllReady.cons rfl (fun K hK => ?_) ?_
                      · skip
                        refine step_append_cells _ rfl (.tmp 45) (.tmp 58) 93 rfl (w.heap.size + 3) 64 i0 .nilIface 1 16 Try.underlying93 hi hz0 hz1 hz2 rfl (by decide) (.slice (some ⟨g2, 0, none⟩) k cp) k (r.reverse.map trVal) rfl (hlD.alloc _) (some ⟨W.heap.size, 0, none⟩) 1 1 (fun _ => .iface 75 (.agg #[.iface ta va, .iface tb vb])) rfl (cells_lit1 (by simp)) (fun _ _ => by simp [Value.oneCell']) (by unfold maxLen; omega) (by omega) (by simp; omega) ?_
                        intro v' w1 hown' hgrow _
                        obtain ⟨g', cap', rfl⟩ := ownsRow_succ hown'
                        have hg' : (W.drew.alloc (.cells #[.iface 75 (.agg #[.iface ta va, .iface tb vb])] 64)).grownBy w1 (some g2) := hgrow
                        obtain ⟨hv1, hv2, hr2, hk2, hb2⟩ := hvD.appended (by decide) hrD (by simp; omega) (by omega) hown' hg'
                        have hS1 : Boxed w1 (w.heap.size + 5) 22 (.slice A n c) := (hSD.alloc _).kept hg' (hSD.not_row (by decide) hrD)
                        clear hgrow
                        have hc1 := hv1.cell
                        have hf1 := hv1.frozen
                        refine hK _ _ ?_
                        clear hK K
                        try simp only [Act.put, List.getElem_toArray, List.getElem_cons_succ, List.getElem_cons_zero, List.setIfInBounds_toArray, List.set_cons_zero, List.set_cons_succ]
                        refine wpAny_ready (rs := [18]) (by kernel_rfl) (by simp) ?_
                        refine AllReady.cons rfl (fun K hK => ?_) ?_
                        · skip
                          go_simp
                          refine hK _ _ ?_
                          clear hK K
                          try simp only [Act.put, List.getElem_toArray, List.getElem_cons_succ, List.getElem_cons_zero, List.setIfInBounds_toArray, List.set_cons_zero, List.set_cons_succ]
                          refine wpAny_done (by kernel_rfl) ?_ _
                          have hBl : Below w.heap.size W _ := Below.trans ((Below.refl _ W).drew) (hb2.mono (by omega))
                          have hS2 := hS1.other (B' := w.heap.size + 4) (by omega) (.slice (some ⟨g', 0, none⟩) (k + 1) cap')
                          gi_wp2
                          refine ⟨((KeepsOthers.drew W).trans hk2).from _, kpB_of hBl hS hS2, ⟨⟨⟨_, hv2, ?_, ?_⟩, boxLow hL (Below.trans ((Below.refl _ W).drew) hb2) (by omega), boxLow hR (Below.trans ((Below.refl _ W).drew) hb2) (by omega), boxLow hO (Below.trans ((Below.refl _ W).drew) hb2) (by omega), hS2⟩, hBW.trans hBl⟩⟩
                          · have e3 : stT l (pre ++ [x]) = .br a b :: r := by unfold stT; rw [HEN.out, HX.out, stkStep_neg]; rfl
                            have e4 : stV l (pre ++ [x]) = r.reverse.map trVal ++ [trVal (.br a b)] := by unfold stV; rw [e3]; simp
                            rw [e3, e4, show (Tr.br a b :: r).length = k + 1 by simp [hk'.out]]
                            rw [EB.out]
                            simpa [listV] using hr2
                          · rw [HEN.out, HX.out, stkStep_neg]; rfl
                        exact AllReady.nil
                      exact AllReady.nil
                    exact AllReady.nil
                  exact AllReady.nil
                refine AllReady.cons rfl (fun K hK => ?_) ?_
                · skip
                  go_simp
                  refine hK _ _ ?_
                  clear hK K
                  try simp only [Act.put, List.getElem_toArray, List.getElem_cons_succ, List.getElem_cons_zero, List.setIfInBounds_toArray, List.set_cons_zero, List.set_cons_succ]
                  refine wpAny_ready (rs := [8]) (by kernel_rfl) (by simp) ?_
                  refine AllReady.cons rfl (fun K hK => ?_) ?_
                  · skip
                    go_simp
                    refine hK _ _ ?_
                    clear hK K
                    try simp only [Act.put, List.getElem_toArray, List.getElem_cons_succ, List.getElem_cons_zero, List.setIfInBounds_toArray, List.set_cons_zero, List.set_cons_succ]
                    refine wpAny_take (i := 14) (v := ?_) rfl (by kernel_rfl) (by kernel_rfl) (by kernel_rfl) (fun _ _ _ h => h) (Or.inl ⟨by rfl, ?_⟩) ?_
                    rotate_left 1
                    focus ((intro w; go_simp; (try with_reducible rfl)); done)
                    try simp only [Act.put, List.getElem_toArray, List.getElem_cons_succ, List.getElem_cons_zero, List.setIfInBounds_toArray, List.set_cons_zero, List.set_cons_succ]
                    refine wpAny_take (i := 15) (v := ?_) rfl (by kernel_rfl) (by kernel_rfl) (by kernel_rfl) (fun _ _ _ h => h) (Or.inl ⟨by rfl, ?_⟩) ?_
                    rotate_left 1
                    focus ((intro w; go_simp; (try with_reducible rfl)); done)
                    try simp only [Act.put, List.getElem_toArray, List.getElem_cons_succ, List.getElem_cons_zero, List.setIfInBounds_toArray, List.set_cons_zero, List.set_cons_succ]
                    refine wpAny_ready (rs := [16]) (by kernel_rfl) (by simp) ?_
                    refine AllReady.cons rfl (fun K hK => ?_) ?_
                    · skip
                      go_simp
                      refine hK _ _ ?_
                      clear hK K
                      try simp only [Act.put, List.getElem_toArray, List.getElem_cons_succ, List.getElem_cons_zero, List.setIfInBounds_toArray, List.set_cons_zero, List.set_cons_succ]
                      refine wpAny_ready (rs := [17]) (by kernel_rfl) (by simp) ?_
                      refine AllReady.cons rfl (fun K hK => ?_) ?_
                      · skip
                        refine step_append_cells _ rfl (.tmp 45) (.tmp 58) 93 rfl (w.heap.size + 3) 64 i0 .nilIface 1 16 Try.underlying93 hi hz0 hz1 hz2 rfl (by decide) (.slice (some ⟨g2, 0, none⟩) k cp) k (r.reverse.map trVal) rfl (hlD.alloc _) (some ⟨W.heap.size, 0, none⟩) 1 1 (fun _ => .iface 75 (.agg #[.iface ta va, .iface tb vb])) rfl (cells_lit1 (by simp)) (fun _ _ => by simp [Value.oneCell']) (by unfold maxLen; omega) (by omega) (by simp; omega) ?_
                        intro v' w1 hown' hgrow _
                        obtain ⟨g', cap', rfl⟩ := ownsRow_succ hown'
                        have hg' : (W.drew.alloc (.cells #[.iface 75 (.agg #[.iface ta va, .iface tb vb])] 64)).grownBy w1 (some g2) := hgrow
                        obtain ⟨hv1, hv2, hr2, hk2, hb2⟩ := hvD.appended (by decide) hrD (by simp; omega) (by omega) hown' hg'
                        have hS1 : Boxed w1 (w.heap.size + 5) 22 (.slice A n c) := (hSD.alloc _).kept hg' (hSD.not_row (by decide) hrD)
                        clear hgrow
                        have hc1 := hv1.cell
                        have hf1 := hv1.frozen
                        refine hK _ _ ?_
                        clear hK K
                        try simp only [Act.put, List.getElem_toArray, List.getElem_cons_succ, List.getElem_cons_zero, List.setIfInBounds_toArray, List.set_cons_zero, List.set_cons_succ]
                        refine wpAny_ready (rs := [18]) (by kernel_rfl) (by simp) ?_
                        refine AllReady.cons rfl (fun K hK => ?_) ?_
                        · skip
                          go_simp
                          refine hK _ _ ?_
                          clear hK K
                          try simp only [Act.put, List.getElem_toArray, List.getElem_cons_succ, List.getElem_cons_zero, List.setIfInBounds_toArray, List.set_cons_zero, List.set_cons_succ]
                          refine wpAny_done (by kernel_rfl) ?_ _
                          have hBl : Below w.heap.size W _ := Below.trans ((Below.refl _ W).drew) (hb2.mono (by omega))
                          have hS2 := hS1.other (B' := w.heap.size + 4) (by omega) (.slice (some ⟨g', 0, none⟩) (k + 1) cap')
                          gi_wp2
                          refine ⟨((KeepsOthers.drew W).trans hk2).from _, kpB_of hBl hS hS2, ⟨⟨⟨_, hv2, ?_, ?_⟩, boxLow hL (Below.trans ((Below.refl _ W).drew) hb2) (by omega), boxLow hR (Below.trans ((Below.refl _ W).drew) hb2) (by omega), boxLow hO (Below.trans ((Below.refl _ W).drew) hb2) (by omega), hS2⟩, hBW.trans hBl⟩⟩
                          · have e3 : stT l (pre ++ [x]) = .br a b :: r := by unfold stT; rw [HEN.out, HX.out, stkStep_neg]; rfl
                            have e4 : stV l (pre ++ [x]) = r.reverse.map trVal ++ [trVal (.br a b)] := by unfold stV; rw [e3]; simp
                            rw [e3, e4, show (Tr.br a b :: r).length = k + 1 by simp [hk'.out]]
                            rw [EB.out]
                            simpa [listV] using hr2
                          · rw [HEN.out, HX.out, stkStep_neg]; rfl
                        exact AllReady.nil
                      exact AllReady.nil
                    exact AllReady.nil
                  exact AllReady.nil
                exact AllReady.nil
              refine AllReady.cons rfl (fun K hK => ?_) ?_
              · skip
                go_simp
                refine hK _ _ ?_
                clear hK K
                try simp only [Act.put, List.getElem_toArray, List.getElem_cons_succ, List.getElem_cons_zero, List.setIfInBounds_toArray, List.set_cons_zero, List.set_cons_succ]
                refine wpAny_ready (rs := [0, 13]) (by kernel_rfl) (by simp) ?_
                refine AllReady.cons rfl (fun K hK => ?_) ?_
                · skip
                  go_simp
                  refine hK _ _ ?_
                  clear hK K
                  try simp only [Act.put, List.getElem_toArray, List.getElem_cons_succ, List.getElem_cons_zero, List.setIfInBounds_toArray, List.set_cons_zero, List.set_cons_succ]
                  refine wpAny_take (i := 3) (v := ?_) rfl (by kernel_rfl) (by kernel_rfl) (by kernel_rfl) (fun _ _ _ h => h) (Or.inl ⟨by rfl, ?_⟩) ?_
                  rotate_left 1
                  focus ((intro w; go_simp; (try with_reducible rfl)); done)
                  try simp only [Act.put, List.getElem_toArray, List.getElem_cons_succ, List.getElem_cons_zero, List.setIfInBounds_toArray, List.set_cons_zero, List.set_cons_succ]
                  refine wpAny_ready (rs := [13]) (by kernel_rfl) (by simp) ?_
                  refine AllReady.cons rfl (fun K hK => ?_) ?_
                  · skip
                    go_simp
                    refine hK _ _ ?_
                    clear hK K
                    try simp only [Act.put, List.getElem_toArray, List.getElem_cons_succ, List.getElem_cons_zero, List.setIfInBounds_toArray, List.set_cons_zero, List.set_cons_succ]
                    refine wpAny_take (i := 14) (v := ?_) rfl (by kernel_rfl) (by kernel_rfl) (by kernel_rfl) (fun _ _ _ h => h) (Or.inl ⟨by rfl, ?_⟩) ?_
                    rotate_left 1
                    focus ((intro w; go_simp; (try with_reducible rfl)); done)
                    try simp only [Act.put, List.getElem_toArray, List.getElem_cons_succ, List.getElem_cons_zero, List.setIfInBounds_toArray, List.set_cons_zero, List.set_cons_succ]
                    refine wpAny_take (i := 15) (v := ?_) rfl (by kernel_rfl) (by kernel_rfl) (by kernel_rfl) (fun _ _ _ h => h) (Or.inl ⟨by rfl, ?_⟩) ?_
                    rotate_left 1
                    focus ((intro w; go_simp; (try with_reducible rfl)); done)
                    try simp only [Act.put, List.getElem_toArray, List.getElem_cons_succ, List.getElem_cons_zero, List.setIfInBounds_toArray, List.set_cons_zero, List.set_cons_succ]
                    refine wpAny_ready (rs := [16]) (by kernel_rfl) (by simp) ?_
                    refine AllReady.cons rfl (fun K hK => ?_) ?_
                    · skip
                      go_simp
                      refine hK _ _ ?_
                      clear hK K
                      try simp only [Act.put, List.getElem_toArray, List.getElem_cons_succ, List.getElem_cons_zero, List.setIfInBounds_toArray, List.set_cons_zero, List.set_cons_succ]
                      refine wpAny_ready (rs := [17]) (by kernel_rfl) (by simp) ?_
                      refine AllReady.cons rfl (fun K hK => ?_) ?_
                      · skip
                        refine step_append_cells _ rfl (.tmp 45) (.tmp 58) 93 rfl (w.heap.size + 3) 64 i0 .nilIface 1 16 Try.underlying93 hi hz0 hz1 hz2 rfl (by decide) (.slice (some ⟨g2, 0, none⟩) k cp) k (r.reverse.map trVal) rfl (hlD.alloc _) (some ⟨W.heap.size, 0, none⟩) 1 1 (fun _ => .iface 75 (.agg #[.iface ta va, .iface tb vb])) rfl (cells_lit1 (by simp)) (fun _ _ => by simp [Value.oneCell']) (by unfold maxLen; omega) (by omega) (by simp; omega) ?_
                        intro v' w1 hown' hgrow _
                        obtain ⟨g', cap', rfl⟩ := ownsRow_succ hown'
                        have hg' : (W.drew.alloc (.cells #[.iface 75 (.agg #[.iface ta va, .iface tb vb])] 64)).grownBy w1 (some g2) := hgrow
                        obtain ⟨hv1, hv2, hr2, hk2, hb2⟩ := hvD.appended (by decide) hrD (by simp; omega) (by omega) hown' hg'
                        have hS1 : Boxed w1 (w.heap.size + 5) 22 (.slice A n c) := (hSD.alloc _).kept hg' (hSD.not_row (by decide) hrD)
                        clear hgrow
                        have hc1 := hv1.cell
                        have hf1 := hv1.frozen
                        refine hK _ _ ?_
                        clear hK K
                        try simp only [Act.put, List.getElem_toArray, List.getElem_cons_succ, List.getElem_cons_zero, List.setIfInBounds_toArray, List.set_cons_zero, List.set_cons_succ]
                        refine wpAny_ready (rs := [18]) (by kernel_rfl) (by simp) ?_
                        refine AllReady.cons rfl (fun K hK => ?_) ?_
                        · skip
                          go_simp
                          refine hK _ _ ?_
                          clear hK K
                          try simp only [Act.put, List.getElem_toArray, List.getElem_cons_succ, List.getElem_cons_zero, List.setIfInBounds_toArray, List.set_cons_zero, List.set_cons_succ]
                          refine wpAny_done (by kernel_rfl) ?_ _
                          have hBl : Below w.heap.size W _ := Below.trans ((Below.refl _ W).drew) (hb2.mono (by omega))
                          have hS2 := hS1.other (B' := w.heap.size + 4) (by omega) (.slice (some ⟨g', 0, none⟩) (k + 1) cap')
                          gi_wp2
                          refine ⟨((KeepsOthers.drew W).trans hk2).from _, kpB_of hBl hS hS2, ⟨⟨⟨_, hv2, ?_, ?_⟩, boxLow hL (Below.trans ((Below.refl _ W).drew) hb2) (by omega), boxLow hR (Below.trans ((Below.refl _ W).drew) hb2) (by omega), boxLow hO (Below.trans ((Below.refl _ W).drew) hb2) (by omega), hS2⟩, hBW.trans hBl⟩⟩
                          · have e3 : stT l (pre ++ [x]) = .br a b :: r := by unfold stT; rw [HEN.out, HX.out, stkStep_neg]; rfl
                            have e4 : stV l (pre ++ [x]) = r.reverse.map trVal ++ [trVal (.br a b)] := by unfold stV; rw [e3]; simp
                            rw [e3, e4, show (Tr.br a b :: r).length = k + 1 by simp [hk'.out]]
                            rw [EB.out]
                            simpa [listV] using hr2
                          · rw [HEN.out, HX.out, stkStep_neg]; rfl
                        exact AllReady.nil
                      exact AllReady.nil
                    exact AllReady.nil
                  exact AllReady.nil
                refine AllReady.cons rfl (fun K hK => ?_) ?_
                · skip
                  go_simp
                  refine hK _ _ ?_
                  clear hK K
                  try simp only [Act.put, List.getElem_toArray, List.getElem_cons_succ, List.getElem_cons_zero, List.setIfInBounds_toArray, List.set_cons_zero, List.set_cons_succ]
                  refine wpAny_take (i := 14) (v := ?_) rfl (by kernel_rfl) (by kernel_rfl) (by kernel_rfl) (fun _ _ _ h => h) (Or.inl ⟨by rfl, ?_⟩) ?_
                  rotate_left 1
                  focus ((intro w; go_simp; (try with_reducible rfl)); done)
                  try simp only [Act.put, List.getElem_toArray, List.getElem_cons_succ, List.getElem_cons_zero, List.setIfInBounds_toArray, List.set_cons_zero, List.set_cons_succ]
                  refine wpAny_take (i := 15) (v := ?_) rfl (by kernel_rfl) (by kernel_rfl) (by kernel_rfl) (fun _ _ _ h => h) (Or.inl ⟨by rfl, ?_⟩) ?_
                  rotate_left 1
                  focus ((intro w; go_simp; (try with_reducible rfl)); done)
                  try simp only [Act.put, List.getElem_toArray, List.getElem_cons_succ, List.getElem_cons_zero, List.setIfInBounds_toArray, List.set_cons_zero, List.set_cons_succ]
                  refine wpAny_ready (rs := [0, 16]) (by kernel_rfl) (by simp) ?_
                  refine AllReady.cons rfl (fun K hK => ?_) ?_
                  · skip
                    go_simp
                    refine hK _ _ ?_
                    clear hK K
                    try simp only [Act.put, List.getElem_toArray, List.getElem_cons_succ, List.getElem_cons_zero, List.setIfInBounds_toArray, List.set_cons_zero, List.set_cons_succ]
                    refine wpAny_take (i := 3) (v := ?_) rfl (by kernel_rfl) (by kernel_rfl) (by kernel_rfl) (fun _ _ _ h => h) (Or.inl ⟨by rfl, ?_⟩) ?_
                    rotate_left 1
                    focus ((intro w; go_simp; (try with_reducible rfl)); done)
                    try simp only [Act.put, List.getElem_toArray, List.getElem_cons_succ, List.getElem_cons_zero, List.setIfInBounds_toArray, List.set_cons_zero, List.set_cons_succ]
                    refine wpAny_ready (rs := [16]) (by kernel_rfl) (by simp) ?_
                    refine AllReady.cons rfl (fun K hK => ?_) ?_
                    · skip
                      go_simp
                      refine hK _ _ ?_
                      clear hK K
                      try simp only [Act.put, List.getElem_toArray, List.getElem_cons_succ, List.getElem_cons_zero, List.setIfInBounds_toArray, List.set_cons_zero, List.set_cons_succ]
                      refine wpAny_ready (rs := [17]) (by kernel_rfl) (by simp) ?_
                      refine AllReady.cons rfl (fun K hK => ?_) ?_
                      · skip
                        refine step_append_cells _ rfl (.tmp 45) (.tmp 58) 93 rfl (w.heap.size + 3) 64 i0 .nilIface 1 16 Try.underlying93 hi hz0 hz1 hz2 rfl (by decide) (.slice (some ⟨g2, 0, none⟩) k cp) k (r.reverse.map trVal) rfl (hlD.alloc _) (some ⟨W.heap.size, 0, none⟩) 1 1 (fun _ => .iface 75 (.agg #[.iface ta va, .iface tb vb])) rfl (cells_lit1 (by simp)) (fun _ _ => by simp [Value.oneCell']) (by unfold maxLen; omega) (by omega) (by simp; omega) ?_
                        intro v' w1 hown' hgrow _
                        obtain ⟨g', cap', rfl⟩ := ownsRow_succ hown'
                        have hg' : (W.drew.alloc (.cells #[.iface 75 (.agg #[.iface ta va, .iface tb vb])] 64)).grownBy w1 (some g2) := hgrow
                        obtain ⟨hv1, hv2, hr2, hk2, hb2⟩ := hvD.appended (by decide) hrD (by simp; omega) (by omega) hown' hg'
                        have hS1 : Boxed w1 (w.heap.size + 5) 22 (.slice A n c) := (hSD.alloc _).kept hg' (hSD.not_row (by decide) hrD)
                        clear hgrow
                        have hc1 := hv1.cell
                        have hf1 := hv1.frozen
                        refine hK _ _ ?_
                        clear hK K
                        try simp only [Act.put, List.getElem_toArray, List.getElem_cons_succ, List.getElem_cons_zero, List.setIfInBounds_toArray, List.set_cons_zero, List.set_cons_succ]
                        refine wpAny_ready (rs := [18]) (by kernel_rfl) (by simp) ?_
                        refine AllReady.cons rfl (fun K hK => ?_) ?_
                        · skip
                          go_simp
                          refine hK _ _ ?_
                          clear hK K
                          try simp only [Act.put, List.getElem_toArray, List.getElem_cons_succ, List.getElem_cons_zero, List.setIfInBounds_toArray, List.set_cons_zero, List.set_cons_succ]
                          refine wpAny_done (by kernel_rfl) ?_ _
                          have hBl : Below w.heap.size W _ := Below.trans ((Below.refl _ W).drew) (hb2.mono (by omega))
                          have hS2 := hS1.other (B' := w.heap.size + 4) (by omega) (.slice (some ⟨g', 0, none⟩) (k + 1) cap')
                          gi_wp2
                          refine ⟨((KeepsOthers.drew W).trans hk2).from _, kpB_of hBl hS hS2, ⟨⟨⟨_, hv2, ?_, ?_⟩, boxLow hL (Below.trans ((Below.refl _ W).drew) hb2) (by omega), boxLow hR (Below.trans ((Below.refl _ W).drew) hb2) (by omega), boxLow hO (Below.trans ((Below.refl _ W).drew) hb2) (by omega), hS2⟩, hBW.trans hBl⟩⟩
                          · have e3 : stT l (pre ++ [x]) = .br a b :: r := by unfold stT; rw [HEN.out, HX.out, stkStep_neg]; rfl
                            have e4 : stV l (pre ++ [x]) = r.reverse.map trVal ++ [trVal (.br a b)] := by unfold stV; rw [e3]; simp
                            rw [e3, e4, show (Tr.br a b :: r).length = k + 1 by simp [hk'.out]]
                            rw [EB.out]
                            simpa [listV] using hr2
                          · rw [HEN.out, HX.out, stkStep_neg]; rfl
                        exact AllReady.nil
                      exact AllReady.nil
                    exact AllReady.nil
                  refine AllReady.cons rfl (fun K hK => ?_) ?_
                  · skip
                    go_simp
                    refine hK _ _ ?_
                    clear hK K
                    try simp only [Act.put, List.getElem_toArray, List.getElem_cons_succ, List.getElem_cons_zero, List.setIfInBounds_toArray, List.set_cons_zero, List.set_cons_succ]
                    refine wpAny_ready (rs := [0]) (by kernel_rfl) (by simp) ?_
                    refine AllReady.cons rfl (fun K hK => ?_) ?_
                    · skip
                      go_simp
                      refine hK _ _ ?_
                      clear hK K
                      try simp only [Act.put, List.getElem_toArray, List.getElem_cons_succ, List.getElem_cons_zero, List.setIfInBounds_toArray, List.set_cons_zero, List.set_cons_succ]
                      refine wpAny_take (i := 3) (v := ?_) rfl (by kernel_rfl) (by kernel_rfl) (by kernel_rfl) (fun _ _ _ h => h) (Or.inl ⟨by rfl, ?_⟩) ?_
                      rotate_left 1
                      focus ((intro w; go_simp; (try with_reducible rfl)); done)
                      try simp only [Act.put, List.getElem_toArray, List.getElem_cons_succ, List.getElem_cons_zero, List.setIfInBounds_toArray, List.set_cons_zero, List.set_cons_succ]
                      refine wpAny_ready (rs := [17]) (by kernel_rfl) (by simp) ?_
                      refine AllReady.cons rfl (fun K hK => ?_) ?_
                      · skip
                        refine step_append_cells _ rfl (.tmp 45) (.tmp 58) 93 rfl (w.heap.size + 3) 64 i0 .nilIface 1 16 Try.underlying93 hi hz0 hz1 hz2 rfl (by decide) (.slice (some ⟨g2, 0, none⟩) k cp) k (r.reverse.map trVal) rfl (hlD.alloc _) (some ⟨W.heap.size, 0, none⟩) 1 1 (fun _ => .iface 75 (.agg #[.iface ta va, .iface tb vb])) rfl (cells_lit1 (by simp)) (fun _ _ => by simp [Value.oneCell']) (by unfold maxLen; omega) (by omega) (by simp; omega) ?_
                        intro v' w1 hown' hgrow _
                        obtain ⟨g', cap', rfl⟩ := ownsRow_succ hown'
                        have hg' : (W.drew.alloc (.cells #[.iface 75 (.agg #[.iface ta va, .iface tb vb])] 64)).grownBy w1 (some g2) := hgrow
                        obtain ⟨hv1, hv2, hr2, hk2, hb2⟩ := hvD.appended (by decide) hrD (by simp; omega) (by omega) hown' hg'
                        have hS1 : Boxed w1 (w.heap.size + 5) 22 (.slice A n c) := (hSD.alloc _).kept hg' (hSD.not_row (by decide) hrD)
                        clear hgrow
                        have hc1 := hv1.cell
                        have hf1 := hv1.frozen
                        refine hK _ _ ?_
                        clear hK K
                        try simp only [Act.put, List.getElem_toArray, List.getElem_cons_succ, List.getElem_cons_zero, List.setIfInBounds_toArray, List.set_cons_zero, List.set_cons_succ]
                        refine wpAny_ready (rs := [18]) (by kernel_rfl) (by simp) ?_
                        refine AllReady.cons rfl (fun K hK => ?_) ?_
                        · skip
                          go_simp
                          refine hK _ _ ?_
                          clear hK K
                          try simp only [Act.put, List.getElem_toArray, List.getElem_cons_succ, List.getElem_cons_zero, List.setIfInBounds_toArray, List.set_cons_zero, List.set_cons_succ]
                          refine wpAny_done (by kernel_rfl) ?_ _
                          have hBl : Below w.heap.size W _ := Below.trans ((Below.refl _ W).drew) (hb2.mono (by omega))
                          have hS2 := hS1.other (B' := w.heap.size + 4) (by omega) (.slice (some ⟨g', 0, none⟩) (k + 1) cap')
                          gi_wp2
                          refine ⟨((KeepsOthers.drew W).trans hk2).from _, kpB_of hBl hS hS2, ⟨⟨⟨_, hv2, ?_, ?_⟩, boxLow hL (Below.trans ((Below.refl _ W).drew) hb2) (by omega), boxLow hR (Below.trans ((Below.refl _ W).drew) hb2) (by omega), boxLow hO (Below.trans ((Below.refl _ W).drew) hb2) (by omega), hS2⟩, hBW.trans hBl⟩⟩
                          · have e3 : stT l (pre ++ [x]) = .br a b :: r := by unfold stT; rw [HEN.out, HX.out, stkStep_neg]; rfl
                            have e4 : stV l (pre ++ [x]) = r.reverse.map trVal ++ [trVal (.br a b)] := by unfold stV; rw [e3]; simp
                            rw [e3, e4, show (Tr.br a b :: r).length = k + 1 by simp [hk'.out]]
                            rw [EB.out]
                            simpa [listV] using hr2
                          · rw [HEN.out, HX.out, stkStep_neg]; rfl
                        exact AllReady.nil
                      exact AllReady.nil
                    exact AllReady.nil
                  exact AllReady.nil
                exact AllReady.nil
              refine AllReady.cons rfl (fun K hK => ?_) ?_
              · skip
                go_simp
                refine hK _ _ ?_
                clear hK K
                try simp only [Act.put, List.getElem_toArray, List.getElem_cons_succ, List.getElem_cons_zero, List.setIfInBounds_toArray, List.set_cons_zero, List.set_cons_succ]
                refine wpAny_ready (rs := [0, 8]) (by kernel_rfl) (by simp) ?_
                refine AllReady.cons rfl (fun K hK => ?_) ?_
                · skip
                  go_simp
                  refine hK _ _ ?_
                  clear hK K
                  try simp only [Act.put, List.getElem_toArray, List.getElem_cons_succ, List.getElem_cons_zero, List.setIfInBounds_toArray, List.set_cons_zero, List.set_cons_succ]
                  refine wpAny_take (i := 3) (v := ?_) rfl (by kernel_rfl) (by kernel_rfl) (by kernel_rfl) (fun _ _ _ h => h) (Or.inl ⟨by rfl, ?_⟩) ?_
                  rotate_left 1
                  focus ((intro w; go_simp; (try with_reducible rfl)); done)
                  try simp only [Act.put, List.getElem_toArray, List.getElem_cons_succ, List.getElem_cons_zero, List.setIfInBounds_toArray, List.set_cons_zero, List.set_cons_succ]
                  refine wpAny_ready (rs := [8]) (by kernel_rfl) (by simp) ?_
                  refine AllReady.cons rfl (fun K hK => ?_) ?_
                  · skip
                    go_simp
                    refine hK _ _ ?_
                    clear hK K
                    try simp only [Act.put, List.getElem_toArray, List.getElem_cons_succ, List.getElem_cons_zero, List.setIfInBounds_toArray, List.set_cons_zero, List.set_cons_succ]
                    refine wpAny_take (i := 14) (v := ?_) rfl (by kernel_rfl) (by kernel_rfl) (by kernel_rfl) (fun _ _ _ h => h) (Or.inl ⟨by rfl, ?_⟩) ?_
                    rotate_left 1
                    focus ((intro w; go_simp; (try with_reducible rfl)); done)
                    try simp only [Act.put, List.getElem_toArray, List.getElem_cons_succ, List.getElem_cons_zero, List.setIfInBounds_toArray, List.set_cons_zero, List.set_cons_succ]
                    refine wpAny_take (i := 15) (v := ?_) rfl (by kernel_rfl) (by kernel_rfl) (by kernel_rfl) (fun _ _ _ h => h) (Or.inl ⟨by rfl, ?_⟩) ?_
                    rotate_left 1
                    focus ((intro w; go_simp; (try with_reducible rfl)); done)
                    try simp only [Act.put, List.getElem_toArray, List.getElem_cons_succ, List.getElem_cons_zero, List.setIfInBounds_toArray, List.set_cons_zero, List.set_cons_succ]
                    refine wpAny_ready (rs := [16]) (by kernel_rfl) (by simp) ?_
                    refine AllReady.cons rfl (fun K hK => ?_) ?_
                    · skip
                      go_simp
                      refine hK _ _ ?_
                      clear hK K
                      try simp only [Act.put, List.getElem_toArray, List.getElem_cons_succ, List.getElem_cons_zero, List.setIfInBounds_toArray, List.set_cons_zero, List.set_cons_succ]
                      refine wpAny_ready (rs := [17]) (by kernel_rfl) (by simp) ?_
                      refine AllReady.cons rfl (fun K hK => ?_) ?_
                      · skip
                        refine step_append_cells _ rfl (.tmp 45) (.tmp 58) 93 rfl (w.heap.size + 3) 64 i0 .nilIface 1 16 Try.underlying93 hi hz0 hz1 hz2 rfl (by decide) (.slice (some ⟨g2, 0, none⟩) k cp) k (r.reverse.map trVal) rfl (hlD.alloc _) (some ⟨W.heap.size, 0, none⟩) 1 1 (fun _ => .iface 75 (.agg #[.iface ta va, .iface tb vb])) rfl (cells_lit1 (by simp)) (fun _ _ => by simp [Value.oneCell']) (by unfold maxLen; omega) (by omega) (by simp; omega) ?_
                        intro v' w1 hown' hgrow _
                        obtain ⟨g', cap', rfl⟩ := ownsRow_succ hown'
                        have hg' : (W.drew.alloc (.cells #[.iface 75 (.agg #[.iface ta va, .iface tb vb])] 64)).grownBy w1 (some g2) := hgrow
                        obtain ⟨hv1, hv2, hr2, hk2, hb2⟩ := hvD.appended (by decide) hrD (by simp; omega) (by omega) hown' hg'
                        have hS1 : Boxed w1 (w.heap.size + 5) 22 (.slice A n c) := (hSD.alloc _).kept hg' (hSD.not_row (by decide) hrD)
                        clear hgrow
                        have hc1 := hv1.cell
                        have hf1 := hv1.frozen
                        refine hK _ _ ?_
                        clear hK K
                        try simp only [Act.put, List.getElem_toArray, List.getElem_cons_succ, List.getElem_cons_zero, List.setIfInBounds_toArray, List.set_cons_zero, List.set_cons_succ]
                        refine wpAny_ready (rs := [18]) (by kernel_rfl) (by simp) ?_
                        refine AllReady.cons rfl (fun K hK => ?_) ?_
                        · skip
                          go_simp
                          refine hK _ _ ?_
                          clear hK K
                          try simp only [Act.put, List.getElem_toArray, List.getElem_cons_succ, List.getElem_cons_zero, List.setIfInBounds_toArray, List.set_cons_zero, List.set_cons_succ]
                          refine wpAny_done (by kernel_rfl) ?_ _
                          have hBl : Below w.heap.size W _ := Below.trans ((Below.refl _ W).drew) (hb2.mono (by omega))
                          have hS2 := hS1.other (B' := w.heap.size + 4) (by omega) (.slice (some ⟨g', 0, none⟩) (k + 1) cap')
                          gi_wp2
                          refine ⟨((KeepsOthers.drew W).trans hk2).from _, kpB_of hBl hS hS2, ⟨⟨⟨_, hv2, ?_, ?_⟩, boxLow hL (Below.trans ((Below.refl _ W).drew) hb2) (by omega), boxLow hR (Below.trans ((Below.refl _ W).drew) hb2) (by omega), boxLow hO (Below.trans ((Below.refl _ W).drew) hb2) (by omega), hS2⟩, hBW.trans hBl⟩⟩
                          · have e3 : stT l (pre ++ [x]) = .br a b :: r := by unfold stT; rw [HEN.out, HX.out, stkStep_neg]; rfl
                            have e4 : stV l (pre ++ [x]) = r.reverse.map trVal ++ [trVal (.br a b)] := by unfold stV; rw [e3]; simp
                            rw [e3, e4, show (Tr.br a b :: r).length = k + 1 by simp [hk'.out]]
                            rw [EB.out]
                            simpa [listV] using hr2
                          · rw [HEN.out, HX.out, stkStep_neg]; rfl
                        exact AllReady.nil
                      exact AllReady.nil
                    exact AllReady.nil
                  exact AllReady.nil
                refine AllReady.cons rfl (fun K hK => ?_) ?_
                · skip
                  go_simp
                  refine hK _ _ ?_
                  clear hK K
                  try simp only [Act.put, List.getElem_toArray, List.getElem_cons_succ, List.getElem_cons_zero, List.setIfInBounds_toArray, List.set_cons_zero, List.set_cons_succ]
                  refine wpAny_take (i := 14) (v := ?_) rfl (by kernel_rfl) (by kernel_rfl) (by kernel_rfl) (fun _ _ _ h => h) (Or.inl ⟨by rfl, ?_⟩) ?_
                  rotate_left 1
                  focus ((intro w; go_simp; (try with_reducible rfl)); done)
                  try simp only [Act.put, List.getElem_toArray, List.getElem_cons_succ, List.getElem_cons_zero, List.setIfInBounds_toArray, List.set_cons_zero, List.set_cons_succ]
                  refine wpAny_take (i := 15) (v := ?_) rfl (by kernel_rfl) (by kernel_rfl) (by kernel_rfl) (fun _ _ _ h => h) (Or.inl ⟨by rfl, ?_⟩) ?_
                  rotate_left 1
                  focus ((intro w; go_simp; (try with_reducible rfl)); done)
                  try simp only [Act.put, List.getElem_toArray, List.getElem_cons_succ, List.getElem_cons_zero, List.setIfInBounds_toArray, List.set_cons_zero, List.set_cons_succ]
                  refine wpAny_ready (rs := [0, 16]) (by kernel_rfl) (by simp) ?_
                  refine AllReady.cons rfl (fun K hK => ?_) ?_
                  · skip
                    go_simp
                    refine hK _ _ ?_
                    clear hK K
                    try simp only [Act.put, List.getElem_toArray, List.getElem_cons_succ, List.getElem_cons_zero, List.setIfInBounds_toArray, List.set_cons_zero, List.set_cons_succ]
                    refine wpAny_take (i := 3) (v := ?_) rfl (by kernel_rfl) (by kernel_rfl) (by kernel_rfl) (fun _ _ _ h => h) (Or.inl ⟨by rfl, ?_⟩) ?_
                    rotate_left 1
                    focus ((intro w; go_simp; (try with_reducible rfl)); done)
                    try simp only [Act.put, List.getElem_toArray, List.getElem_cons_succ, List.getElem_cons_zero, List.setIfInBounds_toArray, List.set_cons_zero, List.set_cons_succ]
                    refine wpAny_ready (rs := [16]) (by kernel_rfl) (by simp) ?_
                    refine AllReady.cons rfl (fun K hK => ?_) ?_
                    · skip
                      go_simp
                      refine hK _ _ ?_
                      clear hK K
                      try simp only [Act.put, List.getElem_toArray, List.getElem_cons_succ, List.getElem_cons_zero, List.setIfInBounds_toArray, List.set_cons_zero, List.set_cons_succ]
                      refine wpAny_ready (rs := [17]) (by kernel_rfl) (by simp) ?_
                      refine AllReady.cons rfl (fun K hK => ?_) ?_
                      · skip
                        refine step_append_cells _ rfl (.tmp 45) (.tmp 58) 93 rfl (w.heap.size + 3) 64 i0 .nilIface 1 16 Try.underlying93 hi hz0 hz1 hz2 rfl (by decide) (.slice (some ⟨g2, 0, none⟩) k cp) k (r.reverse.map trVal) rfl (hlD.alloc _) (some ⟨W.heap.size, 0, none⟩) 1 1 (fun _ => .iface 75 (.agg #[.iface ta va, .iface tb vb])) rfl (cells_lit1 (by simp)) (fun _ _ => by simp [Value.oneCell']) (by unfold maxLen; omega) (by omega) (by simp; omega) ?_
                        intro v' w1 hown' hgrow _
                        obtain ⟨g', cap', rfl⟩ := ownsRow_succ hown'
                        have hg' : (W.drew.alloc (.cells #[.iface 75 (.agg #[.iface ta va, .iface tb vb])] 64)).grownBy w1 (some g2) := hgrow
                        obtain ⟨hv1, hv2, hr2, hk2, hb2⟩ := hvD.appended (by decide) hrD (by simp; omega) (by omega) hown' hg'
                        have hS1 : Boxed w1 (w.heap.size + 5) 22 (.slice A n c) := (hSD.alloc _).kept hg' (hSD.not_row (by decide) hrD)
                        clear hgrow
                        have hc1 := hv1.cell
                        have hf1 := hv1.frozen
                        refine hK _ _ ?_
                        clear hK K
                        try simp only [Act.put, List.getElem_toArray, List.getElem_cons_succ, List.getElem_cons_zero, List.setIfInBounds_toArray, List.set_cons_zero, List.set_cons_succ]
                        refine wpAny_ready (rs := [18]) (by kernel_rfl) (by simp) ?_
                        refine AllReady.cons rfl (fun K hK => ?_) ?_
                        · skip
                          go_simp
                          refine hK _ _ ?_
                          clear hK K
                          try simp only [Act.put, List.getElem_toArray, List.getElem_cons_succ, List.getElem_cons_zero, List.setIfInBounds_toArray, List.set_cons_zero, List.set_cons_succ]
                          refine wpAny_done (by kernel_rfl) ?_ _
                          have hBl : Below w.heap.size W _ := Below.trans ((Below.refl _ W).drew) (hb2.mono (by omega))
                          have hS2 := hS1.other (B' := w.heap.size + 4) (by omega) (.slice (some ⟨g', 0, none⟩) (k + 1) cap')
                          gi_wp2
                          refine ⟨((KeepsOthers.drew W).trans hk2).from _, kpB_of hBl hS hS2, ⟨⟨⟨_, hv2, ?_, ?_⟩, boxLow hL (Below.trans ((Below.refl _ W).drew) hb2) (by omega), boxLow hR (Below.trans ((Below.refl _ W).drew) hb2) (by omega), boxLow hO (Below.trans ((Below.refl _ W).drew) hb2) (by omega), hS2⟩, hBW.trans hBl⟩⟩
                          · have e3 : stT l (pre ++ [x]) = .br a b :: r := by unfold stT; rw [HEN.out, HX.out, stkStep_neg]; rfl
                            have e4 : stV l (pre ++ [x]) = r.reverse.map trVal ++ [trVal (.br a b)] := by unfold stV; rw [e3]; simp
                            rw [e3, e4, show (Tr.br a b :: r).length = k + 1 by simp [hk'.out]]
                            rw [EB.out]
                            simpa [listV] using hr2
                          · rw [HEN.out, HX.out, stkStep_neg]; rfl
                        exact AllReady.nil
                      exact AllReady.nil
                    exact AllReady.nil
                  refine AllReady.cons rfl (fun K hK => ?_) ?_
                  · skip
                    go_simp
                    refine hK _ _ ?_
                    clear hK K
                    try simp only [Act.put, List.getElem_toArray, List.getElem_cons_succ, List.getElem_cons_zero, List.setIfInBounds_toArray, List.set_cons_zero, List.set_cons_succ]
                    refine wpAny_ready (rs := [0]) (by kernel_rfl) (by simp) ?_
                    refine AllReady.cons rfl (fun K hK => ?_) ?_
                    · skip
                      go_simp
                      refine hK _ _ ?_
                      clear hK K
                      try simp only [Act.put, List.getElem_toArray, List.getElem_cons_succ, List.getElem_cons_zero, List.setIfInBounds_toArray, List.set_cons_zero, List.set_cons_succ]
                      refine wpAny_take (i := 3) (v := ?_) rfl (by kernel_rfl) (by kernel_rfl) (by kernel_rfl) (fun _ _ _ h => h) (Or.inl ⟨by rfl, ?_⟩) ?_
                      rotate_left 1
                      focus ((intro w; go_simp; (try with_reducible rfl)); done)
                      try simp only [Act.put, List.getElem_toArray, List.getElem_cons_succ, List.getElem_cons_zero, List.setIfInBounds_toArray, List.set_cons_zero, List.set_cons_succ]
                      refine wpAny_ready (rs := [17]) (by kernel_rfl) (by simp) ?_
                      refine AllReady.cons rfl (fun K hK => ?_) ?_
                      · skip
                        refine step_append_cells _ rfl (.tmp 45) (.tmp 58) 93 rfl (w.heap.size + 3) 64 i0 .nilIface 1 16 Try.underlying93 hi hz0 hz1 hz2 rfl (by decide) (.slice (some ⟨g2, 0, none⟩) k cp) k (r.reverse.map trVal) rfl (hlD.alloc _) (some ⟨W.heap.size, 0, none⟩) 1 1 (fun _ => .iface 75 (.agg #[.iface ta va, .iface tb vb])) rfl (cells_lit1 (by simp)) (fun _ _ => by simp [Value.oneCell']) (by unfold maxLen; omega) (by omega) (by simp; omega) ?_
                        intro v' w1 hown' hgrow _
                        obtain ⟨g', cap', rfl⟩ := ownsRow_succ hown'
                        have hg' : (W.drew.alloc (.cells #[.iface 75 (.agg #[.iface ta va, .iface tb vb])] 64)).grownBy w1 (some g2) := hgrow
                        obtain ⟨hv1, hv2, hr2, hk2, hb2⟩ := hvD.appended (by decide) hrD (by simp; omega) (by omega) hown' hg'
                        have hS1 : Boxed w1 (w.heap.size + 5) 22 (.slice A n c) := (hSD.alloc _).kept hg' (hSD.not_row (by decide) hrD)
                        clear hgrow
                        have hc1 := hv1.cell
                        have hf1 := hv1.frozen
                        refine hK _ _ ?_
                        clear hK K
                        try simp only [Act.put, List.getElem_toArray, List.getElem_cons_succ, List.getElem_cons_zero, List.setIfInBounds_toArray, List.set_cons_zero, List.set_cons_succ]
                        refine wpAny_ready (rs := [18]) (by kernel_rfl) (by simp) ?_
                        refine AllReady.cons rfl (fun K hK => ?_) ?_
                        · skip
                          go_simp
                          refine hK _ _ ?_
                          clear hK K
                          try simp only [Act.put, List.getElem_toArray, List.getElem_cons_succ, List.getElem_cons_zero, List.setIfInBounds_toArray, List.set_cons_zero, List.set_cons_succ]
                          refine wpAny_done (by kernel_rfl) ?_ _
                          have hBl : Below w.heap.size W _ := Below.trans ((Below.refl _ W).drew) (hb2.mono (by omega))
                          have hS2 := hS1.other (B' := w.heap.size + 4) (by omega) (.slice (some ⟨g', 0, none⟩) (k + 1) cap')
                          gi_wp2
                          refine ⟨((KeepsOthers.drew W).trans hk2).from _, kpB_of hBl hS hS2, ⟨⟨⟨_, hv2, ?_, ?_⟩, boxLow hL (Below.trans ((Below.refl _ W).drew) hb2) (by omega), boxLow hR (Below.trans ((Below.refl _ W).drew) hb2) (by omega), boxLow hO (Below.trans ((Below.refl _ W).drew) hb2) (by omega), hS2⟩, hBW.trans hBl⟩⟩
                          · have e3 : stT l (pre ++ [x]) = .br a b :: r := by unfold stT; rw [HEN.out, HX.out, stkStep_neg]; rfl
                            have e4 : stV l (pre ++ [x]) = r.reverse.map trVal ++ [trVal (.br a b)] := by unfold stV; rw [e3]; simp
                            rw [e3, e4, show (Tr.br a b :: r).length = k + 1 by simp [hk'.out]]
                            rw [EB.out]
                            simpa [listV] using hr2
                          · rw [HEN.out, HX.out, stkStep_neg]; rfl
                        exact AllReady.nil
                      exact AllReady.nil
                    exact AllReady.nil
                  exact AllReady.nil
                exact AllReady.nil
              exact AllReady.nil
            refine AllReady.cons rfl (fun K hK => ?_) ?_
            · skip
              go_simp
              refine hK _ _ ?_
              clear hK K
              try simp only [Act.put, List.getElem_toArray, List.getElem_cons_succ, List.getElem_cons_zero, List.setIfInBounds_toArray, List.set_cons_zero, List.set_cons_succ]
              refine wpAny_ready (rs := [0, 4]) (by kernel_rfl) (by simp) ?_
              refine AllReady.cons rfl (fun K hK => ?_) ?_
              · skip
                go_simp
                refine hK _ _ ?_
                clear hK K
                try simp only [Act.put, List.getElem_toArray, List.getElem_cons_succ, List.getElem_cons_zero, List.setIfInBounds_toArray, List.set_cons_zero, List.set_cons_succ]
                refine wpAny_take (i := 3) (v := ?_) rfl (by kernel_rfl) (by kernel_rfl) (by kernel_rfl) (fun _ _ _ h => h) (Or.inl ⟨by rfl, ?_⟩) ?_
                rotate_left 1
                focus ((intro w; go_simp; (try with_reducible rfl)); done)
                try simp only [Act.put, List.getElem_toArray, List.getElem_cons_succ, List.getElem_cons_zero, List.setIfInBounds_toArray, List.set_cons_zero, List.set_cons_succ]
                refine wpAny_ready (rs := [4]) (by kernel_rfl) (by simp) ?_
                refine AllReady.cons rfl (fun K hK => ?_) ?_
                · skip
                  go_simp
                  refine hK _ _ ?_
                  clear hK K
                  try simp only [Act.put, List.getElem_toArray, List.getElem_cons_succ, List.getElem_cons_zero, List.setIfInBounds_toArray, List.set_cons_zero, List.set_cons_succ]
                  refine wpAny_take (i := 7) (v := ?_) rfl (by kernel_rfl) (by kernel_rfl) (by kernel_rfl) (fun _ _ _ h => h) (Or.inl ⟨by rfl, ?_⟩) ?_
                  rotate_left 1
                  focus ((intro w; go_simp; (try with_reducible rfl)); done)
                  try simp only [Act.put, List.getElem_toArray, List.getElem_cons_succ, List.getElem_cons_zero, List.setIfInBounds_toArray, List.set_cons_zero, List.set_cons_succ]
                  refine wpAny_ready (rs := [8]) (by kernel_rfl) (by simp) ?_
                  refine AllReady.cons rfl (fun K hK => ?_) ?_
                  · skip
                    go_simp
                    refine hK _ _ ?_
                    clear hK K
                    try simp only [Act.put, List.getElem_toArray, List.getElem_cons_succ, List.getElem_cons_zero, List.setIfInBounds_toArray, List.set_cons_zero, List.set_cons_succ]
                    refine wpAny_take (i := 14) (v := ?_) rfl (by kernel_rfl) (by kernel_rfl) (by kernel_rfl) (fun _ _ _ h => h) (Or.inl ⟨by rfl, ?_⟩) ?_
                    rotate_left 1
                    focus ((intro w; go_simp; (try with_reducible rfl)); done)
                    try simp only [Act.put, List.getElem_toArray, List.getElem_cons_succ, List.getElem_cons_zero, List.setIfInBounds_toArray, List.set_cons_zero, List.set_cons_succ]
                    refine wpAny_take (i := 15) (v := ?_) rfl (by kernel_rfl) (by kernel_rfl) (by kernel_rfl) (fun _ _ _ h => h) (Or.inl ⟨by rfl, ?_⟩) ?_
                    rotate_left 1
                    focus ((intro w; go_simp; (try with_reducible rfl)); done)
                    try simp only [Act.put, List.getElem_toArray, List.getElem_cons_succ, List.getElem_cons_zero, List.setIfInBounds_toArray, List.set_cons_zero, List.set_cons_succ]
                    refine wpAny_ready (rs := [16]) (by kernel_rfl) (by simp) ?_
                    refine AllReady.cons rfl (fun K hK => ?_) ?_
                    · skip
                      go_simp
                      refine hK _ _ ?_
                      clear hK K
                      try simp only [Act.put, List.getElem_toArray, List.getElem_cons_succ, List.getElem_cons_zero, List.setIfInBounds_toArray, List.set_cons_zero, List.set_cons_succ]
                      refine wpAny_ready (rs := [17]) (by kernel_rfl) (by simp) ?_
                      refine AllReady.cons rfl (fun K hK => ?_) ?_
                      · skip
                        refine step_append_cells _ rfl (.tmp 45) (.tmp 58) 93 rfl (w.heap.size + 3) 64 i0 .nilIface 1 16 Try.underlying93 hi hz0 hz1 hz2 rfl (by decide) (.slice (some ⟨g2, 0, none⟩) k cp) k (r.reverse.map trVal) rfl (hlD.alloc _) (some ⟨W.heap.size, 0, none⟩) 1 1 (fun _ => .iface 75 (.agg #[.iface ta va, .iface tb vb])) rfl (cells_lit1 (by simp)) (fun _ _ => by simp [Value.oneCell']) (by unfold maxLen; omega) (by omega) (by simp; omega) ?_
                        intro v' w1 hown' hgrow _
                        obtain ⟨g', cap', rfl⟩ := ownsRow_succ hown'
                        have hg' : (W.drew.alloc (.cells #[.iface 75 (.agg #[.iface ta va, .iface tb vb])] 64)).grownBy w1 (some g2) := hgrow
                        obtain ⟨hv1, hv2, hr2, hk2, hb2⟩ := hvD.appended (by decide) hrD (by simp; omega) (by omega) hown' hg'
                        have hS1 : Boxed w1 (w.heap.size + 5) 22 (.slice A n c) := (hSD.alloc _).kept hg' (hSD.not_row (by decide) hrD)
                        clear hgrow
                        have hc1 := hv1.cell
                        have hf1 := hv1.frozen
                        refine hK _ _ ?_
                        clear hK K
                        try simp only [Act.put, List.getElem_toArray, List.getElem_cons_succ, List.getElem_cons_zero, List.setIfInBounds_toArray, List.set_cons_zero, List.set_cons_succ]
                        refine wpAny_ready (rs := [18]) (by kernel_rfl) (by simp) ?_
                        refine AllReady.cons rfl (fun K hK => ?_) ?_
                        · skip
                          go_simp
                          refine hK _ _ ?_
                          clear hK K
                          try simp only [Act.put, List.getElem_toArray, List.getElem_cons_succ, List.getElem_cons_zero, List.setIfInBounds_toArray, List.set_cons_zero, List.set_cons_succ]
                          refine wpAny_done (by kernel_rfl) ?_ _
                          have hBl : Below w.heap.size W _ := Below.trans ((Below.refl _ W).drew) (hb2.mono (by omega))
                          have hS2 := hS1.other (B' := w.heap.size + 4) (by omega) (.slice (some ⟨g', 0, none⟩) (k + 1) cap')
                          gi_wp2
                          refine ⟨((KeepsOthers.drew W).trans hk2).from _, kpB_of hBl hS hS2, ⟨⟨⟨_, hv2, ?_, ?_⟩, boxLow hL (Below.trans ((Below.refl _ W).drew) hb2) (by omega), boxLow hR (Below.trans ((Below.refl _ W).drew) hb2) (by omega), boxLow hO (Below.trans ((Below.refl _ W).drew) hb2) (by omega), hS2⟩, hBW.trans hBl⟩⟩
                          · have e3 : stT l (pre ++ [x]) = .br a b :: r := by unfold stT; rw [HEN.out, HX.out, stkStep_neg]; rfl
                            have e4 : stV l (pre ++ [x]) = r.reverse.map trVal ++ [trVal (.br a b)] := by unfold stV; rw [e3]; simp
                            rw [e3, e4, show (Tr.br a b :: r).length = k + 1 by simp [hk'.out]]
                            rw [EB.out]
                            simpa [listV] using hr2
                          · rw [HEN.out, HX.out, stkStep_neg]; rfl
                        exact AllReady.nil
                      exact AllReady.nil
                    exact AllReady.nil
                  exact AllReady.nil
                exact AllReady.nil
              refine AllReady.cons rfl (fun K hK => ?_) ?_
              · skip
                go_simp
                refine hK _ _ ?_
                clear hK K
                try simp only [Act.put, List.getElem_toArray, List.getElem_cons_succ, List.getElem_cons_zero, List.setIfInBounds_toArray, List.set_cons_zero, List.set_cons_succ]
                refine wpAny_take (i := 7) (v := ?_) rfl (by kernel_rfl) (by kernel_rfl) (by kernel_rfl) (fun _ _ _ h => h) (Or.inl ⟨by rfl, ?_⟩) ?_
                rotate_left 1
                focus ((intro w; go_simp; (try with_reducible rfl)); done)
                try simp only [Act.put, List.getElem_toArray, List.getElem_cons_succ, List.getElem_cons_zero, List.setIfInBounds_toArray, List.set_cons_zero, List.set_cons_succ]
                refine wpAny_ready (rs := [0, 8]) (by kernel_rfl) (by simp) ?_
                refine AllReady.cons rfl (fun K hK => ?_) ?_
                · skip
                  go_simp
                  refine hK _ _ ?_
                  clear hK K
                  try simp only [Act.put, List.getElem_toArray, List.getElem_cons_succ, List.getElem_cons_zero, List.setIfInBounds_toArray, List.set_cons_zero, List.set_cons_succ]
                  refine wpAny_take (i := 3) (v := ?_) rfl (by kernel_rfl) (by kernel_rfl) (by kernel_rfl) (fun _ _ _ h => h) (Or.inl ⟨by rfl, ?_⟩) ?_
                  rotate_left 1
                  focus ((intro w; go_simp; (try with_reducible rfl)); done)
                  try simp only [Act.put, List.getElem_toArray, List.getElem_cons_succ, List.getElem_cons_zero, List.setIfInBounds_toArray, List.set_cons_zero, List.set_cons_succ]
                  refine wpAny_ready (rs := [8]) (by kernel_rfl) (by simp) ?_
                  refine AllReady.cons rfl (fun K hK => ?_) ?_
                  · skip
                    go_simp
                    refine hK _ _ ?_
                    clear hK K
                    try simp only [Act.put, List.getElem_toArray, List.getElem_cons_succ, List.getElem_cons_zero, List.setIfInBounds_toArray, List.set_cons_zero, List.set_cons_succ]
                    refine wpAny_take (i := 14) (v := ?_) rfl (by kernel_rfl) (by kernel_rfl) (by kernel_rfl) (fun _ _ _ h => h) (Or.inl ⟨by rfl, ?_⟩) ?_
                    rotate_left 1
                    focus ((intro w; go_simp; (try with_reducible rfl)); done)
                    try simp only [Act.put, List.getElem_toArray, List.getElem_cons_succ, List.getElem_cons_zero, List.setIfInBounds_toArray, List.set_cons_zero, List.set_cons_succ]
                    refine wpAny_take (i := 15) (v := ?_) rfl (by kernel_rfl) (by kernel_rfl) (by kernel_rfl) (fun _ _ _ h => h) (Or.inl ⟨by rfl, ?_⟩) ?_
                    rotate_left 1
                    focus ((intro w; go_simp; (try with_reducible rfl)); done)
                    try simp only [Act.put, List.getElem_toArray, List.getElem_cons_succ, List.getElem_cons_zero, List.setIfInBounds_toArray, List.set_cons_zero, List.set_cons_succ]
                    refine wpAny_ready (rs := [16]) (by kernel_rfl) (by simp) ?_
                    refine AllReady.cons rfl (fun K hK => ?_) ?_
                    · skip
                      go_simp
                      refine hK _ _ ?_
                      clear hK K
                      try simp only [Act.put, List.getElem_toArray, List.getElem_cons_succ, List.getElem_cons_zero, List.setIfInBounds_toArray, List.set_cons_zero, List.set_cons_succ]
                      refine wpAny_ready (rs := [17]) (by kernel_rfl) (by simp) ?_
                      refine AllReady.cons rfl (fun K hK => ?_) ?_
                      · skip
                        refine step_append_cells _ rfl (.tmp 45) (.tmp 58) 93 rfl (w.heap.size + 3) 64 i0 .nilIface 1 16 Try.underlying93 hi hz0 hz1 hz2 rfl (by decide) (.slice (some ⟨g2, 0, none⟩) k cp) k (r.reverse.map trVal) rfl (hlD.alloc _) (some ⟨W.heap.size, 0, none⟩) 1 1 (fun _ => .iface 75 (.agg #[.iface ta va, .iface tb vb])) rfl (cells_lit1 (by simp)) (fun _ _ => by simp [Value.oneCell']) (by unfold maxLen; omega) (by omega) (by simp; omega) ?_
                        intro v' w1 hown' hgrow _
                        obtain ⟨g', cap', rfl⟩ := ownsRow_succ hown'
                        have hg' : (W.drew.alloc (.cells #[.iface 75 (.agg #[.iface ta va, .iface tb vb])] 64)).grownBy w1 (some g2) := hgrow
                        obtain ⟨hv1, hv2, hr2, hk2, hb2⟩ := hvD.appended (by decide) hrD (by simp; omega) (by omega) hown' hg'
                        have hS1 : Boxed w1 (w.heap.size + 5) 22 (.slice A n c) := (hSD.alloc _).kept hg' (hSD.not_row (by decide) hrD)
                        clear hgrow
                        have hc1 := hv1.cell
                        have hf1 := hv1.frozen
                        refine hK _ _ ?_
                        clear hK K
                        try simp only [Act.put, List.getElem_toArray, List.getElem_cons_succ, List.getElem_cons_zero, List.setIfInBounds_toArray, List.set_cons_zero, List.set_cons_succ]
                        refine wpAny_ready (rs := [18]) (by kernel_rfl) (by simp) ?_
                        refine AllReady.cons rfl (fun K hK => ?_) ?_
                        · skip
                          go_simp
                          refine hK _ _ ?_
                          clear hK K
                          try simp only [Act.put, List.getElem_toArray, List.getElem_cons_succ, List.getElem_cons_zero, List.setIfInBounds_toArray, List.set_cons_zero, List.set_cons_succ]
                          refine wpAny_done (by kernel_rfl) ?_ _
                          have hBl : Below w.heap.size W _ := Below.trans ((Below.refl _ W).drew) (hb2.mono (by omega))
                          have hS2 := hS1.other (B' := w.heap.size + 4) (by omega) (.slice (some ⟨g', 0, none⟩) (k + 1) cap')
                          gi_wp2
                          refine ⟨((KeepsOthers.drew W).trans hk2).from _, kpB_of hBl hS hS2, ⟨⟨⟨_, hv2, ?_, ?_⟩, boxLow hL (Below.trans ((Below.refl _ W).drew) hb2) (by omega), boxLow hR (Below.trans ((Below.refl _ W).drew) hb2) (by omega), boxLow hO (Below.trans ((Below.refl _ W).drew) hb2) (by omega), hS2⟩, hBW.trans hBl⟩⟩
                          · have e3 : stT l (pre ++ [x]) = .br a b :: r := by unfold stT; rw [HEN.out, HX.out, stkStep_neg]; rfl
                            have e4 : stV l (pre ++ [x]) = r.reverse.map trVal ++ [trVal (.br a b)] := by unfold stV; rw [e3]; simp
                            rw [e3, e4, show (Tr.br a b :: r).length = k + 1 by simp [hk'.out]]
                            rw [EB.out]
                            simpa [listV] using hr2
                          · rw [HEN.out, HX.out, stkStep_neg]; rfl
                        exact AllReady.nil
                      exact AllReady.nil
                    exact AllReady.nil
                  exact AllReady.nil
                refine AllReady.cons rfl (fun K hK => ?_) ?_
                · skip
                  go_simp
                  refine hK _ _ ?_
                  clear hK K
                  try simp only [Act.put, List.getElem_toArray, List.getElem_cons_succ, List.getElem_cons_zero, List.setIfInBounds_toArray, List.set_cons_zero, List.set_cons_succ]
                  refine wpAny_take (i := 14) (v := ?_) rfl (by kernel_rfl) (by kernel_rfl) (by kernel_rfl) (fun _ _ _ h => h) (Or.inl ⟨by rfl, ?_⟩) ?_
                  rotate_left 1
                  focus ((intro w; go_simp; (try with_reducible rfl)); done)
                  try simp only [Act.put, List.getElem_toArray, List.getElem_cons_succ, List.getElem_cons_zero, List.setIfInBounds_toArray, List.set_cons_zero, List.set_cons_succ]
                  refine wpAny_take (i := 15) (v := ?_) rfl (by kernel_rfl) (by kernel_rfl) (by kernel_rfl) (fun _ _ _ h => h) (Or.inl ⟨by rfl, ?_⟩) ?_
                  rotate_left 1
                  focus ((intro w; go_simp; (try with_reducible rfl)); done)
                  try simp only [Act.put, List.getElem_toArray, List.getElem_cons_succ, List.getElem_cons_zero, List.setIfInBounds_toArray, List.set_cons_zero, List.set_cons_succ]
                  refine wpAny_ready (rs := [0, 16]) (by kernel_rfl) (by simp) ?_
                  refine AllReady.cons rfl (fun K hK => ?_) ?_
                  · skip
                    go_simp
                    refine hK _ _ ?_
                    clear hK K
                    try simp only [Act.put, List.getElem_toArray, List.getElem_cons_succ, List.getElem_cons_zero, List.setIfInBounds_toArray, List.set_cons_zero, List.set_cons_succ]
                    refine wpAny_take (i := 3) (v := ?_) rfl (by kernel_rfl) (by kernel_rfl) (by kernel_rfl) (fun _ _ _ h => h) (Or.inl ⟨by rfl, ?_⟩) ?_
                    rotate_left 1
                    focus ((intro w; go_simp; (try with_reducible rfl)); done)
                    try simp only [Act.put, List.getElem_toArray, List.getElem_cons_succ, List.getElem_cons_zero, List.setIfInBounds_toArray, List.set_cons_zero, List.set_cons_succ]
                    refine wpAny_ready (rs := [16]) (by kernel_rfl) (by simp) ?_
                    refine AllReady.cons rfl (fun K hK => ?_) ?_
                    · skip
                      go_simp
                      refine hK _ _ ?_
                      clear hK K
                      try simp only [Act.put, List.getElem_toArray, List.getElem_cons_succ, List.getElem_cons_zero, List.setIfInBounds_toArray, List.set_cons_zero, List.set_cons_succ]
                      refine wpAny_ready (rs := [17]) (by kernel_rfl) (by simp) ?_
                      refine AllReady.cons rfl (fun K hK => ?_) ?_
                      · skip
                        refine step_append_cells _ rfl (.tmp 45) (.tmp 58) 93 rfl (w.heap.size + 3) 64 i0 .nilIface 1 16 Try.underlying93 hi hz0 hz1 hz2 rfl (by decide) (.slice (some ⟨g2, 0, none⟩) k cp) k (r.reverse.map trVal) rfl (hlD.alloc _) (some ⟨W.heap.size, 0, none⟩) 1 1 (fun _ => .iface 75 (.agg #[.iface ta va, .iface tb vb])) rfl (cells_lit1 (by simp)) (fun _ _ => by simp [Value.oneCell']) (by unfold maxLen; omega) (by omega) (by simp; omega) ?_
                        intro v' w1 hown' hgrow _
                        obtain ⟨g', cap', rfl⟩ := ownsRow_succ hown'
                        have hg' : (W.drew.alloc (.cells #[.iface 75 (.agg #[.iface ta va, .iface tb vb])] 64)).grownBy w1 (some g2) := hgrow
                        obtain ⟨hv1, hv2, hr2, hk2, hb2⟩ := hvD.appended (by decide) hrD (by simp; omega) (by omega) hown' hg'
                        have hS1 : Boxed w1 (w.heap.size + 5) 22 (.slice A n c) := (hSD.alloc _).kept hg' (hSD.not_row (by decide) hrD)
                        clear hgrow
                        have hc1 := hv1.cell
                        have hf1 := hv1.frozen
                        refine hK _ _ ?_
                        clear hK K
                        try simp only [Act.put, List.getElem_toArray, List.getElem_cons_succ, List.getElem_cons_zero, List.setIfInBounds_toArray, List.set_cons_zero, List.set_cons_succ]
                        refine wpAny_ready (rs := [18]) (by kernel_rfl) (by simp) ?_
                        refine AllReady.cons rfl (fun K hK => ?_) ?_
                        · skip
                          go_simp
                          refine hK _ _ ?_
                          clear hK K
                          try simp only [Act.put, List.getElem_toArray, List.getElem_cons_succ, List.getElem_cons_zero, List.setIfInBounds_toArray, List.set_cons_zero, List.set_cons_succ]
                          refine wpAny_done (by kernel_rfl) ?_ _
                          have hBl : Below w.heap.size W _ := Below.trans ((Below.refl _ W).drew) (hb2.mono (by omega))
                          have hS2 := hS1.other (B' := w.heap.size + 4) (by omega) (.slice (some ⟨g', 0, none⟩) (k + 1) cap')
                          gi_wp2
                          refine ⟨((KeepsOthers.drew W).trans hk2).from _, kpB_of hBl hS hS2, ⟨⟨⟨_, hv2, ?_, ?_⟩, boxLow hL (Below.trans ((Below.refl _ W).drew) hb2) (by omega), boxLow hR (Below.trans ((Below.refl _ W).drew) hb2) (by omega), boxLow hO (Below.trans ((Below.refl _ W).drew) hb2) (by omega), hS2⟩, hBW.trans hBl⟩⟩
                          · have e3 : stT l (pre ++ [x]) = .br a b :: r := by unfold stT; rw [HEN.out, HX.out, stkStep_neg]; rfl
                            have e4 : stV l (pre ++ [x]) = r.reverse.map trVal ++ [trVal (.br a b)] := by unfold stV; rw [e3]; simp
                            rw [e3, e4, show (Tr.br a b :: r).length = k + 1 by simp [hk'.out]]
                            rw [EB.out]
                            simpa [listV] using hr2
                          · rw [HEN.out, HX.out, stkStep_neg]; rfl
                        exact AllReady.nil
                      exact AllReady.nil
                    exact AllReady.nil
                  refine AllReady.cons rfl (fun K hK => ?_) ?_
                  · skip
                    go_simp
                    refine hK _ _ ?_
                    clear hK K
                    try simp only [Act.put, List.getElem_toArray, List.getElem_cons_succ, List.getElem_cons_zero, List.setIfInBounds_toArray, List.set_cons_zero, List.set_cons_succ]
                    refine wpAny_ready (rs := [0]) (by kernel_rfl) (by simp) ?_
                    refine AllReady.cons rfl (fun K hK => ?_) ?_
                    · skip
                      go_simp
                      refine hK _ _ ?_
                      clear hK K
                      try simp only [Act.put, List.getElem_toArray, List.getElem_cons_succ, List.getElem_cons_zero, List.setIfInBounds_toArray, List.set_cons_zero, List.set_cons_succ]
                      refine wpAny_take (i := 3) (v := ?_) rfl (by kernel_rfl) (by kernel_rfl) (by kernel_rfl) (fun _ _ _ h => h) (Or.inl ⟨by rfl, ?_⟩) ?_
                      rotate_left 1
                      focus ((intro w; go_simp; (try with_reducible rfl)); done)
                      try simp only [Act.put, List.getElem_toArray, List.getElem_cons_succ, List.getElem_cons_zero, List.setIfInBounds_toArray, List.set_cons_zero, List.set_cons_succ]
                      refine wpAny_ready (rs := [17]) (by kernel_rfl) (by simp) ?_
                      refine AllReady.cons rfl (fun K hK => ?_) ?_
                      · skip
                        refine step_append_cells _ rfl (.tmp 45) (.tmp 58) 93 rfl (w.heap.size + 3) 64 i0 .nilIface 1 16 Try.underlying93 hi hz0 hz1 hz2 rfl (by decide) (.slice (some ⟨g2, 0, none⟩) k cp) k (r.reverse.map trVal) rfl (hlD.alloc _) (some ⟨W.heap.size, 0, none⟩) 1 1 (fun _ => .iface 75 (.agg #[.iface ta va, .iface tb vb])) rfl (cells_lit1 (by simp)) (fun _ _ => by simp [Value.oneCell']) (by unfold maxLen; omega) (by omega) (by simp; omega) ?_
                        intro v' w1 hown' hgrow _
                        obtain ⟨g', cap', rfl⟩ := ownsRow_succ hown'
                        have hg' : (W.drew.alloc (.cells #[.iface 75 (.agg #[.iface ta va, .iface tb vb])] 64)).grownBy w1 (some g2) := hgrow
                        obtain ⟨hv1, hv2, hr2, hk2, hb2⟩ := hvD.appended (by decide) hrD (by simp; omega) (by omega) hown' hg'
                        have hS1 : Boxed w1 (w.heap.size + 5) 22 (.slice A n c) := (hSD.alloc _).kept hg' (hSD.not_row (by decide) hrD)
                        clear hgrow
                        have hc1 := hv1.cell
                        have hf1 := hv1.frozen
                        refine hK _ _ ?_
                        clear hK K
                        try simp only [Act.put, List.getElem_toArray, List.getElem_cons_succ, List.getElem_cons_zero, List.setIfInBounds_toArray, List.set_cons_zero, List.set_cons_succ]
                        refine wpAny_ready (rs := [18]) (by kernel_rfl) (by simp) ?_
                        refine AllReady.cons rfl (fun K hK => ?_) ?_
                        · skip
                          go_simp
                          refine hK _ _ ?_
                          clear hK K
                          try simp only [Act.put, List.getElem_toArray, List.getElem_cons_succ, List.getElem_cons_zero, List.setIfInBounds_toArray, List.set_cons_zero, List.set_cons_succ]
                          refine wpAny_done (by kernel_rfl) ?_ _
                          have hBl : Below w.heap.size W _ := Below.trans ((Below.refl _ W).drew) (hb2.mono (by omega))
                          have hS2 := hS1.other (B' := w.heap.size + 4) (by omega) (.slice (some ⟨g', 0, none⟩) (k + 1) cap')
                          gi_wp2
                          refine ⟨((KeepsOthers.drew W).trans hk2).from _, kpB_of hBl hS hS2, ⟨⟨⟨_, hv2, ?_, ?_⟩, boxLow hL (Below.trans ((Below.refl _ W).drew) hb2) (by omega), boxLow hR (Below.trans ((Below.refl _ W).drew) hb2) (by omega), boxLow hO (Below.trans ((Below.refl _ W).drew) hb2) (by omega), hS2⟩, hBW.trans hBl⟩⟩
                          · have e3 : stT l (pre ++ [x]) = .br a b :: r := by unfold stT; rw [HEN.out, HX.out, stkStep_neg]; rfl
                            have e4 : stV l (pre ++ [x]) = r.reverse.map trVal ++ [trVal (.br a b)] := by unfold stV; rw [e3]; simp
                            rw [e3, e4, show (Tr.br a b :: r).length = k + 1 by simp [hk'.out]]
                            rw [EB.out]
                            simpa [listV] using hr2
                          · rw [HEN.out, HX.out, stkStep_neg]; rfl
                        exact AllReady.nil
                      exact AllReady.nil
                    exact AllReady.nil
                  exact AllReady.nil
                exact AllReady.nil
              exact AllReady.nil
            exact AllReady.nil
          exact AllReady.nil
      · have hb2 : (x.2 == -1) = false := by simpa using hx
        gi_wp2_with (gi_at_call 52; refine (CallsIn.inRound lt (HB.out _ _ _ _ _)).mono ?_; rintro e w' ⟨rfl, hw⟩; obtain rfl := hw.symm; clear hw; rw [hb])
        exact ⟨((KeepsOthers.setCell _ _ _).trans (KeepsOthers.setCell _ _ _)).from _, ⟨⟨⟨rfl, by rw [HEN.out]; simp [stkStep, hb, hx]⟩, (hR.set _).other (by omega) _, (hO.other (by omega) _).set _⟩, (hBW.setCell (p := ⟨w.heap.size + 1, 0, none⟩) (by simp) _).setCell (p := ⟨w.heap.size + 1 + 1, 0, none⟩) (by simp <;> omega) _⟩⟩
    · gi_wp2_with (first
        | (gi_at_call 52; refine (CallsIn.inRound lt (HB.out _ _ _ _ _)).mono ?_; rintro e w' ⟨rfl, hw⟩; obtain rfl := hw.symm; clear hw; rw [hb])
        | (gi_at_builtin; refine wpListIn_append_own _ rfl _ _ 93 rfl (w.heap.size + 3) 64 i0 .nilIface 1 16 Try.underlying93 hi hz0 hz1 hz2 rfl (by decide) _ _ _ rfl (hrow.alloc _) ⟨W.heap.size, 0, none⟩ 1 1 [trVal (.leaf x.2)] rfl rfl (cell_one_new _ _ _) (by simp [Value.oneCell', trVal]) (by unfold maxLen; omega) (by omega) (by simp; omega) ?_
           intro v' w1 hown' hgrow _
           obtain ⟨g', cap', rfl⟩ := ownsRow_succ hown'
           obtain ⟨hv1, hv2, hr2, hk2, hb2⟩ := hv.appended (by decide) hrow (by omega) (by omega) hown' hgrow
           have hS1 : Boxed w1 (w.heap.size + 5) 22 (.slice A n c) := (hS.alloc _).kept hgrow (hS.not_row (by decide) hrow)
           have hc1 := hv1.cell
           have hf1 := hv1.frozen))
      have hBl : Below w.heap.size W _ := hb2.mono (by omega)
      have hS2 := hS1.other (B' := w.heap.size + 4) (by omega) (.slice (some ⟨g', 0, none⟩) (st.length + 1) cap')
      refine ⟨hk2.from _, kpB_of hBl hS hS2, ⟨⟨⟨_, hv2, ?_, ?_⟩, boxLow hL hb2 (by omega), boxLow hR hb2 (by omega), boxLow hO hb2 (by omega), hS2⟩, hBW.trans hBl⟩⟩
      · have e3 : stT l (pre ++ [x]) = .leaf x.2 :: st := by unfold stT; rw [HEN.out]; simp [stkStep, hb]
        have e4 : stV l (pre ++ [x]) = st.reverse.map trVal ++ [trVal (.leaf x.2)] := by unfold stV; rw [e3]; simp
        rw [e3, e4]
        simpa using hr2
      · rw [HEN.out]; simp [stkStep, hb]
  case done =>
    rintro D ys W hD rfl ⟨⟨⟨v, hv, hrow, hsome⟩, hL, hR, hO, hS⟩, hB⟩ hK
    obtain ⟨st, hst⟩ : ∃ st, stO l (bk f n 0) = some st := Option.isSome_iff_exists.1 hsome
    have eT : stT l (bk f n 0) = st := by unfold stT; rw [hst]; rfl
    have eV : stV l (bk f n 0) = st.reverse.map trVal := by unfold stV; rw [eT]
    have hstk : stk l (rowL f n) = some st := by
      unfold stO at hst
      rw [bk_vals f n n 0 (by omega) (by omega)] at hst
      simpa using hst
    have HST := Lib.hid hstk
    have hLn : (rowL f n).length ≤ 23 := by rw [rowL_len]; exact hn
    rw [eT, eV] at hrow
    clear eT eV hst hstk hsome
    obtain ⟨a', cp, g, rfl, hg, ho⟩ := OwnC.of_rowV hrow
    have cT := hv.cell
    have cR := hR.cell
    have fR := hR.frozen
    have cO := hO.cell
    have fO := hO.frozen
    clear ho
    rcases st with _ | ⟨t, _ | ⟨b, r⟩⟩
    · have HT := Lib.hid (trOf_stk hLn HST.out (by simp))
      gi_wp2
      have hK2 := ((KeepsOthers.setCell W ⟨w.heap.size + 1, 0, none⟩ .nilIface).trans (KeepsOthers.setCell _ ⟨w.heap.size + 1 + 1, 0, none⟩ (.bool false))).same D _ hK rfl
      refine ⟨by simp, .inl ⟨_, _, rfl, run_takeDeferred hK2, ?_⟩⟩
      have c4 := (((hR.set .nilIface).other (B' := w.heap.size + 1 + 1) (by omega) (.bool false)).kept (grownBy_putObj' _ D (.deferred none)) (fun e => absurd (Option.some.inj e) (by omega))).cell
      have c5 := (((hO.other (B' := w.heap.size + 1) (by omega) .nilIface).set (.bool false)).kept (grownBy_putObj' _ D (.deferred none)) (fun e => absurd (Option.some.inj e) (by omega))).cell
      refine ⟨.tuple #[.nilIface, (.bool false)], ?_, by rw [HT.out]; first | rfl | (simp only [nodeV, HE.out]; rfl), ((hB.setCell (p := ⟨w.heap.size + 1, 0, none⟩) (by simp) _).setCell (p := ⟨w.heap.size + 1 + 1, 0, none⟩) (by simp <;> omega) _).trans (belowK_b (w := w) (Nat.le_refl _) _ D _ _ (by omega) hK2 rfl rfl)⟩
      simp [results, Try.f68, go_sem, c4, c5]
    · have HT := Lib.hid (trOf_stk1 hLn HST.out)
      have hrow' : W.ownsRow (w.heap.size + 3) 64 1 (.slice a' (0 + 1) cp) (0 + 1) [trVal t] := by simpa using hrow
      obtain ⟨g2, cap2, e2⟩ := ownsRow_succ hrow'
      cases e2
      obtain ⟨ta, va, ea⟩ := trVal_iface t
      have c1 : W.cell? ⟨g2, 0, none⟩ = some (.iface ta va) := by
        rw [hrow'.cellAt 0 (by omega), ← ea]
        rfl
      have HE := Lib.hid ea
      clear ea hrow hrow'
      gi_wp2
      have hK2 := ((KeepsOthers.setCell W ⟨w.heap.size + 1, 0, none⟩ (.iface ta va)).trans (KeepsOthers.setCell _ ⟨w.heap.size + 1 + 1, 0, none⟩ (.bool true))).same D _ hK rfl
      refine ⟨by simp, .inl ⟨_, _, rfl, run_takeDeferred hK2, ?_⟩⟩
      have c4 := (((hR.set (.iface ta va)).other (B' := w.heap.size + 1 + 1) (by omega) (.bool true)).kept (grownBy_putObj' _ D (.deferred none)) (fun e => absurd (Option.some.inj e) (by omega))).cell
      have c5 := (((hO.other (B' := w.heap.size + 1) (by omega) (.iface ta va)).set (.bool true)).kept (grownBy_putObj' _ D (.deferred none)) (fun e => absurd (Option.some.inj e) (by omega))).cell
      refine ⟨.tuple #[(.iface ta va), (.bool true)], ?_, by rw [HT.out]; first | rfl | (simp only [nodeV, HE.out]; rfl), ((hB.setCell (p := ⟨w.heap.size + 1, 0, none⟩) (by simp) _).setCell (p := ⟨w.heap.size + 1 + 1, 0, none⟩) (by simp <;> omega) _).trans (belowK_b (w := w) (Nat.le_refl _) _ D _ _ (by omega) hK2 rfl rfl)⟩
      simp [results, Try.f68, go_sem, c4, c5]
    · have HT := Lib.hid (trOf_stk hLn HST.out (by simp))
      have q1 : (((t :: b :: r).length : Nat) : Int) ≠ 1 := by simp; omega
      have q2 : (((r.length : Nat) : Int) + 1 + 1 != 1) = true := by simp; omega
      gi_wp2
      have hK2 := ((KeepsOthers.setCell W ⟨w.heap.size + 1, 0, none⟩ .nilIface).trans (KeepsOthers.setCell _ ⟨w.heap.size + 1 + 1, 0, none⟩ (.bool false))).same D _ hK rfl
      refine ⟨by simp, .inl ⟨_, _, rfl, run_takeDeferred hK2, ?_⟩⟩
      have c4 := (((hR.set .nilIface).other (B' := w.heap.size + 1 + 1) (by omega) (.bool false)).kept (grownBy_putObj' _ D (.deferred none)) (fun e => absurd (Option.some.inj e) (by omega))).cell
      have c5 := (((hO.other (B' := w.heap.size + 1) (by omega) .nilIface).set (.bool false)).kept (grownBy_putObj' _ D (.deferred none)) (fun e => absurd (Option.some.inj e) (by omega))).cell
      refine ⟨.tuple #[.nilIface, (.bool false)], ?_, by rw [HT.out]; first | rfl | (simp only [nodeV, HE.out]; rfl), ((hB.setCell (p := ⟨w.heap.size + 1, 0, none⟩) (by simp) _).setCell (p := ⟨w.heap.size + 1 + 1, 0, none⟩) (by simp <;> omega) _).trans (belowK_b (w := w) (Nat.le_refl _) _ D _ _ (by omega) hK2 rfl rfl)⟩
      simp [results, Try.f68, go_sem, c4, c5]
  case stop =>
    rintro D cd pre W hD ⟨r, hr, rfl⟩ ⟨⟨⟨rfl, hnone⟩, hR, hO⟩, hB⟩ hK
    have HT := Lib.hid (show trOf l (rowL f n) = none from trOf_stk0 (by
      unfold stO at hnone
      rw [bk_vals f n (n - r) r rfl hr] at hnone
      rw [← List.take_append_drop r (rowL f n)]
      exact stk_none_app hnone _))
    clear hnone
    gi_wp2
    refine ⟨by simp, .inl ⟨_, _, rfl, run_takeDeferred hK, ?_⟩⟩
    have c4 := (hR.kept (grownBy_putObj' W D (.deferred none)) (fun e => absurd (Option.some.inj e) (by omega))).cell
    have c5 := (hO.kept (grownBy_putObj' W D (.deferred none)) (fun e => absurd (Option.some.inj e) (by omega))).cell
    refine ⟨.tuple #[.nilIface, .bool false], ?_, by rw [HT.out]; rfl, hB.trans (belowK_b (w := w) (Nat.le_refl _) W D _ _ (by omega) hK rfl rfl)⟩
    simp [results, Try.f68, go_sem, c4, c5]
end Go.Proofs.Ytgbiablibfbilaa
