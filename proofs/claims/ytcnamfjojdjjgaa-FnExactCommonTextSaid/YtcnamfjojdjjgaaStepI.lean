/- EditSteps: the program's answer. -/
import Derived.Test.YtcnamfjojdjjgaaRevB
import Derived.ScopeJumps
import Derived.WalkMore
import Derived.Laws.IdiomStrings
set_option linter.unusedVariables false
namespace Go.Proofs.Ytcnamfjojdjjgaa
open Go.RowKit
theorem infoU8 : (Try.prog.info? 5).map (fun i => (i.zero, i.size, i.bytes)) = some (some (.int .u8 0), 1, 1) := by kernel_rfl
/-- What steps are told, whichever the costs. -/
def stepG (a b : ByteArray) (p o c s : Int) (i j : Nat) : Nat := (editE (bx a) (bx b) p o c s i j).1
/-- No bytes change places. -/
def CodesOK (m n : Nat) (f : Nat → Nat → Nat) : Prop := ∀ i j, i ≤ m → j ≤ n → (i = 0 ∧ j = 0 ∧ f i j = 0) ∨ (0 < i ∧ 0 < j ∧ (f i j = 61 ∨ f i j = 33)) ∨ (0 < i ∧ f i j = 45) ∨ (0 < j ∧ f i j = 43)
/-- What the walk knows of the world at each jump. -/
structure StepW (a b : ByteArray) (p o c s : Int) (w w' : World) (G GB B0 g k cap : Nat) (pre : List Nat) : Prop where
  box : Box2 w' GB (.slice (some ⟨G, 0, none⟩) ((a.size + 1) * (b.size + 1)) ((a.size + 1) * (b.size + 1))) (.int .i64 ((b.size : Int) + 1))
  grid : GridK w' G (b.size + 1) (editE (bx a) (bx b) p o c s) (a.size + 1) 0
  own : w'.ownsRow B0 5 1 (.slice (some ⟨g, 0, none⟩) k cap) k (pre.map (fun c : Nat => Value.int .u8 (c : Int)))
  bel : Below w.heap.size w w'
  lo : w.heap.size ≤ B0 ∧ GB < B0 ∧ G < B0 ∧ B0 ≤ w'.heap.size
def StepJ (a b : ByteArray) (p o c s : Int) (L : List Nat) (w : World) (a' : Act) (w' : World) : Prop :=
  ∃ (G GB B0 i j n g k cap : Nat) (pre : List Nat) (u1 u2 u7 u8 u9 u10 u11 u12 u13 u14 u15 u16 u17 u18 u19 u20 u21 u22 u23 u24 u25 u26 u27 u28 u29 u30 u31 u32 u33 u34 u35 u36 u37 u38 u39 u40 u41 u42 u43 u44 u45 u46 u47 : Value), a' = { tmps := #[.agg #[.string a, .string b, .int .i64 p, .int .i64 o, .int .i64 c, .int .i64 s], u1, u2, .pointer (some ⟨GB, 0, none⟩), .int .i64 i, .int .i64 j, .slice (some ⟨g, 0, none⟩) k cap, u7, u8, u9, u10, u11, u12, u13, u14, u15, u16, u17, u18, u19, u20, u21, u22, u23, u24, u25, u26, u27, u28, u29, u30, u31, u32, u33, u34, u35, u36, u37, u38, u39, u40, u41, u42, u43, u44, u45, u46, u47], defers := [] } ∧ i ≤ a.size ∧ j ≤ b.size ∧ i + j ≤ n ∧ k + n ≤ 96 ∧ Hid (k = pre.length) ∧ Hid (pre ++ backE (stepG a b p o c s) n i j = L) ∧ Hid (StepW a b p o c s w w' G GB B0 g k cap pre)

theorem Box2.below' {w w' : World} {B B0 : Nat} {u v : Value} (h : Box2 w B u v) (hb : Below B0 w w') (hB : B < B0) : Box2 w' B u v :=
  ⟨(World.cell?_of_block (a := ⟨B, 0, none⟩) (hb.block B hB)).trans h.c0, (World.cell?_of_block (a := ⟨B, 1, none⟩) (hb.block B hB)).trans h.c1⟩
theorem GridK.below' {w w' : World} {G S i j B0 : Nat} {E : Nat → Nat → Nat × Int} (h : GridK w G S E i j) (hb : Below B0 w w') (hB : G < B0) : GridK w' G S E i j := fun x y hy hlt => by
  obtain ⟨h1, h2⟩ := h x y hy hlt
  exact ⟨(World.cell?_of_block (a := ⟨G, _, none⟩) (hb.block G hB)).trans h1, (World.cell?_of_block (a := ⟨G, _, none⟩) (hb.block G hB)).trans h2⟩
theorem StepW.next {a b : ByteArray} {p o c s : Int} {w w' w'' : World} {G GB B0 g k cap g2 k2 cap2 : Nat} {pre pre2 : List Nat} (h : StepW a b p o c s w w' G GB B0 g k cap pre) (hb : Below B0 w' w'')
    (ho : w''.ownsRow B0 5 1 (.slice (some ⟨g2, 0, none⟩) k2 cap2) k2 (pre2.map (fun c : Nat => Value.int .u8 (c : Int)))) : StepW a b p o c s w w'' G GB B0 g2 k2 cap2 pre2 :=
  ⟨h.box.below' hb h.lo.2.1, h.grid.below' hb h.lo.2.2.1, ho, h.bel.trans (hb.mono h.lo.1), h.lo.1, h.lo.2.1, h.lo.2.2.1, Nat.le_trans h.lo.2.2.2 hb.size⟩

theorem backE_lt (f : Nat → Nat → Nat) : ∀ n i j, ∀ c ∈ backE f n i j, c < 256 := by
  intro n
  induction n with
  | zero => intro i j c hc; simp [backE] at hc
  | succ n ih =>
    intro i j c hc
    rw [backE] at hc
    split at hc
    · rename_i h
      rcases List.mem_cons.1 hc with h' | h'
      · omega
      · exact ih _ _ _ h'
    · split at hc
      · rcases List.mem_cons.1 hc with h' | h'
        · omega
        · exact ih _ _ _ h'
      · split at hc
        · rcases List.mem_cons.1 hc with h' | h'
          · omega
          · exact ih _ _ _ h'
        · cases hc
theorem rev_code {l : List Nat} (h : ∀ c ∈ l, c < 256) {t : Nat} (ht : t < l.length) : (some (Value.int .u8 ((l.getD (l.length - 1 - t) 0 : Nat) : Int))) = some (.int .u8 (((l.reverse.map (fun c => UInt8.ofNat c))[t]'(by simpa using ht)).toNat : Int)) := by
  have e : l.getD (l.length - 1 - t) 0 = l[l.length - 1 - t]'(by omega) := by simp [List.getD, List.getElem?_eq_getElem (show l.length - 1 - t < l.length by omega)]
  rw [e]
  have hm := h _ (List.getElem_mem (show l.length - 1 - t < l.length by omega))
  simp only [List.getElem_map, List.getElem_reverse]
  rw [UInt8.toNat_ofNat', Nat.mod_eq_of_lt hm]
theorem StepW.cells {a b : ByteArray} {p o c s : Int} {w w' : World} {G GB B0 g k cap : Nat} {pre : List Nat} (h : StepW a b p o c s w w' G GB B0 g k cap pre) : OwnC w' g (some ⟨g, 0, none⟩) k (fun t => .int .u8 ((pre.getD t 0 : Nat) : Int)) := by
  have hl : (pre.map (fun c : Nat => Value.int .u8 (c : Int))).length = k * 1 := h.own.1
  rw [List.length_map, Nat.mul_one] at hl
  intro t ht
  refine ⟨_, rfl, rfl, by rw [add0]; exact h.own.frozenAt t, ?_⟩
  rw [add0, h.own.cellAt t (by omega), List.getElem?_map, List.getElem?_eq_getElem (by omega)]
  simp [List.getD, List.getElem?_eq_getElem (show t < pre.length by omega)]
theorem StepW.ge {a b : ByteArray} {p o c s : Int} {w w' : World} {G GB B0 g k cap : Nat} {pre : List Nat} (h : StepW a b p o c s w w' G GB B0 g k cap pre) : B0 ≤ g := (h.own.lt g (by simp [Value.ownBlock])).1
set_option maxRecDepth 20000 in
set_option maxHeartbeats 8000000 in
theorem steps_any (a b : ByteArray) (p o c s : Int) (w : World) (hw : Weights p o c s) (ha : a.size ≤ 48) (hb : b.size ≤ 48) (hco : CodesOK a.size b.size (stepG a b p o c s)) :
    Calls Try.prog 43 #[.agg #[.string a, .string b, .int .i64 p, .int .i64 o, .int .i64 c, .int .i64 s]] w fun e w' => e = .returned (.string (textL (backE (stepG a b p o c s) (a.size + b.size) a.size b.size).reverse)) ∧ Below w.heap.size w w' := by
  obtain ⟨ui, hui, huz, hus, hub⟩ := info_parts infoU8
  have HED := Lib.hid (fun W => edits_any a b p o c s W hw ha hb)
  have hsm : (a.size + 1) * (b.size + 1) ≤ 2401 := grid_small ha hb
  have HRo := Lib.hid (fun G r (hr : r ≤ a.size) W => rowE_any G ((a.size + 1) * (b.size + 1)) ((a.size + 1) * (b.size + 1)) r (b.size + 1) W (grid_row hr) (by omega) (by have := grid_row (n := b.size) hr; omega))
  have HCo := Lib.hid hco
  obtain ⟨L, hL⟩ : ∃ L, L = backE (stepG a b p o c s) (a.size + b.size) a.size b.size := ⟨_, rfl⟩
  have HL := Lib.hid hL
  rw [← hL]
  clear hw hL hco
  go_enter Try.func43, Try.ntmps43
  go_wp2_with fail
  refine wp_scope_jumps 0 (StepJ a b p o c s L w) (fun a' _ => (intOf (a'.tmps.getD 4 undef)).toNat + (intOf (a'.tmps.getD 5 undef)).toNat) rfl ?_ ?_
  · go_wp2_with (first
      | (go_at_call 69
         refine (HED.out _).mono ?_
         rintro e u1 ⟨G, rfl, hGl, hK, hbb⟩
         have HK := Lib.hid hK
         have PU := Lib.hid (Below.step' (w := w) (by repeat (first | exact Below.refl _ _ | exact Hid.out (by assumption) | refine below_alloc ?_ _ | refine Below.setCell ?_ (by simp <;> omega) _ | refine Below.alloc ?_ (by simp <;> omega) _ | refine Below.drew ?_ | refine below_drewN ?_ _)) (Nat.le_refl _) hbb)
         have x0 : u1.cell? ⟨w.heap.size, 0, none⟩ = some (.string a) := (hbb.cell (p := ⟨w.heap.size, 0, none⟩) (by simp)).trans (by simp [go_sem])
         have x1 : u1.cell? ⟨w.heap.size, 1, none⟩ = some (.string b) := (hbb.cell (p := ⟨w.heap.size, 1, none⟩) (by simp)).trans (by simp [go_sem])
         have hz1 : w.heap.size < u1.heap.size := by have := hbb.size; simp at this; omega
         simp only [World.size_alloc] at hGl
         clear hK hbb))
    generalize hU : World.alloc u1 _ = U
    have hbU : Below u1.heap.size u1 U := by rw [← hU]; exact Below.alloc (Below.refl _ _) (Nat.le_refl _) _
    have y0 : U.cell? ⟨w.heap.size, 0, none⟩ = some (.string a) := (hbU.cell (p := ⟨w.heap.size, 0, none⟩) hz1).trans x0
    have y1 : U.cell? ⟨w.heap.size, 1, none⟩ = some (.string b) := (hbU.cell (p := ⟨w.heap.size, 1, none⟩) hz1).trans x1
    have hGB : Box2 U u1.heap.size (.slice (some ⟨G, 0, none⟩) ((a.size + 1) * (b.size + 1)) ((a.size + 1) * (b.size + 1))) (.int .i64 ((b.size : Int) + 1)) := by
      rw [← hU]
      exact ⟨by simp [go_sem], by simp [go_sem]⟩
    have hGlt : G < u1.heap.size := World.block_lt_of_cell? _ _ (HK.out 0 0 (by omega) (.inl (by omega))).1
    have hKU : GridK U G (b.size + 1) (editE (bx a) (bx b) p o c s) (a.size + 1) 0 := HK.out.below' hbU hGlt
    have hsU : U.heap.size = u1.heap.size + 1 := by rw [← hU]; simp
    have hbW : Below w.heap.size w U := PU.out.trans (hbU.mono (by omega))
    have HU := Lib.hid (And.intro hGB (And.intro hKU (And.intro hbW (And.intro hGlt (And.intro hsU hz1)))))
    clear hU hbU x0 x1 hGB hGlt hKU hsU hz1 hbW PU HK hGl
    go_quiet (fail)
    rename_i hK0
    refine hK0 _ _ ?_
    go_wp2_with fail
    generalize hV : World.alloc _ _ = w'
    have HS : Hid (StepW a b p o c s w w' G u1.heap.size U.heap.size U.heap.size 0 0 []) := Lib.hid (by
      obtain ⟨hGB, hKU, hbW, hGlt, hsU, hz1⟩ := HU.out
      have hb : Below U.heap.size U w' := by rw [← hV]; exact Below.alloc (below_drewN (Below.refl _ _) _) (by simp) _
      exact ⟨hGB.below' hb (by omega), hKU.below' hb (by omega), by rw [← hV]; exact World.ownsRow_lit (U.drewN nq) #[] 0 (Nat.le_refl _) (by unfold maxLen; omega) rfl, hbW.trans (hb.mono (by omega)), by omega, by omega, by omega, hb.size⟩)
    clear hV HU y0 y1
    generalize hvi : Value.int IntKind.i64 (a.size : Int) = vi
    obtain ⟨i, hi0, rfl⟩ : ∃ i : Nat, i = a.size ∧ vi = .int .i64 i := ⟨_, rfl, hvi.symm⟩
    generalize hvj : Value.int IntKind.i64 (b.size : Int) = vj
    obtain ⟨j, hj0, rfl⟩ : ∃ j : Nat, j = b.size ∧ vj = .int .i64 j := ⟨_, rfl, hvj.symm⟩
    generalize hsl : Value.slice (some ⟨U.heap.size, 0, none⟩) 0 0 = sl
    obtain ⟨g, k, cap, ⟨hg0, hk0, hcap0⟩, rfl⟩ : ∃ g k cap, (g = U.heap.size ∧ k = 0 ∧ cap = 0) ∧ sl = .slice (some ⟨g, 0, none⟩) k cap := ⟨_, _, _, ⟨rfl, rfl, rfl⟩, hsl.symm⟩
    obtain ⟨pre, hpre⟩ : ∃ pre : List Nat, pre = [] := ⟨_, rfl⟩
    obtain ⟨n, hn0⟩ : ∃ n, n = a.size + b.size := ⟨_, rfl⟩
    have HKL := Lib.hid (show k = pre.length by rw [hpre, hk0]; rfl)
    have HP := Lib.hid (show pre ++ backE (stepG a b p o c s) n i j = L by rw [hpre, HL.out, hn0, hi0, hj0]; rfl)
    have HS2 : Hid (StepW a b p o c s w w' G u1.heap.size U.heap.size g k cap pre) := by rw [hpre, hg0, hk0, hcap0]; exact HS
    have hi : i ≤ a.size := by omega
    have hj : j ≤ b.size := by omega
    have hn : i + j ≤ n := by omega
    have hpl : k + n ≤ 96 := by omega
    clear HS hvi hvj hsl hg0 hk0 hcap0 hpre hn0 hi0 hj0
    have HS := HS2
    clear HS2
    generalize u1.heap.size = GB at HS ⊢
    generalize U.heap.size = B0 at HS
    go_step3
    have HLT := Lib.hid (show ∀ c ∈ L, c < 256 by rw [HL.out]; exact backE_lt _ _ _ _)
    rcases HCo.out i j hi hj with ⟨e1, e2, hs⟩ | ⟨e1, e2, hs⟩ | ⟨e1, hs⟩ | ⟨e1, hs⟩
    · have HE := Lib.hid (show pre = L by
        have := HP.out
        cases n with
        | zero => simpa [backE] using this
        | succ n => simpa [backE, hs] using this)
      obtain rfl : pre = L := HE.out
      clear e1 e2 HE
      obtain ⟨gx0, gx1⟩ := HS.out.box
      have hcell := (HS.out.grid i j (by omega) (.inl (by omega))).1
      have hcode : (editE (bx a) (bx b) p o c s i j).1 = 0 := hs
      rw [hcode] at hcell
      obtain ⟨xr, hxr⟩ : ∃ xr : Addr, xr = ⟨G, i * (b.size + 1) * 2, none⟩ := ⟨_, rfl⟩
      have HR2 := Lib.hid (fun W => HRo.out G i (by omega) W)
      rw [← hxr] at HR2
      have HX := Lib.hid hxr
      have HR3 := Lib.hid (show ∀ W, Calls Try.prog 70 #[.agg #[.slice (some ⟨G, 0, none⟩) ((a.size + 1) * (b.size + 1)) ((a.size + 1) * (b.size + 1)), .int .i64 ((b.size : Int) + 1)], .int .i64 i] W fun e w' => e = .returned (.slice (some xr) (b.size + 1) (b.size + 1)) ∧ Below W.heap.size W w' from fun W => by have := HR2.out W; rwa [Int.natCast_add] at this)
      have HCL := Lib.hid hcell
      have dJ : (j : Int) < (b.size : Int) + 1 := by omega
      clear hxr HR2 hcell hcode hs
      have HPR := Lib.hid (show ∀ U, Below w'.heap.size w' U → OwnC U g (some ⟨g, 0, none⟩) k (fun t => .int .u8 ((pre.getD t 0 : Nat) : Int)) from fun U hU => (HS.out.cells).below hU)
      go_wp2_with (first
        |
          (go_at_call 70
           refine (HR3.out _).mono ?_
           rintro e u2 ⟨rfl, hbb⟩
           have PU2 := Lib.hid hbb
           have hstep : u2.cell? (xr.add (j * 2)) = some (.int .u8 0) := by
             rw [HX.out, add_at, ← Nat.add_mul]
             exact (hbb.cell (World.block_lt_of_cell? _ _ HCL.out)).trans HCL.out
           clear hbb)
        | (go_at_call 71
           refine (revB_any g k cap (fun t => ((pre.getD t 0 : Nat) : Int)) _ (by omega) (HPR.out _ PU2.out)).mono ?_
           rintro e u3 ⟨rfl, hor, hbr⟩
           have PU3 := Lib.hid (show Below w.heap.size w u3 from (HS.out.bel.trans (PU2.out.mono HS.out.bel.size)).trans (hbr _ (by have := HS.out.lo; have := HS.out.ge; omega)))
           have hcv : (convert 51 9 (.slice (some ⟨g, 0, none⟩) k cap)).run Try.prog u3 = .ok (.string (textL pre.reverse)) u3 := by
             have hlen : (pre.reverse.map (fun c => UInt8.ofNat c)).length = k := by rw [HKL.out]; simp
             have := run_convert_bytes_back (P := Try.prog) u3 51 9 5 ⟨g, 0, none⟩ cap (pre.reverse.map (fun c => UInt8.ofNat c)) Try.underlying51 Try.underlying5 Try.underlying9 (fun t ht => by
               obtain ⟨x, hx, -, -, hc⟩ := hor t (by omega)
               cases hx
               rw [hc, HKL.out, rev_code HLT.out (by have := HKL.out; omega)])
             rw [hlen] at this
             exact this
           clear hor hbr))
      simp only [Exit.jump]
      go_ret
      exact ⟨rfl, PU3.out⟩
    · obtain ⟨I, hI⟩ : ∃ I, i = I + 1 := ⟨i - 1, by omega⟩
      obtain ⟨J, hJ⟩ : ∃ J, j = J + 1 := ⟨j - 1, by omega⟩
      obtain ⟨N, hN⟩ : ∃ N, n = N + 1 := ⟨n - 1, by omega⟩
      have wI : IntKind.i64.wrap ((i : Int) - 1) = (I : Int) := by rw [IntKind.wrap_i64]; omega
      have wJ : IntKind.i64.wrap ((j : Int) - 1) = (J : Int) := by rw [IntKind.wrap_i64]; omega
      have HPC := Lib.hid (fun (C : Nat) (h : stepG a b p o c s i j = C) (hC : C = 61 ∨ C = 33) => show (pre ++ [C]) ++ backE (stepG a b p o c s) N I J = L by
        have e2 : i - 1 = I := by omega
        have e3 : j - 1 = J := by omega
        rw [← HP.out, hN, backE, h, if_pos hC, e2, e3]
        simp)
      have HI := Lib.hid (show i = I + 1 ∧ j = J + 1 ∧ n = N + 1 from ⟨hI, hJ, hN⟩)
      clear hI hJ hN e1 e2
      rcases hs with hs | hs
      · have HPN := Lib.hid (HPC.out 61 hs (.inl rfl))
        obtain ⟨gx0, gx1⟩ := HS.out.box
        have hcell := (HS.out.grid i j (by omega) (.inl (by omega))).1
        have hcode : (editE (bx a) (bx b) p o c s i j).1 = 61 := hs
        rw [hcode] at hcell
        obtain ⟨xr, hxr⟩ : ∃ xr : Addr, xr = ⟨G, i * (b.size + 1) * 2, none⟩ := ⟨_, rfl⟩
        have HR2 := Lib.hid (fun W => HRo.out G i (by omega) W)
        rw [← hxr] at HR2
        have HX := Lib.hid hxr
        have HR3 := Lib.hid (show ∀ W, Calls Try.prog 70 #[.agg #[.slice (some ⟨G, 0, none⟩) ((a.size + 1) * (b.size + 1)) ((a.size + 1) * (b.size + 1)), .int .i64 ((b.size : Int) + 1)], .int .i64 i] W fun e w' => e = .returned (.slice (some xr) (b.size + 1) (b.size + 1)) ∧ Below W.heap.size W w' from fun W => by have := HR2.out W; rwa [Int.natCast_add] at this)
        have HCL := Lib.hid hcell
        have dJ : (j : Int) < (b.size : Int) + 1 := by omega
        clear hxr HR2 hcell hcode hs
        go_wp2_with (first
          |
            (go_at_call 70
             refine (HR3.out _).mono ?_
             rintro e u2 ⟨rfl, hbb⟩
             have PU2 := Lib.hid hbb
             have hstep : u2.cell? (xr.add (j * 2)) = some (.int .u8 61) := by
               rw [HX.out, add_at, ← Nat.add_mul]
               exact (hbb.cell (World.block_lt_of_cell? _ _ HCL.out)).trans HCL.out
             clear hbb)
          |
            (at_builtin
             refine wpList_append_cells _ rfl _ _ 51 rfl B0 5 ui (.int .u8 0) 1 1 Try.underlying51 hui huz hus hub rfl (by decide) _ _ _ rfl ((own_below HS.out.own PU2.out).alloc _)
               (some ⟨u2.heap.size, 0, none⟩) 1 1 (litOne (.int .u8 61)) rfl (cells_lit1 rfl) (fun _ _ => rfl) (by unfold maxLen; omega) (by omega) (by have := HS.out.lo; have := PU2.out.size; simp; omega) ?_
             intro v1 w2 hown hgrow hwhere
             have hown2 : w2.ownsRow B0 5 1 v1 (k + 1) ((pre ++ [61]).map (fun c : Nat => Value.int .u8 (c : Int))) := by
               rw [List.map_append]
               exact hown
             obtain ⟨g2, cap2, rfl⟩ : ∃ g2 cap2, v1 = .slice (some ⟨g2, 0, none⟩) (k + 1) cap2 := by
               rcases hown2.2 with ⟨_, hh0⟩ | ⟨g', cap', cur, e1, _⟩
               · simp at hh0
               · exact ⟨g', cap', e1⟩
             have HNX := Lib.hid (StepW.next HS.out (Below.grown (Below.alloc (PU2.out.mono HS.out.lo.2.2.2) (by have := HS.out.lo; have := PU2.out.size; omega) _) hgrow (by have := HS.out.lo; have := PU2.out.size; simp; omega) (fun j hj => ((own_below HS.out.own PU2.out).lt j hj).1)) hown2)
             clear hown hgrow hwhere hown2)
          )
        go_step3
        exact ⟨rfl, ⟨G, GB, B0, I, J, N, g2, k + 1, cap2, pre ++ [61], _, _, _, _, _, _, _, _, _, _, _, _, _, _, _, _, _, _, _, _, _, _, _, _, _, _, _, _, _, _, _, _, _, _, _, _, _, _, _, _, _, _, _, rfl, by have := HI.out; omega, by have := HI.out; omega, by have := HI.out; omega, by have := HI.out; omega, Lib.hid (by have := HKL.out; simp; omega), HPN, HNX⟩ ⟩
      · have HPN := Lib.hid (HPC.out 33 hs (.inr rfl))
        obtain ⟨gx0, gx1⟩ := HS.out.box
        have hcell := (HS.out.grid i j (by omega) (.inl (by omega))).1
        have hcode : (editE (bx a) (bx b) p o c s i j).1 = 33 := hs
        rw [hcode] at hcell
        obtain ⟨xr, hxr⟩ : ∃ xr : Addr, xr = ⟨G, i * (b.size + 1) * 2, none⟩ := ⟨_, rfl⟩
        have HR2 := Lib.hid (fun W => HRo.out G i (by omega) W)
        rw [← hxr] at HR2
        have HX := Lib.hid hxr
        have HR3 := Lib.hid (show ∀ W, Calls Try.prog 70 #[.agg #[.slice (some ⟨G, 0, none⟩) ((a.size + 1) * (b.size + 1)) ((a.size + 1) * (b.size + 1)), .int .i64 ((b.size : Int) + 1)], .int .i64 i] W fun e w' => e = .returned (.slice (some xr) (b.size + 1) (b.size + 1)) ∧ Below W.heap.size W w' from fun W => by have := HR2.out W; rwa [Int.natCast_add] at this)
        have HCL := Lib.hid hcell
        have dJ : (j : Int) < (b.size : Int) + 1 := by omega
        clear hxr HR2 hcell hcode hs
        go_wp2_with (first
          |
            (go_at_call 70
             refine (HR3.out _).mono ?_
             rintro e u2 ⟨rfl, hbb⟩
             have PU2 := Lib.hid hbb
             have hstep : u2.cell? (xr.add (j * 2)) = some (.int .u8 33) := by
               rw [HX.out, add_at, ← Nat.add_mul]
               exact (hbb.cell (World.block_lt_of_cell? _ _ HCL.out)).trans HCL.out
             clear hbb)
          |
            (at_builtin
             refine wpList_append_cells _ rfl _ _ 51 rfl B0 5 ui (.int .u8 0) 1 1 Try.underlying51 hui huz hus hub rfl (by decide) _ _ _ rfl ((own_below HS.out.own PU2.out).alloc _)
               (some ⟨u2.heap.size, 0, none⟩) 1 1 (litOne (.int .u8 33)) rfl (cells_lit1 rfl) (fun _ _ => rfl) (by unfold maxLen; omega) (by omega) (by have := HS.out.lo; have := PU2.out.size; simp; omega) ?_
             intro v1 w2 hown hgrow hwhere
             have hown2 : w2.ownsRow B0 5 1 v1 (k + 1) ((pre ++ [33]).map (fun c : Nat => Value.int .u8 (c : Int))) := by
               rw [List.map_append]
               exact hown
             obtain ⟨g2, cap2, rfl⟩ : ∃ g2 cap2, v1 = .slice (some ⟨g2, 0, none⟩) (k + 1) cap2 := by
               rcases hown2.2 with ⟨_, hh0⟩ | ⟨g', cap', cur, e1, _⟩
               · simp at hh0
               · exact ⟨g', cap', e1⟩
             have HNX := Lib.hid (StepW.next HS.out (Below.grown (Below.alloc (PU2.out.mono HS.out.lo.2.2.2) (by have := HS.out.lo; have := PU2.out.size; omega) _) hgrow (by have := HS.out.lo; have := PU2.out.size; simp; omega) (fun j hj => ((own_below HS.out.own PU2.out).lt j hj).1)) hown2)
             clear hown hgrow hwhere hown2)
          )
        go_step3
        exact ⟨rfl, ⟨G, GB, B0, I, J, N, g2, k + 1, cap2, pre ++ [33], _, _, _, _, _, _, _, _, _, _, _, _, _, _, _, _, _, _, _, _, _, _, _, _, _, _, _, _, _, _, _, _, _, _, _, _, _, _, _, _, _, _, _, rfl, by have := HI.out; omega, by have := HI.out; omega, by have := HI.out; omega, by have := HI.out; omega, Lib.hid (by have := HKL.out; simp; omega), HPN, HNX⟩ ⟩
    · obtain ⟨I, hI⟩ : ∃ I, i = I + 1 := ⟨i - 1, by omega⟩
      obtain ⟨N, hN⟩ : ∃ N, n = N + 1 := ⟨n - 1, by omega⟩
      have wI : IntKind.i64.wrap ((i : Int) - 1) = (I : Int) := by rw [IntKind.wrap_i64]; omega
      have HPN := Lib.hid (show (pre ++ [45]) ++ backE (stepG a b p o c s) N I j = L by
        have e2 : i - 1 = I := by omega
        rw [← HP.out, hN, backE, hs, if_neg (by omega), if_pos rfl, e2]
        simp)
      have HI := Lib.hid (show i = I + 1 ∧ n = N + 1 from ⟨hI, hN⟩)
      clear hI hN e1
      obtain ⟨gx0, gx1⟩ := HS.out.box
      have hcell := (HS.out.grid i j (by omega) (.inl (by omega))).1
      have hcode : (editE (bx a) (bx b) p o c s i j).1 = 45 := hs
      rw [hcode] at hcell
      obtain ⟨xr, hxr⟩ : ∃ xr : Addr, xr = ⟨G, i * (b.size + 1) * 2, none⟩ := ⟨_, rfl⟩
      have HR2 := Lib.hid (fun W => HRo.out G i (by omega) W)
      rw [← hxr] at HR2
      have HX := Lib.hid hxr
      have HR3 := Lib.hid (show ∀ W, Calls Try.prog 70 #[.agg #[.slice (some ⟨G, 0, none⟩) ((a.size + 1) * (b.size + 1)) ((a.size + 1) * (b.size + 1)), .int .i64 ((b.size : Int) + 1)], .int .i64 i] W fun e w' => e = .returned (.slice (some xr) (b.size + 1) (b.size + 1)) ∧ Below W.heap.size W w' from fun W => by have := HR2.out W; rwa [Int.natCast_add] at this)
      have HCL := Lib.hid hcell
      have dJ : (j : Int) < (b.size : Int) + 1 := by omega
      clear hxr HR2 hcell hcode hs
      go_wp2_with (first
        |
          (go_at_call 70
           refine (HR3.out _).mono ?_
           rintro e u2 ⟨rfl, hbb⟩
           have PU2 := Lib.hid hbb
           have hstep : u2.cell? (xr.add (j * 2)) = some (.int .u8 45) := by
             rw [HX.out, add_at, ← Nat.add_mul]
             exact (hbb.cell (World.block_lt_of_cell? _ _ HCL.out)).trans HCL.out
           clear hbb)
        |
          (at_builtin
           refine wpList_append_cells _ rfl _ _ 51 rfl B0 5 ui (.int .u8 0) 1 1 Try.underlying51 hui huz hus hub rfl (by decide) _ _ _ rfl ((own_below HS.out.own PU2.out).alloc _)
             (some ⟨u2.heap.size, 0, none⟩) 1 1 (litOne (.int .u8 45)) rfl (cells_lit1 rfl) (fun _ _ => rfl) (by unfold maxLen; omega) (by omega) (by have := HS.out.lo; have := PU2.out.size; simp; omega) ?_
           intro v1 w2 hown hgrow hwhere
           have hown2 : w2.ownsRow B0 5 1 v1 (k + 1) ((pre ++ [45]).map (fun c : Nat => Value.int .u8 (c : Int))) := by
             rw [List.map_append]
             exact hown
           obtain ⟨g2, cap2, rfl⟩ : ∃ g2 cap2, v1 = .slice (some ⟨g2, 0, none⟩) (k + 1) cap2 := by
             rcases hown2.2 with ⟨_, hh0⟩ | ⟨g', cap', cur, e1, _⟩
             · simp at hh0
             · exact ⟨g', cap', e1⟩
           have HNX := Lib.hid (StepW.next HS.out (Below.grown (Below.alloc (PU2.out.mono HS.out.lo.2.2.2) (by have := HS.out.lo; have := PU2.out.size; omega) _) hgrow (by have := HS.out.lo; have := PU2.out.size; simp; omega) (fun j hj => ((own_below HS.out.own PU2.out).lt j hj).1)) hown2)
           clear hown hgrow hwhere hown2)
        )
      go_step3
      exact ⟨rfl, ⟨G, GB, B0, I, j, N, g2, k + 1, cap2, pre ++ [45], _, _, _, _, _, _, _, _, _, _, _, _, _, _, _, _, _, _, _, _, _, _, _, _, _, _, _, _, _, _, _, _, _, _, _, _, _, _, _, _, _, _, _, rfl, by have := HI.out; omega, by have := HI.out; omega, by have := HI.out; omega, by have := HI.out; omega, Lib.hid (by have := HKL.out; simp; omega), HPN, HNX⟩ ⟩
    · obtain ⟨J, hJ⟩ : ∃ J, j = J + 1 := ⟨j - 1, by omega⟩
      obtain ⟨N, hN⟩ : ∃ N, n = N + 1 := ⟨n - 1, by omega⟩
      have wJ : IntKind.i64.wrap ((j : Int) - 1) = (J : Int) := by rw [IntKind.wrap_i64]; omega
      have HPN := Lib.hid (show (pre ++ [43]) ++ backE (stepG a b p o c s) N i J = L by
        have e2 : j - 1 = J := by omega
        rw [← HP.out, hN, backE, hs, if_neg (by omega), if_neg (by omega), if_pos rfl, e2]
        simp)
      have HI := Lib.hid (show j = J + 1 ∧ n = N + 1 from ⟨hJ, hN⟩)
      clear hJ hN e1
      obtain ⟨gx0, gx1⟩ := HS.out.box
      have hcell := (HS.out.grid i j (by omega) (.inl (by omega))).1
      have hcode : (editE (bx a) (bx b) p o c s i j).1 = 43 := hs
      rw [hcode] at hcell
      obtain ⟨xr, hxr⟩ : ∃ xr : Addr, xr = ⟨G, i * (b.size + 1) * 2, none⟩ := ⟨_, rfl⟩
      have HR2 := Lib.hid (fun W => HRo.out G i (by omega) W)
      rw [← hxr] at HR2
      have HX := Lib.hid hxr
      have HR3 := Lib.hid (show ∀ W, Calls Try.prog 70 #[.agg #[.slice (some ⟨G, 0, none⟩) ((a.size + 1) * (b.size + 1)) ((a.size + 1) * (b.size + 1)), .int .i64 ((b.size : Int) + 1)], .int .i64 i] W fun e w' => e = .returned (.slice (some xr) (b.size + 1) (b.size + 1)) ∧ Below W.heap.size W w' from fun W => by have := HR2.out W; rwa [Int.natCast_add] at this)
      have HCL := Lib.hid hcell
      have dJ : (j : Int) < (b.size : Int) + 1 := by omega
      clear hxr HR2 hcell hcode hs
      go_wp2_with (first
        |
          (go_at_call 70
           refine (HR3.out _).mono ?_
           rintro e u2 ⟨rfl, hbb⟩
           have PU2 := Lib.hid hbb
           have hstep : u2.cell? (xr.add (j * 2)) = some (.int .u8 43) := by
             rw [HX.out, add_at, ← Nat.add_mul]
             exact (hbb.cell (World.block_lt_of_cell? _ _ HCL.out)).trans HCL.out
           clear hbb)
        |
          (at_builtin
           refine wpList_append_cells _ rfl _ _ 51 rfl B0 5 ui (.int .u8 0) 1 1 Try.underlying51 hui huz hus hub rfl (by decide) _ _ _ rfl ((own_below HS.out.own PU2.out).alloc _)
             (some ⟨u2.heap.size, 0, none⟩) 1 1 (litOne (.int .u8 43)) rfl (cells_lit1 rfl) (fun _ _ => rfl) (by unfold maxLen; omega) (by omega) (by have := HS.out.lo; have := PU2.out.size; simp; omega) ?_
           intro v1 w2 hown hgrow hwhere
           have hown2 : w2.ownsRow B0 5 1 v1 (k + 1) ((pre ++ [43]).map (fun c : Nat => Value.int .u8 (c : Int))) := by
             rw [List.map_append]
             exact hown
           obtain ⟨g2, cap2, rfl⟩ : ∃ g2 cap2, v1 = .slice (some ⟨g2, 0, none⟩) (k + 1) cap2 := by
             rcases hown2.2 with ⟨_, hh0⟩ | ⟨g', cap', cur, e1, _⟩
             · simp at hh0
             · exact ⟨g', cap', e1⟩
           have HNX := Lib.hid (StepW.next HS.out (Below.grown (Below.alloc (PU2.out.mono HS.out.lo.2.2.2) (by have := HS.out.lo; have := PU2.out.size; omega) _) hgrow (by have := HS.out.lo; have := PU2.out.size; simp; omega) (fun j hj => ((own_below HS.out.own PU2.out).lt j hj).1)) hown2)
           clear hown hgrow hwhere hown2)
        )
      go_step3
      exact ⟨rfl, ⟨G, GB, B0, i, J, N, g2, k + 1, cap2, pre ++ [43], _, _, _, _, _, _, _, _, _, _, _, _, _, _, _, _, _, _, _, _, _, _, _, _, _, _, _, _, _, _, _, _, _, _, _, _, _, _, _, _, _, _, _, rfl, by have := HI.out; omega, by have := HI.out; omega, by have := HI.out; omega, by have := HI.out; omega, Lib.hid (by have := HKL.out; simp; omega), HPN, HNX⟩ ⟩
  · rintro a' w' ⟨G, GB, B0, i, j, n, g, k, cap, pre, u1, u2, u7, u8, u9, u10, u11, u12, u13, u14, u15, u16, u17, u18, u19, u20, u21, u22, u23, u24, u25, u26, u27, u28, u29, u30, u31, u32, u33, u34, u35, u36, u37, u38, u39, u40, u41, u42, u43, u44, u45, u46, u47, rfl, hi, hj, hn, hpl, HKL, HP, HS⟩
    have HLT := Lib.hid (show ∀ c ∈ L, c < 256 by rw [HL.out]; exact backE_lt _ _ _ _)
    rcases HCo.out i j hi hj with ⟨e1, e2, hs⟩ | ⟨e1, e2, hs⟩ | ⟨e1, hs⟩ | ⟨e1, hs⟩
    · have HE := Lib.hid (show pre = L by
        have := HP.out
        cases n with
        | zero => simpa [backE] using this
        | succ n => simpa [backE, hs] using this)
      obtain rfl : pre = L := HE.out
      clear e1 e2 HE
      obtain ⟨gx0, gx1⟩ := HS.out.box
      have hcell := (HS.out.grid i j (by omega) (.inl (by omega))).1
      have hcode : (editE (bx a) (bx b) p o c s i j).1 = 0 := hs
      rw [hcode] at hcell
      obtain ⟨xr, hxr⟩ : ∃ xr : Addr, xr = ⟨G, i * (b.size + 1) * 2, none⟩ := ⟨_, rfl⟩
      have HR2 := Lib.hid (fun W => HRo.out G i (by omega) W)
      rw [← hxr] at HR2
      have HX := Lib.hid hxr
      have HR3 := Lib.hid (show ∀ W, Calls Try.prog 70 #[.agg #[.slice (some ⟨G, 0, none⟩) ((a.size + 1) * (b.size + 1)) ((a.size + 1) * (b.size + 1)), .int .i64 ((b.size : Int) + 1)], .int .i64 i] W fun e w' => e = .returned (.slice (some xr) (b.size + 1) (b.size + 1)) ∧ Below W.heap.size W w' from fun W => by have := HR2.out W; rwa [Int.natCast_add] at this)
      have HCL := Lib.hid hcell
      have dJ : (j : Int) < (b.size : Int) + 1 := by omega
      clear hxr HR2 hcell hcode hs
      have HPR := Lib.hid (show ∀ U, Below w'.heap.size w' U → OwnC U g (some ⟨g, 0, none⟩) k (fun t => .int .u8 ((pre.getD t 0 : Nat) : Int)) from fun U hU => (HS.out.cells).below hU)
      go_wp2_with (first
        |
          (go_at_call 70
           refine (HR3.out _).mono ?_
           rintro e u2 ⟨rfl, hbb⟩
           have PU2 := Lib.hid hbb
           have hstep : u2.cell? (xr.add (j * 2)) = some (.int .u8 0) := by
             rw [HX.out, add_at, ← Nat.add_mul]
             exact (hbb.cell (World.block_lt_of_cell? _ _ HCL.out)).trans HCL.out
           clear hbb)
        | (go_at_call 71
           refine (revB_any g k cap (fun t => ((pre.getD t 0 : Nat) : Int)) _ (by omega) (HPR.out _ PU2.out)).mono ?_
           rintro e u3 ⟨rfl, hor, hbr⟩
           have PU3 := Lib.hid (show Below w.heap.size w u3 from (HS.out.bel.trans (PU2.out.mono HS.out.bel.size)).trans (hbr _ (by have := HS.out.lo; have := HS.out.ge; omega)))
           have hcv : (convert 51 9 (.slice (some ⟨g, 0, none⟩) k cap)).run Try.prog u3 = .ok (.string (textL pre.reverse)) u3 := by
             have hlen : (pre.reverse.map (fun c => UInt8.ofNat c)).length = k := by rw [HKL.out]; simp
             have := run_convert_bytes_back (P := Try.prog) u3 51 9 5 ⟨g, 0, none⟩ cap (pre.reverse.map (fun c => UInt8.ofNat c)) Try.underlying51 Try.underlying5 Try.underlying9 (fun t ht => by
               obtain ⟨x, hx, -, -, hc⟩ := hor t (by omega)
               cases hx
               rw [hc, HKL.out, rev_code HLT.out (by have := HKL.out; omega)])
             rw [hlen] at this
             exact this
           clear hor hbr))
      simp only [Exit.jump]
      go_ret
      exact ⟨rfl, PU3.out⟩
    · obtain ⟨I, hI⟩ : ∃ I, i = I + 1 := ⟨i - 1, by omega⟩
      obtain ⟨J, hJ⟩ : ∃ J, j = J + 1 := ⟨j - 1, by omega⟩
      obtain ⟨N, hN⟩ : ∃ N, n = N + 1 := ⟨n - 1, by omega⟩
      have wI : IntKind.i64.wrap ((i : Int) - 1) = (I : Int) := by rw [IntKind.wrap_i64]; omega
      have wJ : IntKind.i64.wrap ((j : Int) - 1) = (J : Int) := by rw [IntKind.wrap_i64]; omega
      have HPC := Lib.hid (fun (C : Nat) (h : stepG a b p o c s i j = C) (hC : C = 61 ∨ C = 33) => show (pre ++ [C]) ++ backE (stepG a b p o c s) N I J = L by
        have e2 : i - 1 = I := by omega
        have e3 : j - 1 = J := by omega
        rw [← HP.out, hN, backE, h, if_pos hC, e2, e3]
        simp)
      have HI := Lib.hid (show i = I + 1 ∧ j = J + 1 ∧ n = N + 1 from ⟨hI, hJ, hN⟩)
      clear hI hJ hN e1 e2
      rcases hs with hs | hs
      · have HPN := Lib.hid (HPC.out 61 hs (.inl rfl))
        obtain ⟨gx0, gx1⟩ := HS.out.box
        have hcell := (HS.out.grid i j (by omega) (.inl (by omega))).1
        have hcode : (editE (bx a) (bx b) p o c s i j).1 = 61 := hs
        rw [hcode] at hcell
        obtain ⟨xr, hxr⟩ : ∃ xr : Addr, xr = ⟨G, i * (b.size + 1) * 2, none⟩ := ⟨_, rfl⟩
        have HR2 := Lib.hid (fun W => HRo.out G i (by omega) W)
        rw [← hxr] at HR2
        have HX := Lib.hid hxr
        have HR3 := Lib.hid (show ∀ W, Calls Try.prog 70 #[.agg #[.slice (some ⟨G, 0, none⟩) ((a.size + 1) * (b.size + 1)) ((a.size + 1) * (b.size + 1)), .int .i64 ((b.size : Int) + 1)], .int .i64 i] W fun e w' => e = .returned (.slice (some xr) (b.size + 1) (b.size + 1)) ∧ Below W.heap.size W w' from fun W => by have := HR2.out W; rwa [Int.natCast_add] at this)
        have HCL := Lib.hid hcell
        have dJ : (j : Int) < (b.size : Int) + 1 := by omega
        clear hxr HR2 hcell hcode hs
        go_wp2_with (first
          |
            (go_at_call 70
             refine (HR3.out _).mono ?_
             rintro e u2 ⟨rfl, hbb⟩
             have PU2 := Lib.hid hbb
             have hstep : u2.cell? (xr.add (j * 2)) = some (.int .u8 61) := by
               rw [HX.out, add_at, ← Nat.add_mul]
               exact (hbb.cell (World.block_lt_of_cell? _ _ HCL.out)).trans HCL.out
             clear hbb)
          |
            (at_builtin
             refine wpList_append_cells _ rfl _ _ 51 rfl B0 5 ui (.int .u8 0) 1 1 Try.underlying51 hui huz hus hub rfl (by decide) _ _ _ rfl ((own_below HS.out.own PU2.out).alloc _)
               (some ⟨u2.heap.size, 0, none⟩) 1 1 (litOne (.int .u8 61)) rfl (cells_lit1 rfl) (fun _ _ => rfl) (by unfold maxLen; omega) (by omega) (by have := HS.out.lo; have := PU2.out.size; simp; omega) ?_
             intro v1 w2 hown hgrow hwhere
             have hown2 : w2.ownsRow B0 5 1 v1 (k + 1) ((pre ++ [61]).map (fun c : Nat => Value.int .u8 (c : Int))) := by
               rw [List.map_append]
               exact hown
             obtain ⟨g2, cap2, rfl⟩ : ∃ g2 cap2, v1 = .slice (some ⟨g2, 0, none⟩) (k + 1) cap2 := by
               rcases hown2.2 with ⟨_, hh0⟩ | ⟨g', cap', cur, e1, _⟩
               · simp at hh0
               · exact ⟨g', cap', e1⟩
             have HNX := Lib.hid (StepW.next HS.out (Below.grown (Below.alloc (PU2.out.mono HS.out.lo.2.2.2) (by have := HS.out.lo; have := PU2.out.size; omega) _) hgrow (by have := HS.out.lo; have := PU2.out.size; simp; omega) (fun j hj => ((own_below HS.out.own PU2.out).lt j hj).1)) hown2)
             clear hown hgrow hwhere hown2)
          )
        go_step3
        exact ⟨rfl, ⟨G, GB, B0, I, J, N, g2, k + 1, cap2, pre ++ [61], _, _, _, _, _, _, _, _, _, _, _, _, _, _, _, _, _, _, _, _, _, _, _, _, _, _, _, _, _, _, _, _, _, _, _, _, _, _, _, _, _, _, _, rfl, by have := HI.out; omega, by have := HI.out; omega, by have := HI.out; omega, by have := HI.out; omega, Lib.hid (by have := HKL.out; simp; omega), HPN, HNX⟩, by have := HI.out; simp [intOf]; omega⟩
      · have HPN := Lib.hid (HPC.out 33 hs (.inr rfl))
        obtain ⟨gx0, gx1⟩ := HS.out.box
        have hcell := (HS.out.grid i j (by omega) (.inl (by omega))).1
        have hcode : (editE (bx a) (bx b) p o c s i j).1 = 33 := hs
        rw [hcode] at hcell
        obtain ⟨xr, hxr⟩ : ∃ xr : Addr, xr = ⟨G, i * (b.size + 1) * 2, none⟩ := ⟨_, rfl⟩
        have HR2 := Lib.hid (fun W => HRo.out G i (by omega) W)
        rw [← hxr] at HR2
        have HX := Lib.hid hxr
        have HR3 := Lib.hid (show ∀ W, Calls Try.prog 70 #[.agg #[.slice (some ⟨G, 0, none⟩) ((a.size + 1) * (b.size + 1)) ((a.size + 1) * (b.size + 1)), .int .i64 ((b.size : Int) + 1)], .int .i64 i] W fun e w' => e = .returned (.slice (some xr) (b.size + 1) (b.size + 1)) ∧ Below W.heap.size W w' from fun W => by have := HR2.out W; rwa [Int.natCast_add] at this)
        have HCL := Lib.hid hcell
        have dJ : (j : Int) < (b.size : Int) + 1 := by omega
        clear hxr HR2 hcell hcode hs
        go_wp2_with (first
          |
            (go_at_call 70
             refine (HR3.out _).mono ?_
             rintro e u2 ⟨rfl, hbb⟩
             have PU2 := Lib.hid hbb
             have hstep : u2.cell? (xr.add (j * 2)) = some (.int .u8 33) := by
               rw [HX.out, add_at, ← Nat.add_mul]
               exact (hbb.cell (World.block_lt_of_cell? _ _ HCL.out)).trans HCL.out
             clear hbb)
          |
            (at_builtin
             refine wpList_append_cells _ rfl _ _ 51 rfl B0 5 ui (.int .u8 0) 1 1 Try.underlying51 hui huz hus hub rfl (by decide) _ _ _ rfl ((own_below HS.out.own PU2.out).alloc _)
               (some ⟨u2.heap.size, 0, none⟩) 1 1 (litOne (.int .u8 33)) rfl (cells_lit1 rfl) (fun _ _ => rfl) (by unfold maxLen; omega) (by omega) (by have := HS.out.lo; have := PU2.out.size; simp; omega) ?_
             intro v1 w2 hown hgrow hwhere
             have hown2 : w2.ownsRow B0 5 1 v1 (k + 1) ((pre ++ [33]).map (fun c : Nat => Value.int .u8 (c : Int))) := by
               rw [List.map_append]
               exact hown
             obtain ⟨g2, cap2, rfl⟩ : ∃ g2 cap2, v1 = .slice (some ⟨g2, 0, none⟩) (k + 1) cap2 := by
               rcases hown2.2 with ⟨_, hh0⟩ | ⟨g', cap', cur, e1, _⟩
               · simp at hh0
               · exact ⟨g', cap', e1⟩
             have HNX := Lib.hid (StepW.next HS.out (Below.grown (Below.alloc (PU2.out.mono HS.out.lo.2.2.2) (by have := HS.out.lo; have := PU2.out.size; omega) _) hgrow (by have := HS.out.lo; have := PU2.out.size; simp; omega) (fun j hj => ((own_below HS.out.own PU2.out).lt j hj).1)) hown2)
             clear hown hgrow hwhere hown2)
          )
        go_step3
        exact ⟨rfl, ⟨G, GB, B0, I, J, N, g2, k + 1, cap2, pre ++ [33], _, _, _, _, _, _, _, _, _, _, _, _, _, _, _, _, _, _, _, _, _, _, _, _, _, _, _, _, _, _, _, _, _, _, _, _, _, _, _, _, _, _, _, rfl, by have := HI.out; omega, by have := HI.out; omega, by have := HI.out; omega, by have := HI.out; omega, Lib.hid (by have := HKL.out; simp; omega), HPN, HNX⟩, by have := HI.out; simp [intOf]; omega⟩
    · obtain ⟨I, hI⟩ : ∃ I, i = I + 1 := ⟨i - 1, by omega⟩
      obtain ⟨N, hN⟩ : ∃ N, n = N + 1 := ⟨n - 1, by omega⟩
      have wI : IntKind.i64.wrap ((i : Int) - 1) = (I : Int) := by rw [IntKind.wrap_i64]; omega
      have HPN := Lib.hid (show (pre ++ [45]) ++ backE (stepG a b p o c s) N I j = L by
        have e2 : i - 1 = I := by omega
        rw [← HP.out, hN, backE, hs, if_neg (by omega), if_pos rfl, e2]
        simp)
      have HI := Lib.hid (show i = I + 1 ∧ n = N + 1 from ⟨hI, hN⟩)
      clear hI hN e1
      obtain ⟨gx0, gx1⟩ := HS.out.box
      have hcell := (HS.out.grid i j (by omega) (.inl (by omega))).1
      have hcode : (editE (bx a) (bx b) p o c s i j).1 = 45 := hs
      rw [hcode] at hcell
      obtain ⟨xr, hxr⟩ : ∃ xr : Addr, xr = ⟨G, i * (b.size + 1) * 2, none⟩ := ⟨_, rfl⟩
      have HR2 := Lib.hid (fun W => HRo.out G i (by omega) W)
      rw [← hxr] at HR2
      have HX := Lib.hid hxr
      have HR3 := Lib.hid (show ∀ W, Calls Try.prog 70 #[.agg #[.slice (some ⟨G, 0, none⟩) ((a.size + 1) * (b.size + 1)) ((a.size + 1) * (b.size + 1)), .int .i64 ((b.size : Int) + 1)], .int .i64 i] W fun e w' => e = .returned (.slice (some xr) (b.size + 1) (b.size + 1)) ∧ Below W.heap.size W w' from fun W => by have := HR2.out W; rwa [Int.natCast_add] at this)
      have HCL := Lib.hid hcell
      have dJ : (j : Int) < (b.size : Int) + 1 := by omega
      clear hxr HR2 hcell hcode hs
      go_wp2_with (first
        |
          (go_at_call 70
           refine (HR3.out _).mono ?_
           rintro e u2 ⟨rfl, hbb⟩
           have PU2 := Lib.hid hbb
           have hstep : u2.cell? (xr.add (j * 2)) = some (.int .u8 45) := by
             rw [HX.out, add_at, ← Nat.add_mul]
             exact (hbb.cell (World.block_lt_of_cell? _ _ HCL.out)).trans HCL.out
           clear hbb)
        |
          (at_builtin
           refine wpList_append_cells _ rfl _ _ 51 rfl B0 5 ui (.int .u8 0) 1 1 Try.underlying51 hui huz hus hub rfl (by decide) _ _ _ rfl ((own_below HS.out.own PU2.out).alloc _)
             (some ⟨u2.heap.size, 0, none⟩) 1 1 (litOne (.int .u8 45)) rfl (cells_lit1 rfl) (fun _ _ => rfl) (by unfold maxLen; omega) (by omega) (by have := HS.out.lo; have := PU2.out.size; simp; omega) ?_
           intro v1 w2 hown hgrow hwhere
           have hown2 : w2.ownsRow B0 5 1 v1 (k + 1) ((pre ++ [45]).map (fun c : Nat => Value.int .u8 (c : Int))) := by
             rw [List.map_append]
             exact hown
           obtain ⟨g2, cap2, rfl⟩ : ∃ g2 cap2, v1 = .slice (some ⟨g2, 0, none⟩) (k + 1) cap2 := by
             rcases hown2.2 with ⟨_, hh0⟩ | ⟨g', cap', cur, e1, _⟩
             · simp at hh0
             · exact ⟨g', cap', e1⟩
           have HNX := Lib.hid (StepW.next HS.out (Below.grown (Below.alloc (PU2.out.mono HS.out.lo.2.2.2) (by have := HS.out.lo; have := PU2.out.size; omega) _) hgrow (by have := HS.out.lo; have := PU2.out.size; simp; omega) (fun j hj => ((own_below HS.out.own PU2.out).lt j hj).1)) hown2)
           clear hown hgrow hwhere hown2)
        )
      go_step3
      exact ⟨rfl, ⟨G, GB, B0, I, j, N, g2, k + 1, cap2, pre ++ [45], _, _, _, _, _, _, _, _, _, _, _, _, _, _, _, _, _, _, _, _, _, _, _, _, _, _, _, _, _, _, _, _, _, _, _, _, _, _, _, _, _, _, _, rfl, by have := HI.out; omega, by have := HI.out; omega, by have := HI.out; omega, by have := HI.out; omega, Lib.hid (by have := HKL.out; simp; omega), HPN, HNX⟩, by have := HI.out; simp [intOf]; omega⟩
    · obtain ⟨J, hJ⟩ : ∃ J, j = J + 1 := ⟨j - 1, by omega⟩
      obtain ⟨N, hN⟩ : ∃ N, n = N + 1 := ⟨n - 1, by omega⟩
      have wJ : IntKind.i64.wrap ((j : Int) - 1) = (J : Int) := by rw [IntKind.wrap_i64]; omega
      have HPN := Lib.hid (show (pre ++ [43]) ++ backE (stepG a b p o c s) N i J = L by
        have e2 : j - 1 = J := by omega
        rw [← HP.out, hN, backE, hs, if_neg (by omega), if_neg (by omega), if_pos rfl, e2]
        simp)
      have HI := Lib.hid (show j = J + 1 ∧ n = N + 1 from ⟨hJ, hN⟩)
      clear hJ hN e1
      obtain ⟨gx0, gx1⟩ := HS.out.box
      have hcell := (HS.out.grid i j (by omega) (.inl (by omega))).1
      have hcode : (editE (bx a) (bx b) p o c s i j).1 = 43 := hs
      rw [hcode] at hcell
      obtain ⟨xr, hxr⟩ : ∃ xr : Addr, xr = ⟨G, i * (b.size + 1) * 2, none⟩ := ⟨_, rfl⟩
      have HR2 := Lib.hid (fun W => HRo.out G i (by omega) W)
      rw [← hxr] at HR2
      have HX := Lib.hid hxr
      have HR3 := Lib.hid (show ∀ W, Calls Try.prog 70 #[.agg #[.slice (some ⟨G, 0, none⟩) ((a.size + 1) * (b.size + 1)) ((a.size + 1) * (b.size + 1)), .int .i64 ((b.size : Int) + 1)], .int .i64 i] W fun e w' => e = .returned (.slice (some xr) (b.size + 1) (b.size + 1)) ∧ Below W.heap.size W w' from fun W => by have := HR2.out W; rwa [Int.natCast_add] at this)
      have HCL := Lib.hid hcell
      have dJ : (j : Int) < (b.size : Int) + 1 := by omega
      clear hxr HR2 hcell hcode hs
      go_wp2_with (first
        |
          (go_at_call 70
           refine (HR3.out _).mono ?_
           rintro e u2 ⟨rfl, hbb⟩
           have PU2 := Lib.hid hbb
           have hstep : u2.cell? (xr.add (j * 2)) = some (.int .u8 43) := by
             rw [HX.out, add_at, ← Nat.add_mul]
             exact (hbb.cell (World.block_lt_of_cell? _ _ HCL.out)).trans HCL.out
           clear hbb)
        |
          (at_builtin
           refine wpList_append_cells _ rfl _ _ 51 rfl B0 5 ui (.int .u8 0) 1 1 Try.underlying51 hui huz hus hub rfl (by decide) _ _ _ rfl ((own_below HS.out.own PU2.out).alloc _)
             (some ⟨u2.heap.size, 0, none⟩) 1 1 (litOne (.int .u8 43)) rfl (cells_lit1 rfl) (fun _ _ => rfl) (by unfold maxLen; omega) (by omega) (by have := HS.out.lo; have := PU2.out.size; simp; omega) ?_
           intro v1 w2 hown hgrow hwhere
           have hown2 : w2.ownsRow B0 5 1 v1 (k + 1) ((pre ++ [43]).map (fun c : Nat => Value.int .u8 (c : Int))) := by
             rw [List.map_append]
             exact hown
           obtain ⟨g2, cap2, rfl⟩ : ∃ g2 cap2, v1 = .slice (some ⟨g2, 0, none⟩) (k + 1) cap2 := by
             rcases hown2.2 with ⟨_, hh0⟩ | ⟨g', cap', cur, e1, _⟩
             · simp at hh0
             · exact ⟨g', cap', e1⟩
           have HNX := Lib.hid (StepW.next HS.out (Below.grown (Below.alloc (PU2.out.mono HS.out.lo.2.2.2) (by have := HS.out.lo; have := PU2.out.size; omega) _) hgrow (by have := HS.out.lo; have := PU2.out.size; simp; omega) (fun j hj => ((own_below HS.out.own PU2.out).lt j hj).1)) hown2)
           clear hown hgrow hwhere hown2)
        )
      go_step3
      exact ⟨rfl, ⟨G, GB, B0, i, J, N, g2, k + 1, cap2, pre ++ [43], _, _, _, _, _, _, _, _, _, _, _, _, _, _, _, _, _, _, _, _, _, _, _, _, _, _, _, _, _, _, _, _, _, _, _, _, _, _, _, _, _, _, _, rfl, by have := HI.out; omega, by have := HI.out; omega, by have := HI.out; omega, by have := HI.out; omega, Lib.hid (by have := HKL.out; simp; omega), HPN, HNX⟩, by have := HI.out; simp [intOf]; omega⟩
end Go.Proofs.Ytcnamfjojdjjgaa
