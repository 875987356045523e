/- The decimal text of an integer, as the reference writes it. -/
import Derived.Test.YtcjblilmnhgioaaDoorProg
import Derived.Lib.ItoaNum
import Derived.Lib.ItoaMem
import Derived.Lib.ItoaLen
import Derived.OwnWalk
import Derived.Laws.OwnMore
import Derived.Laws.IdiomStrings
import Derived.WalkKit
import Derived.Below
set_option linter.unusedVariables false
namespace Go.Proofs.YtcjblilmnhgioaaDoor
open Go.RowKit

/-- Bytes as cells. -/
def cellsB (l : List UInt8) : List Value := l.map fun b => Value.int .u8 (b.toNat : Int)

/-- A value is a slice of these bytes. -/
def IsBytes (w : World) (ad : Addr) (m : Nat) (l : List UInt8) : Prop := m = l.length ∧ ∀ j u, (cellsB l)[j]? = some u → w.cell? (ad.add j) = some u

theorem info_u8 : (Tryd.prog.info? 5).map (fun i => (i.zero, i.size, i.bytes)) = some (some (.int .u8 0), 1, 1) := by kernel_rfl

theorem cellsB_len (l : List UInt8) : (cellsB l).length = l.length := by simp [cellsB]
theorem cellsB_one (l : List UInt8) : ∀ u ∈ cellsB l, u.oneCell' = true := by
  intro u hu
  obtain ⟨b, _, rfl⟩ := List.mem_map.1 hu
  rfl

/-- What the append leaves reads so. -/
theorem IsBytes.of_own {w : World} {base e : Nat} {v : Value} {n : Nat} {xs : List Value} {l : List UInt8} (h : w.ownsRow base e 1 v n xs) (hx : xs = cellsB l) (hv : ¬ v = .slice none 0 0) :
    ∃ g c, v = .slice (some ⟨g, 0, none⟩) n c ∧ base ≤ g ∧ IsBytes w ⟨g, 0, none⟩ n l := by
  subst hx
  have hl : n = l.length := by have := h.1; rw [cellsB_len] at this; omega
  rcases h.2 with ⟨h1, _⟩ | ⟨g, c, cur, h1, hb, h3, h4, h5, h6, h7⟩
  · exact absurd h1 hv
  · refine ⟨g, c, h1, hb, hl, fun j u hu => ?_⟩
    rw [Lib.add_plain, Nat.zero_add]
    rw [h1] at h
    have hj : j < n * 1 := by
      have := (List.getElem?_eq_some_iff.1 hu).1
      rw [cellsB_len] at this
      omega
    rw [h.cellAt j hj]
    exact hu

/-- The digits so far: r is what is left of u. -/
def DecInv (u r : Nat) (l : List UInt8) : Prop := r ≤ u ∧ ((l = [] ∧ r = u) ∨ (l ≠ [] ∧ r ≠ 0 ∧ Lib.decDigits r ++ l = Lib.decDigits u) ∨ (l ≠ [] ∧ r = 0 ∧ l = Lib.decDigits u))

theorem DecInv.step {u r : Nat} {l : List UInt8} (h : DecInv u r l) (hgo : l = [] ∨ r ≠ 0) : DecInv u (r / 10) (UInt8.ofNat (48 + r % 10) :: l) := by
  have key : Lib.decDigits r ++ l = Lib.decDigits u := by
    rcases h.2 with ⟨rfl, rfl⟩ | ⟨_, _, h⟩ | ⟨h1, h2, _⟩
    · simp
    · exact h
    · rcases hgo with h | h
      · exact absurd h h1
      · exact absurd h2 h
  refine ⟨Nat.le_trans (Nat.div_le_self _ _) h.1, ?_⟩
  have hd : Lib.decDigits r = if r < 10 then [UInt8.ofNat (48 + r)] else Lib.decDigits (r / 10) ++ [UInt8.ofNat (48 + r % 10)] := by
    rw [Lib.decDigits]
    rfl
  by_cases h10 : r < 10
  · right; right
    refine ⟨by simp, by omega, ?_⟩
    rw [hd, if_pos h10] at key
    rw [← key, show r % 10 = r by omega]
    rfl
  · right; left
    refine ⟨by simp, by omega, ?_⟩
    rw [hd, if_neg h10] at key
    rw [← key]
    simp
theorem DecInv.done {u : Nat} {l : List UInt8} (h : DecInv u 0 l) (hl : l ≠ []) : l = Lib.decDigits u := by
  rcases h.2 with ⟨h1, _⟩ | ⟨_, h2, _⟩ | ⟨_, _, h3⟩
  · exact absurd h1 hl
  · exact absurd rfl h2
  · exact h3
/-- It never grows past 20 digits. -/
theorem DecInv.len {u r : Nat} {l : List UInt8} (h : DecInv u r l) : l.length ≤ Lib.nDigits u := by
  rcases h.2 with ⟨rfl, _⟩ | ⟨_, _, h⟩ | ⟨_, _, h⟩
  · simp
  · rw [← Lib.decDigits_length, ← h]; simp
  · rw [← Lib.decDigits_length, ← h]; exact Nat.le_refl _

def digP (r : Nat) : Int := 48 + (r : Int) % 10
def digN (r : Nat) : Int := 48 + -((r : Int) % 10)
theorem u8_dig (r : Nat) : ((UInt8.ofNat (48 + r % 10)).toNat : Int) = digP r := by
  unfold digP
  rw [UInt8.toNat_ofNat']
  omega
theorem u8_45 : (((45 : UInt8).toNat : Nat) : Int) = 45 := rfl
theorem u8_dig0 {r : Nat} (h : r % 10 = 0) : ((UInt8.ofNat (48 + r % 10)).toNat : Int) = digN r := by
  unfold digN
  rw [UInt8.toNat_ofNat']
  omega
def lenOf : Value → Nat | .slice _ n _ => n | _ => 0
def decM (v rest : Value) : Nat := (intOf rest).natAbs + (if lenOf v = 0 then 1 else 0)
theorem decM_lt {a b : Option Addr} {m c1 c : Nat} {k : IntKind} {x y : Int} (h : (m = 0 ∧ x.natAbs ≤ y.natAbs) ∨ (m ≠ 0 ∧ x.natAbs < y.natAbs)) : decM (.slice a (1 + m) c1) (.int k x) < decM (.slice b m c) (.int k y) := by
  show x.natAbs + (if 1 + m = 0 then 1 else 0) < y.natAbs + (if m = 0 then 1 else 0)
  rw [if_neg (by omega)]
  rcases h with ⟨h1, h2⟩ | ⟨h1, h2⟩
  · rw [if_pos h1]; omega
  · rw [if_neg h1]; omega
/-- The remainder and its amount. -/
def restV (neg : Bool) (r : Nat) : Int := if neg then -(r : Int) else r

theorem ne_neg {r : Nat} (h : ¬ -(r : Int) = 0) : (-(r : Int) != 0) = true := by rw [bne_iff_ne]; exact h
theorem ne_pos {r : Nat} (h : ¬ (r : Int) = 0) : ((r : Int) != 0) = true := by rw [bne_iff_ne]; exact h
theorem restN {n : Int} (hn : n < 0) (r : Nat) : restV (decide (n < 0)) r = -(r : Int) := by rw [decide_eq_true hn]; rfl
theorem restP {n : Int} (hn : ¬ n < 0) (r : Nat) : restV (decide (n < 0)) r = (r : Int) := by rw [decide_eq_false hn]; rfl
theorem bytes_conv {w : World} {ad : Addr} {m : Nat} {l : List UInt8} (h : IsBytes w ad m l) (c : Nat) : (convert 41 9 (.slice (some ad) m c)).run Tryd.prog w = .ok (.string ⟨l.toArray⟩) w := by
  obtain ⟨rfl, h2⟩ := h
  exact run_convert_bytes_back w _ _ _ ad c l Tryd.underlying41 Tryd.underlying5 Tryd.underlying9 (fun j hj => h2 j _ (by simp [cellsB, hj]))
theorem ret_str {a b : List UInt8} (h : a = b) : Ending.returned (.string ⟨a.toArray⟩) = .returned (.string ⟨b.toArray⟩) := by rw [h]

set_option maxHeartbeats 4000000 in
theorem l01Dec_any (n : Int) (w : World) (h0 : -9223372036854775808 ≤ n) (h1 : n ≤ 9223372036854775807) :
    Calls Tryd.prog 19 #[.int .i64 n] w fun e w' => e = .returned (.string ⟨(Lib.itoa n).toArray⟩) ∧ Below w.heap.size w w' := by
  obtain ⟨i, hi, hz, hs, hb⟩ := info_parts info_u8
  have hu := Lib.hid (show n.natAbs < 18446744073709551616 by omega)
  go_enter Tryd.func19, Tryd.ntmps19
  go_wp2
  go_loopw [3, 4] (fun v rest wr => ∃ (ad : Addr) (m c r : Nat) (l : List UInt8), v = .slice (some ad) m c ∧ rest = .int .i64 (restV (decide (n < 0)) r) ∧ Hid (IsBytes wr ad m l) ∧ Hid (DecInv n.natAbs r l) ∧ Hid (Below w.heap.size w wr)) (fun v rest _ => decM v rest)
  case atStart =>
    refine ⟨_, _, _, n.natAbs, [], rfl, ?_, Lib.hid ⟨rfl, fun j u hu => by simp [cellsB] at hu⟩, Lib.hid ⟨Nat.le_refl _, .inl ⟨rfl, rfl⟩⟩, Lib.hid ((Below.refl _ _).alloc (Nat.le_refl _) _)⟩
    unfold restV
    by_cases hn : n < 0
    · rw [decide_eq_true hn, if_pos rfl]; congr 1; omega
    · rw [decide_eq_false hn]; simp only [Bool.false_eq_true, if_false]; congr 1; omega
  case round =>
    obtain ⟨ad, m, c, r, l, rfl, rfl, HB, HD, HW⟩ := hrel
    by_cases hgo : l = [] ∨ r ≠ 0
    · have HN := Lib.hid (HD.out.step hgo)
      have hlen := HD.out.len
      have hr20 : l.length ≤ 20 := Nat.le_trans hlen (Lib.nDigits_le20 _ hu.out)
      have hm20 : m ≤ 20 := by rw [HB.out.1]; exact hr20
      have hml := Lib.hid HB.out.1
      have hcells := Lib.hid (fun (o : Obj) j u (hu : (cellsB l)[j]? = some u) => show (wr.alloc o).cell? (ad.add j) = some u by
        have h2 := HB.out.2 j u hu
        exact (((Below.refl wr.heap.size wr).alloc (Nat.le_refl _) o).cell (World.block_lt_of_cell? _ _ h2)).trans h2)
      by_cases hn : n < 0
      · rw [restN hn r]
        have hrest := Lib.hid (restN hn (r / 10))
        have hru : r ≤ n.natAbs := HD.out.1
        have hmr : (m : Int) = 0 ∨ (¬ (m : Int) = 0 ∧ ¬ -(r : Int) = 0) := by
          rcases hgo with h | h
          · subst h; left; rw [hml.out]; rfl
          · by_cases h0 : m = 0
            · left; omega
            · right; omega
        by_cases hr10 : r % 10 = 0
        · have hb8 := Lib.hid (u8_dig0 hr10)
          rcases hmr with hm | ⟨hm, hr0⟩
          · skip
            go_wp2_with (first
              | (at_builtin; refine wpList_append_own _ rfl _ _ 41 rfl w.heap.size 5 i (.int .u8 0) 1 1 Tryd.underlying41 hi hz hs hb rfl (by decide) (.slice (some ⟨wr.heap.size, 0, none⟩) 1 1) 1 _ rfl (World.ownsRow_lit wr #[.int .u8 ((digN<|r))] 1 HW.out.size (by unfold maxLen; omega) rfl) ad _ c (cellsB l) rfl (by rw [cellsB_len, ← hml.out]; omega) (hcells.out _) (cellsB_one l) (by unfold maxLen; omega) (by omega) (by have := HW.out.size; simp; omega) ?_; intro v1 w1 hown1 hgrow1 hnil1)
              | go_in)
            have hv1 : ¬ v1 = .slice none 0 0 := fun h => by have h2 := (hnil1.1 h).1; cases h2
            obtain ⟨g1, c1, rfl, hg1, hB1⟩ := IsBytes.of_own (l := (UInt8.ofNat<|48+r%10) :: l) hown1 (by unfold cellsB; rw [List.map_cons, hb8.out]; rfl) hv1
            have hW1 := Lib.hid ((HW.out.alloc HW.out.size (.cells #[.int .u8 ((digN<|r))] 5)).grown hgrow1 (by have := HW.out.size; simp; omega) (fun k hk => by cases hk; exact HW.out.size))
            go_wp2_with fail
            exact ⟨⟨_, _, _, r / 10, _, rfl, by rw [hrest.out]; rfl, Lib.hid hB1, HN, hW1⟩, decM_lt (by omega)⟩
          · have hrb := ne_neg hr0
            go_wp2_with (first
              | (at_builtin; refine wpList_append_own _ rfl _ _ 41 rfl w.heap.size 5 i (.int .u8 0) 1 1 Tryd.underlying41 hi hz hs hb rfl (by decide) (.slice (some ⟨wr.heap.size, 0, none⟩) 1 1) 1 _ rfl (World.ownsRow_lit wr #[.int .u8 ((digN<|r))] 1 HW.out.size (by unfold maxLen; omega) rfl) ad _ c (cellsB l) rfl (by rw [cellsB_len, ← hml.out]; omega) (hcells.out _) (cellsB_one l) (by unfold maxLen; omega) (by omega) (by have := HW.out.size; simp; omega) ?_; intro v1 w1 hown1 hgrow1 hnil1)
              | go_in)
            have hv1 : ¬ v1 = .slice none 0 0 := fun h => by have h2 := (hnil1.1 h).1; cases h2
            obtain ⟨g1, c1, rfl, hg1, hB1⟩ := IsBytes.of_own (l := (UInt8.ofNat<|48+r%10) :: l) hown1 (by unfold cellsB; rw [List.map_cons, hb8.out]; rfl) hv1
            have hW1 := Lib.hid ((HW.out.alloc HW.out.size (.cells #[.int .u8 ((digN<|r))] 5)).grown hgrow1 (by have := HW.out.size; simp; omega) (fun k hk => by cases hk; exact HW.out.size))
            go_wp2_with fail
            exact ⟨⟨_, _, _, r / 10, _, rfl, by rw [hrest.out]; rfl, Lib.hid hB1, HN, hW1⟩, decM_lt (by omega)⟩
        · have hb8 := Lib.hid (u8_dig r)
          rcases hmr with hm | ⟨hm, hr0⟩
          · skip
            go_wp2_with (first
              | (at_builtin; refine wpList_append_own _ rfl _ _ 41 rfl w.heap.size 5 i (.int .u8 0) 1 1 Tryd.underlying41 hi hz hs hb rfl (by decide) (.slice (some ⟨wr.heap.size, 0, none⟩) 1 1) 1 _ rfl (World.ownsRow_lit wr #[.int .u8 ((digP<|r))] 1 HW.out.size (by unfold maxLen; omega) rfl) ad _ c (cellsB l) rfl (by rw [cellsB_len, ← hml.out]; omega) (hcells.out _) (cellsB_one l) (by unfold maxLen; omega) (by omega) (by have := HW.out.size; simp; omega) ?_; intro v1 w1 hown1 hgrow1 hnil1)
              | go_in)
            have hv1 : ¬ v1 = .slice none 0 0 := fun h => by have h2 := (hnil1.1 h).1; cases h2
            obtain ⟨g1, c1, rfl, hg1, hB1⟩ := IsBytes.of_own (l := (UInt8.ofNat<|48+r%10) :: l) hown1 (by unfold cellsB; rw [List.map_cons, hb8.out]; rfl) hv1
            have hW1 := Lib.hid ((HW.out.alloc HW.out.size (.cells #[.int .u8 ((digP<|r))] 5)).grown hgrow1 (by have := HW.out.size; simp; omega) (fun k hk => by cases hk; exact HW.out.size))
            go_wp2_with fail
            exact ⟨⟨_, _, _, r / 10, _, rfl, by rw [hrest.out]; rfl, Lib.hid hB1, HN, hW1⟩, decM_lt (by omega)⟩
          · have hrb := ne_neg hr0
            go_wp2_with (first
              | (at_builtin; refine wpList_append_own _ rfl _ _ 41 rfl w.heap.size 5 i (.int .u8 0) 1 1 Tryd.underlying41 hi hz hs hb rfl (by decide) (.slice (some ⟨wr.heap.size, 0, none⟩) 1 1) 1 _ rfl (World.ownsRow_lit wr #[.int .u8 ((digP<|r))] 1 HW.out.size (by unfold maxLen; omega) rfl) ad _ c (cellsB l) rfl (by rw [cellsB_len, ← hml.out]; omega) (hcells.out _) (cellsB_one l) (by unfold maxLen; omega) (by omega) (by have := HW.out.size; simp; omega) ?_; intro v1 w1 hown1 hgrow1 hnil1)
              | go_in)
            have hv1 : ¬ v1 = .slice none 0 0 := fun h => by have h2 := (hnil1.1 h).1; cases h2
            obtain ⟨g1, c1, rfl, hg1, hB1⟩ := IsBytes.of_own (l := (UInt8.ofNat<|48+r%10) :: l) hown1 (by unfold cellsB; rw [List.map_cons, hb8.out]; rfl) hv1
            have hW1 := Lib.hid ((HW.out.alloc HW.out.size (.cells #[.int .u8 ((digP<|r))] 5)).grown hgrow1 (by have := HW.out.size; simp; omega) (fun k hk => by cases hk; exact HW.out.size))
            go_wp2_with fail
            exact ⟨⟨_, _, _, r / 10, _, rfl, by rw [hrest.out]; rfl, Lib.hid hB1, HN, hW1⟩, decM_lt (by omega)⟩
      · rw [restP hn r]
        have hrest := Lib.hid (restP hn (r / 10))
        have hru : r ≤ n.natAbs := HD.out.1
        have hin : n.natAbs ≤ 9223372036854775807 := by omega
        have hmr : (m : Int) = 0 ∨ (¬ (m : Int) = 0 ∧ ¬ (r : Int) = 0) := by
          rcases hgo with h | h
          · subst h; left; rw [hml.out]; rfl
          · by_cases h0 : m = 0
            · left; omega
            · right; omega
        have hb8 := Lib.hid (u8_dig r)
        rcases hmr with hm | ⟨hm, hr0⟩
        · skip
          go_wp2_with (first
            | (at_builtin; refine wpList_append_own _ rfl _ _ 41 rfl w.heap.size 5 i (.int .u8 0) 1 1 Tryd.underlying41 hi hz hs hb rfl (by decide) (.slice (some ⟨wr.heap.size, 0, none⟩) 1 1) 1 _ rfl (World.ownsRow_lit wr #[.int .u8 ((digP<|r))] 1 HW.out.size (by unfold maxLen; omega) rfl) ad _ c (cellsB l) rfl (by rw [cellsB_len, ← hml.out]; omega) (hcells.out _) (cellsB_one l) (by unfold maxLen; omega) (by omega) (by have := HW.out.size; simp; omega) ?_; intro v1 w1 hown1 hgrow1 hnil1)
            | go_in)
          have hv1 : ¬ v1 = .slice none 0 0 := fun h => by have h2 := (hnil1.1 h).1; cases h2
          obtain ⟨g1, c1, rfl, hg1, hB1⟩ := IsBytes.of_own (l := (UInt8.ofNat<|48+r%10) :: l) hown1 (by unfold cellsB; rw [List.map_cons, hb8.out]; rfl) hv1
          have hW1 := Lib.hid ((HW.out.alloc HW.out.size (.cells #[.int .u8 ((digP<|r))] 5)).grown hgrow1 (by have := HW.out.size; simp; omega) (fun k hk => by cases hk; exact HW.out.size))
          go_wp2_with fail
          exact ⟨⟨_, _, _, r / 10, _, rfl, by rw [hrest.out]; rfl, Lib.hid hB1, HN, hW1⟩, decM_lt (by omega)⟩
        · have hrb := ne_pos hr0
          go_wp2_with (first
            | (at_builtin; refine wpList_append_own _ rfl _ _ 41 rfl w.heap.size 5 i (.int .u8 0) 1 1 Tryd.underlying41 hi hz hs hb rfl (by decide) (.slice (some ⟨wr.heap.size, 0, none⟩) 1 1) 1 _ rfl (World.ownsRow_lit wr #[.int .u8 ((digP<|r))] 1 HW.out.size (by unfold maxLen; omega) rfl) ad _ c (cellsB l) rfl (by rw [cellsB_len, ← hml.out]; omega) (hcells.out _) (cellsB_one l) (by unfold maxLen; omega) (by omega) (by have := HW.out.size; simp; omega) ?_; intro v1 w1 hown1 hgrow1 hnil1)
            | go_in)
          have hv1 : ¬ v1 = .slice none 0 0 := fun h => by have h2 := (hnil1.1 h).1; cases h2
          obtain ⟨g1, c1, rfl, hg1, hB1⟩ := IsBytes.of_own (l := (UInt8.ofNat<|48+r%10) :: l) hown1 (by unfold cellsB; rw [List.map_cons, hb8.out]; rfl) hv1
          have hW1 := Lib.hid ((HW.out.alloc HW.out.size (.cells #[.int .u8 ((digP<|r))] 5)).grown hgrow1 (by have := HW.out.size; simp; omega) (fun k hk => by cases hk; exact HW.out.size))
          go_wp2_with fail
          exact ⟨⟨_, _, _, r / 10, _, rfl, by rw [hrest.out]; rfl, Lib.hid hB1, HN, hW1⟩, decM_lt (by omega)⟩
    · have hl : l ≠ [] := fun h => hgo (.inl h)
      have hr : r = 0 := by
        rcases Nat.eq_zero_or_pos r with h | h
        · exact h
        · exact absurd (.inr (by omega)) hgo
      subst hr
      have HF := Lib.hid (HD.out.done hl)
      have hlen := HD.out.len
      have hr20 : l.length ≤ 20 := Nat.le_trans hlen (Lib.nDigits_le20 _ hu.out)
      have hm20 : m ≤ 20 := by rw [HB.out.1]; exact hr20
      have hm : ¬ (m : Int) = 0 := by
        have h1 := HB.out.1
        have h2 : l.length ≠ 0 := fun h => hl (List.eq_nil_of_length_eq_zero h)
        omega
      have hml := Lib.hid HB.out.1
      have hcells := Lib.hid (fun (o : Obj) j u (hu : (cellsB l)[j]? = some u) => show (wr.alloc o).cell? (ad.add j) = some u by
        have h2 := HB.out.2 j u hu
        exact (((Below.refl wr.heap.size wr).alloc (Nat.le_refl _) o).cell (World.block_lt_of_cell? _ _ h2)).trans h2)
      by_cases hn : n < 0
      · rw [show restV (decide (n < 0)) 0 = 0 by rw [restN hn]; rfl]
        have hI := Lib.hid (show (45 : UInt8) :: l = Lib.itoa n by unfold Lib.itoa; rw [if_pos hn, HF.out])
        go_wp2_with (first
          | (at_builtin; refine wpList_append_own _ rfl _ _ 41 rfl w.heap.size 5 i (.int .u8 0) 1 1 Tryd.underlying41 hi hz hs hb rfl (by decide) (.slice (some ⟨wr.heap.size, 0, none⟩) 1 1) 1 _ rfl (World.ownsRow_lit wr #[.int .u8 ((45:Int))] 1 HW.out.size (by unfold maxLen; omega) rfl) ad _ c (cellsB l) rfl (by rw [cellsB_len, ← hml.out]; omega) (hcells.out _) (cellsB_one l) (by unfold maxLen; omega) (by omega) (by have := HW.out.size; simp; omega) ?_; intro v1 w1 hown1 hgrow1 hnil1)
          | go_in)
        have hv1 : ¬ v1 = .slice none 0 0 := fun h => by have h2 := (hnil1.1 h).1; cases h2
        obtain ⟨g1, c1, rfl, hg1, hB1⟩ := IsBytes.of_own (l := (45:UInt8) :: l) hown1 (by unfold cellsB; rw [List.map_cons, (u8_45)]; rfl) hv1
        have hW1 := Lib.hid ((HW.out.alloc HW.out.size (.cells #[.int .u8 ((45:Int))] 5)).grown hgrow1 (by have := HW.out.size; simp; omega) (fun k hk => by cases hk; exact HW.out.size))
        have hcv := bytes_conv hB1 c1
        go_wp2_with fail
        rw [hcv]
        go_wp2_with fail
        go_ret
        exact ⟨ret_str hI.out, hW1.out⟩
      · rw [show restV (decide (n < 0)) 0 = 0 by rw [restP hn]; rfl]
        have hI := Lib.hid (show l = Lib.itoa n by unfold Lib.itoa; rw [if_neg hn, HF.out]; congr 1; omega)
        have hcv := bytes_conv HB.out c
        go_wp2
        go_ret
        exact ⟨ret_str hI.out, HW.out⟩
end Go.Proofs.YtcjblilmnhgioaaDoor
