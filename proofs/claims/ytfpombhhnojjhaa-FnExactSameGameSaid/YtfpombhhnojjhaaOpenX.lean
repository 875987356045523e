/- Structs that come in: opened to the cells of their rows. -/
import Derived.Test.YtfpombhhnojjhaaChecked
import Derived.Test.YtfpombhhnojjhaaCells
import Derived.Test.YtfpombhhnojjhaaRowk
import Derived.Lib.SmallJoins
import Derived.ChangeArms
import Derived.ChangeSlices
import Derived.Deep.Fields
set_option linter.unusedVariables false
namespace Go.Proofs.Ytfpombhhnojjhaa
open Go.ChangeShapes Go.WideShapes Go.RowKit Go.Deep

/-- A struct of one-cell fields, by value: each field's own reading. -/
theorem fields_of {H : Type} {enc : TypeId × Value → H} {P : Program} {w : World} {base : Nat} {spare : Nat → Bool} {held : Bool} {r : Reach} {b0 : Nat} {t : TypeId} {fs : Array Field} {v : Value} {d : DataW H} {p : List MemPlace}
    (hs : P.underlying t = some (.struct fs)) (hone : oneCellFields P fs = true) (hC : P.cellsOf t = fs.size) (hv : Value.okWide P w r b0 t v) (h : DataW.Trod enc P w base spare held t v d p) :
    ∃ cs : Array Value, v = .agg cs ∧ cs.size = fs.size ∧ ∃ n, ∀ (j : Nat) (f : Field) (u : Value), fs[j]? = some f → cs[j]? = some u → ∃ y, DataW.trod enc P w base spare held n f.type [u] = some y := by
  obtain ⟨cs, rfl, hsz⟩ := okWide_struct hs hv
  refine ⟨cs, rfl, hsz.trans hC, ?_⟩
  obtain ⟨fuel, hf⟩ := h
  obtain ⟨xs, n, _, hx, _, hlen, hg⟩ := DataW.trod_struct hs hf
  refine ⟨n, fun j f u hj hu => ?_⟩
  obtain ⟨ho, hk⟩ := hone_of hone j f hj
  have h1 := hg j f hj
  rw [ho, hk] at h1
  have hjl : j < cs.size := (Array.getElem?_eq_some_iff.1 hu).1
  have hxl : j < xs.length := by rw [hlen, ← hC, ← hsz]; exact hjl
  have hc : ((Value.agg cs).cells.toList.drop j).take 1 = [u] := by
    have hl : (Value.agg cs).cells.toList = cs.toList := by simp [Value.cells]
    rw [hl, List.drop_eq_getElem_cons (by simpa using hjl)]
    have : cs.toList[j]'(by simpa using hjl) = u := by simpa using (Array.getElem?_eq_some_iff.1 hu).2
    simp [this]
  rw [hc, List.getElem?_eq_getElem hxl] at h1
  exact ⟨_, h1⟩

theorem cells_ints {H : Type} {enc : TypeId × Value → H} {P : Program} {w : World} {base : Nat} {spare : Nat → Bool} {held : Bool} {t e : TypeId} {fuel : Nat} {v : Value} {x : DataW H × List MemPlace}
    (ht : P.underlying t = some (.slice e)) (he : P.underlying e = some (.int .i64)) (hc : P.cellsOf e = 1) (h : DataW.trod enc P w base spare held fuel t [v] = some x) (hs : ∀ n, spare n = true) :
    ∃ (A : Option Addr) (n c : Nat) (f : Nat → Int), v = .slice A n c ∧ n ≤ 9223372036854775807 ∧ Cells w A n (fun i => .int .i64 (f i)) := by
  rcases open_ints ht he hc h with ⟨hcs, _⟩ | ⟨a, len, cap, zs, hcs, _, hl, hm, hz, _, hcell, _⟩
  · injection hcs with h1
    subst h1
    exact ⟨none, 0, 0, fun _ => 0, rfl, by omega, Cells.zero⟩
  · injection hcs with h1
    subst h1
    rw [hs] at hz
    exact ⟨some a, len, cap, fun i => zs.getD i 0, rfl, by unfold maxLen at hm; omega, fun k hk => ⟨a, rfl, hcell k (by simp at hz; omega)⟩⟩

/-- A slice of structs of four integers: its cells. -/
theorem cells_quads {H : Type} {enc : TypeId × Value → H} {P : Program} {w : World} {base : Nat} {spare : Nat → Bool} {held : Bool} {t e : TypeId} {fs : Array Field} {fuel : Nat} {v : Value} {x : DataW H × List MemPlace}
    (ht : P.underlying t = some (.slice e)) (he : P.underlying e = some (.struct fs)) (h4 : fs.size = 4) (hone : oneCellFields P fs = true) (hC : P.cellsOf e = 4) (hint : ∀ (j : Nat) (f : Field), fs[j]? = some f → P.underlying f.type = some (.int .i64))
    (h : DataW.trod enc P w base spare held fuel t [v] = some x) (hs : ∀ n, spare n = true) :
    ∃ (A : Option Addr) (n c : Nat) (f : Nat → Int), v = .slice A n c ∧ n ≤ 9223372036854775807 ∧ Cells w A (n * 4) (fun i => .int .i64 (f i)) := by
  rcases open_slice ht h with ⟨hcs, _⟩ | ⟨a, len, cap, m, n, D, Pl, hcs, hb, hl, hm, hmm, hx, hi⟩
  · injection hcs with h1
    subst h1
    exact ⟨none, 0, 0, fun _ => 0, rfl, by omega, by rw [Nat.zero_mul]; exact Cells.zero⟩
  · injection hcs with h1
    subst h1
    rw [hs] at hmm
    have each : ∀ k, k < len * 4 → ∃ b : Int, w.cell? (a.add k) = some (.int .i64 b) := by
      intro k hk
      obtain ⟨cs, hc, htr⟩ := hi (k / 4) (by simp at hmm; omega)
      rw [hC] at hc
      obtain ⟨ys, n', _, _, hlen, _, hf⟩ := DataW.trod_struct he htr
      obtain ⟨_, hcl, hat⟩ := World.cells?_some hc
      have hj : k % 4 < 4 := Nat.mod_lt _ (by omega)
      obtain ⟨f, hfj⟩ : ∃ f, fs[k % 4]? = some f := ⟨_, Array.getElem?_eq_getElem (by omega)⟩
      obtain ⟨ho, hk1⟩ := hone_of hone (k % 4) f hfj
      have h1 := hf (k % 4) f hfj
      rw [ho, hk1] at h1
      have hd : (cs.drop (k % 4)).take 1 = [cs[k % 4]'(by omega)] := by
        rw [List.drop_eq_getElem_cons (by omega)]
        rfl
      rw [hd] at h1
      cases hy : ys[k % 4]? with
      | none => rw [List.getElem?_eq_none_iff] at hy; omega
      | some y =>
        rw [hy] at h1
        obtain ⟨b, hb1, _⟩ := DataW.trod_int (hint _ f hfj) h1
        refine ⟨b, ?_⟩
        have hcell := hat (k % 4) hj
        rw [Go.Deep.add_add, show k / 4 * 4 + k % 4 = k by omega] at hcell
        rw [hcell, List.getElem?_eq_getElem (by omega)]
        injection hb1 with hb2
        rw [hb2]
    obtain ⟨f, hf⟩ := choose_lt each
    exact ⟨some a, len, cap, f, rfl, by unfold maxLen at hm; omega, fun k hk => ⟨a, rfl, hf k hk⟩⟩

theorem cells_bools {H : Type} {enc : TypeId × Value → H} {P : Program} {w : World} {base : Nat} {spare : Nat → Bool} {held : Bool} {t e : TypeId} {fuel : Nat} {v : Value} {x : DataW H × List MemPlace}
    (ht : P.underlying t = some (.slice e)) (he : P.underlying e = some .bool) (hc : P.cellsOf e = 1) (h : DataW.trod enc P w base spare held fuel t [v] = some x) (hs : ∀ n, spare n = true) :
    ∃ (A : Option Addr) (n c : Nat) (f : Nat → Bool), v = .slice A n c ∧ n ≤ 9223372036854775807 ∧ Cells w A n (fun i => .bool (f i)) := by
  rcases open_slice1 ht hc h with ⟨hcs, _⟩ | ⟨a, len, cap, m, n, V, D, Pl, hcs, _, hl, hm, hz, _, h7⟩
  · injection hcs with h1
    subst h1
    exact ⟨none, 0, 0, fun _ => false, rfl, by omega, Cells.zero⟩
  · injection hcs with h1
    subst h1
    rw [hs] at hz
    have each : ∀ i, i < m → ∃ b : Bool, V i = .bool b := by
      intro i hi
      obtain ⟨b, hb, _⟩ := DataW.trod_bool he (h7 i hi).2
      exact ⟨b, by injection hb⟩
    obtain ⟨f, hf⟩ := choose_lt each
    exact ⟨some a, len, cap, f, rfl, by unfold maxLen at hm; omega, fun k hk => ⟨a, rfl, by rw [(h7 k (by simp at hz; omega)).1, hf k (by simp at hz; omega)]⟩⟩

theorem array_2 {cs : Array Value} (h : cs.size = 2) : ∃ a b, cs = #[a, b] := by
  obtain ⟨l⟩ := cs
  match l, h with
  | [a, b], _ => exact ⟨a, b, rfl⟩
theorem array_3 {cs : Array Value} (h : cs.size = 3) : ∃ a b c, cs = #[a, b, c] := by
  obtain ⟨l⟩ := cs
  match l, h with
  | [a, b, c], _ => exact ⟨a, b, c, rfl⟩
theorem array_4 {cs : Array Value} (h : cs.size = 4) : ∃ a b c d, cs = #[a, b, c, d] := by
  obtain ⟨l⟩ := cs
  match l, h with
  | [a, b, c, d], _ => exact ⟨a, b, c, d, rfl⟩
theorem array_5 {cs : Array Value} (h : cs.size = 5) : ∃ a b c d e, cs = #[a, b, c, d, e] := by
  obtain ⟨l⟩ := cs
  match l, h with
  | [a, b, c, d, e], _ => exact ⟨a, b, c, d, e, rfl⟩
end Go.Proofs.Ytfpombhhnojjhaa
