/- Least edits: the program's grid. -/
import Derived.Test.YtcnamfjojdjjgaaEditI3
set_option linter.unusedVariables false
namespace Go.Proofs.Ytcnamfjojdjjgaa
open Go.RowKit
theorem add_at (G m k : Nat) : (⟨G, m, none⟩ : Addr).add k = ⟨G, m + k, none⟩ := by
  unfold Addr.add
  by_cases h : k = 0
  · simp [h]
  · simp [h]
theorem leastF_3 (q : Nat → Nat × Int) : leastF q 3 = leastO (q 0) [q 1, q 2] := rfl
theorem leastF_4 (q : Nat → Nat × Int) : leastF q 4 = leastO (q 0) [q 1, q 2, q 3] := rfl
/-- What the costs are. -/
structure Weights (p o c s : Int) : Prop where
  p : 0 ≤ p ∧ p ≤ 1000
  o : 0 ≤ o ∧ o ≤ 1000
  c : 0 ≤ c ∧ c ≤ 1000000
  s : 0 ≤ s ∧ s ≤ 1000000
theorem grid_room {m n i j : Nat} (hi : i ≤ m) (hj : j ≤ n) : i * (n + 1) + j < (m + 1) * (n + 1) := by
  have h : i * (n + 1) ≤ m * (n + 1) := Nat.mul_le_mul_right _ hi
  rw [Nat.succ_mul]
  omega
theorem grid_row {m n i : Nat} (hi : i ≤ m) : i * (n + 1) + (n + 1) ≤ (m + 1) * (n + 1) := by
  have h : i * (n + 1) ≤ m * (n + 1) := Nat.mul_le_mul_right _ hi
  rw [Nat.succ_mul]
  omega
theorem grid_small {m n : Nat} (hm : m ≤ 48) (hn : n ≤ 48) : (m + 1) * (n + 1) ≤ 2401 := Nat.mul_le_mul (show m + 1 ≤ 49 by omega) (show n + 1 ≤ 49 by omega)
set_option maxHeartbeats 2000000 in
theorem lastEdit_any (a b : ByteArray) (p o c s : Int) (G i j : Nat) (w : World) (hw : Weights p o c s) (ha : a.size ≤ 48) (hb : b.size ≤ 48) (hi : i ≤ a.size) (hj : j ≤ b.size) (hg : GridK w G (b.size + 1) (editE (bx a) (bx b) p o c s) i j) :
    Calls Try.prog 86 #[.agg #[.string a, .string b, .int .i64 p, .int .i64 o, .int .i64 c, .int .i64 s], .agg #[.slice (some ⟨G, 0, none⟩) ((a.size + 1) * (b.size + 1)) ((a.size + 1) * (b.size + 1)), .int .i64 ((b.size : Int) + 1)], .int .i64 i, .int .i64 j] w fun e w' =>
      e = .returned (.agg #[.int .u8 (editE (bx a) (bx b) p o c s i j).1, .int .i64 (editE (bx a) (bx b) p o c s i j).2]) ∧ Below w.heap.size w w' := by
  have hN := grid_small ha hb
  have hrow : ∀ (r : Nat), r ≤ a.size → ∀ W, Calls Try.prog 70 #[.agg #[.slice (some ⟨G, 0, none⟩) ((a.size + 1) * (b.size + 1)) ((a.size + 1) * (b.size + 1)), .int .i64 ((b.size + 1 : Nat) : Int)], .int .i64 r] W fun e w' => e = .returned (.slice (some ⟨G, r * (b.size + 1) * 2, none⟩) (b.size + 1) (b.size + 1)) ∧ Below W.heap.size W w' :=
    fun r hr W => rowE_any G _ _ r (b.size + 1) W (grid_row hr) (by omega) (by have := grid_row (n := b.size) hr; omega)
  have hcell : ∀ (x y : Nat), y < b.size + 1 → (x < i ∨ (x = i ∧ y < j)) → ∀ W', Below w.heap.size w W' → W'.cell? ((⟨G, x * (b.size + 1) * 2, none⟩ : Addr).add (y * 2)) = some (.int .u8 (editE (bx a) (bx b) p o c s x y).1) ∧ W'.cell? ⟨((⟨G, x * (b.size + 1) * 2, none⟩ : Addr).add (y * 2)).block, ((⟨G, x * (b.size + 1) * 2, none⟩ : Addr).add (y * 2)).off + 1, none⟩ = some (.int .i64 (costE (bx a) (bx b) p o c s x y)) := by
    intro x y hy hlt W' hW
    obtain ⟨h1, h2⟩ := hg x y hy hlt
    rw [add_at, ← Nat.add_mul]
    rw [editE_cost] at h2
    exact ⟨(hW.cell (World.block_lt_of_cell? _ _ h1)).trans h1, (hW.cell (World.block_lt_of_cell? _ _ h2)).trans h2⟩
  have hbd : ∀ x y, x ≤ 48 → y ≤ 48 → 0 ≤ costE (bx a) (bx b) p o c s x y ∧ costE (bx a) (bx b) p o c s x y ≤ 4000000 := fun x y hx hy => by
    have := costE_bd (x := bx a) (y := bx b) hw.p hw.o hw.c.1 hw.s.1 x y
    omega
  obtain ⟨⟨p0, p1⟩, ⟨o0, o1⟩, ⟨c0, c1⟩, ⟨s0, s1⟩⟩ := hw
  rw [show ((b.size : Int) + 1) = ((b.size + 1 : Nat) : Int) by omega]
  cases i with
  | zero =>
    cases j with
    | zero => exact lastEdit00_any a b p o c s G _ _ w
    | succ j =>
      have h0 := hcell 0 j (by omega) (.inr ⟨rfl, by omega⟩)
      refine (lastEdit0j_any a b p o c s G _ (b.size + 1) j _ _ _ (fun _ => (43, costE (bx a) (bx b) p o c s 0 j + p)) w (by omega) (hbd _ _ (by omega) (by omega)) (by omega) (by omega) (hrow 0 (by omega)) h0 rfl).mono fun e w' h => h
  | succ i =>
    cases j with
    | zero =>
      have h0 := hcell i 0 (by omega) (.inl (by omega))
      rw [show 0 * 2 = 0 by rfl, add_at, Nat.add_zero] at h0
      refine (lastEditi0_any a b p o c s G _ (b.size + 1) i _ _ _ (fun _ => (45, costE (bx a) (bx b) p o c s i 0 + o)) w (by omega) (hbd _ _ (by omega) (by omega)) (by omega) (by omega) (by omega) (hrow i (by omega)) h0 rfl).mono fun e w' h => h
    | succ j =>
      refine (lastEditss_any a b p o c s G _ (b.size + 1) i j _ _ _ (editE (bx a) (bx b) p o c s (i - 1) (j - 1)).1 _ ⟨0, 0, none⟩ _ ⟨G, (i - 1) * (b.size + 1) * 2, none⟩ _ _ _ (costE (bx a) (bx b) p o c s (i - 1) (j - 1))
        (fun k => if k = 0 then pairO (bx a) (bx b) c (costE (bx a) (bx b) p o c s) i j else if k = 1 then (45, costE (bx a) (bx b) p o c s i (j + 1) + o) else if k = 2 then (43, costE (bx a) (bx b) p o c s (i + 1) j + p) else (120, costE (bx a) (bx b) p o c s (i - 1) (j - 1) + s)) w
        (by omega) (by omega) (by omega) (by omega) (hbd i j (by omega) (by omega)) (hbd i (j + 1) (by omega) (by omega)) (hbd (i + 1) j (by omega) (by omega)) (hbd (i - 1) (j - 1) (by omega) (by omega)) (by omega) (by omega) ha hb (by omega) (by omega)
        (hrow i (by omega)) (by have := hrow (i + 1) (by omega); rwa [Int.natCast_add] at this) (hcell i j (by omega) (.inl (by omega))) (hcell i (j + 1) (by omega) (.inl (by omega))) (hcell (i + 1) j (by omega) (.inr ⟨rfl, by omega⟩)) rfl rfl rfl rfl _ rfl
        (fun h => hrow (i - 1) (by omega)) (fun h1 h2 => hcell (i - 1) (j - 1) (by omega) (.inl (by omega)))).mono fun e w' h => ⟨h.1.trans ?_, h.2⟩
      have : leastF (fun k => if k = 0 then pairO (bx a) (bx b) c (costE (bx a) (bx b) p o c s) i j else if k = 1 then (45, costE (bx a) (bx b) p o c s i (j + 1) + o) else if k = 2 then (43, costE (bx a) (bx b) p o c s (i + 1) j + p) else (120, costE (bx a) (bx b) p o c s (i - 1) (j - 1) + s)) (if swapB (bx a) (bx b) i j then 4 else 3) = editE (bx a) (bx b) p o c s (i + 1) (j + 1) := by
        unfold editE
        simp only [lastE]
        cases swapB (bx a) (bx b) i j
        · rfl
        · rfl
      rw [this]
end Go.Proofs.Ytcnamfjojdjjgaa
