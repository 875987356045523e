/- Slices of numbers in memory, nil let in: read, copied, compared. -/
import Derived.Test.YtahlakhoocjkoaaListsI
import Derived.Test.YtahlakhoocjkoaaRowk
import Derived.BigQuiet
set_option linter.unusedVariables false
namespace Go.Proofs.Ytahlakhoocjkoaa
open Go.RowKit

theorem ret_bool {a b : Bool} (h : a = b) : Ending.returned (.bool a) = .returned (.bool b) := by rw [h]
theorem ret_int {k : IntKind} {a b : Int} (h : a = b) : Ending.returned (.int k a) = .returned (.int k b) := by rw [h]

/-- The slice at A shows the numbers f. -/
def Ints (w : World) (A : Option Addr) (n : Nat) (f : Nat → Int) : Prop := ∀ k, k < n → ∃ x, A = some x ∧ w.cell? (x.add k) = some (.int .i64 (f k))

section
variable {w w' : World} {A : Option Addr} {n : Nat} {f g : Nat → Int}
theorem Ints.keep (h : Ints w A n f) (b : ∀ p : Addr, p.block < w.heap.size → w'.cell? p = w.cell? p) : Ints w' A n f := fun k hk => by
  obtain ⟨x, hx, hc⟩ := h k hk
  exact ⟨x, hx, by rw [b _ (World.block_lt_of_cell? _ _ hc)]; exact hc⟩
theorem Ints.below (h : Ints w A n f) (b : Below w.heap.size w w') : Ints w' A n f := h.keep fun p hp => b.cell hp
theorem Ints.drewN (h : Ints w A n f) (m : Nat) : Ints (w.drewN m) A n f := h
theorem Ints.congr (h : Ints w A n f) (e : ∀ k, k < n → f k = g k) : Ints w A n g := fun k hk => by rw [← e k hk]; exact h k hk
theorem Ints.le {m : Nat} (h : Ints w A n f) (hm : m ≤ n) : Ints w A m f := fun k hk => h k (by omega)
theorem Ints.zero : Ints w A 0 f := fun k hk => by omega
theorem add0 (b k : Nat) : (⟨b, 0, none⟩ : Addr).add k = ⟨b, k, none⟩ := by
  unfold Addr.add
  by_cases h : k = 0
  · simp [h]
  · simp [h]
theorem Ints.ofAt {b : Nat} (h : At64 w b n f) : Ints w (some ⟨b, 0, none⟩) n f := fun k hk => ⟨_, rfl, by rw [add0]; exact h.2 k hk⟩
theorem Ints.toV {cap : Nat} (h : Ints w A n f) (h0 : A = none → n = 0 ∧ cap = 0) : V64 w A n cap f := by
  cases A with
  | none => exact .inl ⟨rfl, h0 rfl⟩
  | some x => exact .inr ⟨x, rfl, fun i hi => by obtain ⟨y, hy, hc⟩ := h i hi; cases hy; exact hc⟩
end
theorem Ints.ofV {w : World} {A : Option Addr} {n cap : Nat} {f : Nat → Int} (h : V64 w A n cap f) : Ints w A n f := by
  rcases h with ⟨rfl, rfl, rfl⟩ | ⟨x, rfl, h⟩
  · exact Ints.zero
  · exact fun k hk => ⟨x, rfl, h k hk⟩
theorem V64.ofRow {w : World} {a : Option Addr} {len cap : Nat} {zs : List Int} (h : IsRow .i64 w a len cap zs) : V64 w a len cap (fun i => zs.getD i 0) := by
  rcases h with ⟨h1, h2, h3, _⟩ | ⟨x, h1, h2, h3, h4, h5, _⟩
  · exact .inl ⟨h1, h2, h3⟩
  · exact .inr ⟨x, h1, fun i hi => h5 i (by omega)⟩

theorem drewN_below (w : World) (m : Nat) (B : Nat) : Below B w (w.drewN m) := ⟨rfl, rfl, rfl, Nat.le_refl _, fun _ _ => rfl⟩

/-- Equal lists compare as equal. -/
theorem eqInts (A B : Option Addr) (n c d : Nat) (f : Nat → Int) (w : World) (hn : n ≤ 4611686018427387904) (hg : Ints w A n f) (hh : Ints w B n f) :
    Calls Try.prog 25 #[.slice A n c, .slice B n d] w fun e w' => e = .returned (.bool true) ∧ ∃ m, w' = w.drewN m := by
  go_enter Try.func25, Try.ntmps25
  go_wp2
  go_loopw [5] (fun r wr => ∃ k m : Nat, k ≤ n ∧ r = .int .i64 k ∧ Hid (wr = w.drewN m)) (fun r _ => n - (intOf r).toNat)
  case atStart => exact ⟨0, 0, Nat.zero_le _, rfl, rfl⟩
  case round =>
    obtain ⟨k, m, hk, rfl, hw⟩ := hrel
    by_cases hlt : k < n
    · have d1 : (k : Int) < n := by omega
      obtain ⟨x, rfl, hx⟩ := hg k hlt
      obtain ⟨y, rfl, hy⟩ := hh k hlt
      have hcg : wr.cell? (x.add k) = some (.int .i64 (f k)) := by rw [hw.out]; exact hx
      have hch : wr.cell? (y.add k) = some (.int .i64 (f k)) := by rw [hw.out]; exact hy
      clear hx hy
      generalize f k = v at *
      go_wp2_with fail
      go_region
      all_goals (go_wp2_with fail; refine ⟨⟨k + 1, m + 1, by omega, by simp, ?_⟩, by simp [intOf]; omega⟩; rw [hw.out]; exact rfl)
    · have d1 : ¬ (k : Int) < n := by omega
      go_wp2
      go_ret
      exact ⟨rfl, _, hw.out⟩
end Go.Proofs.Ytahlakhoocjkoaa
