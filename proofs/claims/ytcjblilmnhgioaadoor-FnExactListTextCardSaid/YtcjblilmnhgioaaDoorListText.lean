/- The text of a list of integers: what both write, and the reference's walk. -/
import Derived.Test.YtcjblilmnhgioaaDoorListsI
import Derived.Test.YtcjblilmnhgioaaDoorDecReadI
import Derived.Lib.Join
import Derived.Lib.ItoaLen
import Derived.Laws.Concat
import Derived.WideShapes
set_option linter.unusedVariables false
namespace Go.Proofs.YtcjblilmnhgioaaDoor
open Go.RowKit

def rowsT (f : Nat → Int) (k : Nat) : List (List UInt8) := (List.range k).map fun i => Lib.itoa (f i)
def textV (f : Nat → Int) (k : Nat) : List UInt8 := Lib.join (rowsT f k) [44]
theorem rowsT_succ (f : Nat → Int) (k : Nat) : rowsT f (k + 1) = rowsT f k ++ [Lib.itoa (f k)] := by unfold rowsT; rw [List.range_succ, List.map_append]; rfl
theorem textV_one (f : Nat → Int) : textV f 1 = Lib.itoa (f 0) := Lib.join_one _ _
theorem join_snoc (x : List UInt8) (r : List (List UInt8)) (y sep : List UInt8) : Lib.join (x :: r ++ [y]) sep = Lib.join (x :: r) sep ++ (sep ++ y) := by
  rw [List.cons_append, Lib.join_cons, Lib.join_cons]
  unfold Lib.joinTail
  simp [List.append_assoc]
theorem textV_succ (f : Nat → Int) (k : Nat) (h : 1 ≤ k) : textV f (k + 1) = textV f k ++ ([44] ++ Lib.itoa (f k)) := by
  unfold textV
  rw [rowsT_succ]
  cases hr : rowsT f k with
  | nil =>
    have : (rowsT f k).length = k := by simp [rowsT]
    rw [hr] at this
    simp at this
    omega
  | cons x r => exact join_snoc x r _ _

def allIn (f : Nat → Int) (k : Nat) : Bool := (List.range k).all fun i => inRange (f i)
theorem allIn_succ (f : Nat → Int) (k : Nat) : allIn f (k + 1) = (allIn f k && inRange (f k)) := by unfold allIn; rw [List.range_succ, List.all_append]; simp
theorem allIn_no {f : Nat → Int} {n k : Nat} (h : k < n) (hk : inRange (f k) = false) : allIn f n = false := by
  unfold allIn
  rw [List.all_eq_false]
  exact ⟨k, List.mem_range.2 h, by simp [hk]⟩
theorem allIn_at {f : Nat → Int} {n k : Nat} (h : allIn f n = true) (hk : k < n) : inRange (f k) = true := by
  unfold allIn at h
  exact List.all_eq_true.1 h k (List.mem_range.2 hk)
theorem inRange_bd {n : Int} (h : inRange n = true) : -9223372036854775808 ≤ n ∧ n ≤ 9223372036854775807 := by
  unfold inRange at h
  simp at h
  omega
theorem textV_len {f : Nat → Int} : ∀ k, allIn f k = true → (textV f k).length ≤ 22 * k := by
  intro k
  induction k with
  | zero => intro _; simp [textV, rowsT, Lib.join, List.intercalate]
  | succ k ih =>
    intro h
    rw [allIn_succ] at h
    simp at h
    have hb := inRange_bd h.2
    have hl := Lib.itoa_length_le (f k) hb.1 hb.2
    rcases Nat.eq_zero_or_pos k with rfl | hk
    · rw [textV_one]; omega
    · rw [textV_succ f k hk]
      have := ih h.1
      simp
      omega
theorem ret_boolD {a b : Bool} (h : a = b) : Ending.returned (.bool a) = .returned (.bool b) := by rw [h]
def okL (f : Nat → Int) (n : Nat) : Bool := allIn f n && decide (n ≤ 64)

theorem l01List_any (g n : Nat) (f : Nat → Int) (w : World) (hn : n ≤ 1048576) (hg : At64 w g n f) :
    Calls Tryd.prog 24 #[.slice (some ⟨g, 0, none⟩) n n] w fun e w' => e = .returned (.bool (okL f n)) ∧ w = w' := by
  go_enter Tryd.func24, Tryd.ntmps24
  go_wp2
  go_loop [3] (fun i => ∃ k : Nat, k ≤ n ∧ i = .int .i64 k ∧ Hid (allIn f k = true)) (fun i => n - (intOf i).toNat)
  case atStart => exact ⟨0, Nat.zero_le _, rfl, rfl⟩
  case round =>
    obtain ⟨k, hk, rfl, HA⟩ := hrel
    by_cases hlt : k < n
    · have d1 : (k : Int) < n := by omega
      have hcg : w.cell? ⟨g, k, none⟩ = some (.int .i64 (f k)) := hg.2 k hlt
      have HL := Lib.hid (fun W => l00In_any (f k) W)
      cases hr : inRange (f k)
      · have HO := Lib.hid (show okL f n = false by unfold okL; rw [allIn_no hlt hr]; rfl)
        rw [hr] at HL
        clear hr
        generalize f k = x at *
        go_wp2_with fail
        refine (HL.out _).mono ?_
        rintro e w' ⟨rfl, rfl⟩
        go_wp2_with fail
        go_ret
        exact ⟨ret_boolD HO.out.symm, rfl⟩
      · have HB := Lib.hid (show allIn f (k + 1) = true by rw [allIn_succ, HA.out, hr]; rfl)
        rw [hr] at HL
        clear hr
        generalize f k = x at *
        go_wp2_with fail
        refine (HL.out _).mono ?_
        rintro e w' ⟨rfl, rfl⟩
        go_wp2_with fail
        go_round
        case rel => exact ⟨k + 1, by omega, by go_num, HB⟩
        case measure => simp [intOf]; omega
    · have d1 : ¬ (k : Int) < n := by omega
      have hkn : k = n := by omega
      subst hkn
      by_cases h64 : k ≤ 64
      · have d2 : (k : Int) ≤ 64 := by omega
        have HO := Lib.hid (show okL f k = true by unfold okL; rw [HA.out]; simp [h64])
        go_wp2_with fail
        go_ret
        exact ⟨ret_boolD (by rw [HO.out]), rfl⟩
      · have d2 : ¬ (k : Int) ≤ 64 := by omega
        have HO := Lib.hid (show okL f k = false by unfold okL; simp [h64])
        go_wp2_with fail
        go_ret
        exact ⟨ret_boolD (by rw [HO.out]), rfl⟩

/-- What is written of a list that may be written. -/
def writeV (f : Nat → Int) (n : Nat) : List UInt8 := if n = 0 then [110, 111, 110, 101] else textV f n

theorem l01Text_any (g n : Nat) (f : Nat → Int) (w : World) (hn : n ≤ 64) (ha : allIn f n = true) (hg : At64 w g n f) :
    Calls Tryd.prog 25 #[.slice (some ⟨g, 0, none⟩) n n] w fun e w' => e = .returned (.string ⟨(writeV f n).toArray⟩) ∧ Below w.heap.size w w' := by
  by_cases h0 : n = 0
  · subst h0
    clear hg hn ha
    go_enter Tryd.func25, Tryd.ntmps25
    go_wp2
    go_ret
    exact ⟨rfl, Below.refl _ _⟩
  · have d0 : ¬ (n : Int) = 0 := by omega
    have d00 : (0 : Int) < n := by omega
    have HW := Lib.hid (show writeV f n = textV f n by unfold writeV; rw [if_neg h0])
    have hc0 : w.cell? ⟨g, 0, none⟩ = some (.int .i64 (f 0)) := hg.2 0 (by omega)
    have hb0 := inRange_bd (allIn_at ha (show 0 < n by omega))
    have H0 := Lib.hid (fun W => l01Dec_any (f 0) W hb0.1 hb0.2)
    have h1 := Lib.hid (textV_one f)
    rw [← h1.out] at H0
    generalize f 0 = x0 at *
    go_enter Tryd.func25, Tryd.ntmps25
    go_wp2_with fail
    refine (H0.out _).mono ?_
    rintro e w1 ⟨rfl, hb1⟩
    have B1 := Lib.hid hb1
    clear hb1
    go_wp2_with fail
    go_loopw [3, 4] (fun v i wr => ∃ k : Nat, 1 ≤ k ∧ k ≤ n ∧ i = .int .i64 k ∧ v = .string ⟨(textV f k).toArray⟩ ∧ Hid (Below w.heap.size w wr)) (fun _ i _ => n - (intOf i).toNat)
    case atStart => exact ⟨1, Nat.le_refl _, by omega, rfl, rfl, B1⟩
    case round =>
      obtain ⟨k, hk1, hk, rfl, rfl, HB⟩ := hrel
      by_cases hlt : k < n
      · have d1 : (k : Int) < n := by omega
        have hcg : wr.cell? ⟨g, k, none⟩ = some (.int .i64 (f k)) := by rw [HB.out.cell hg.1]; exact hg.2 k hlt
        have hbk := inRange_bd (allIn_at ha hlt)
        have HD := Lib.hid (fun W => l01Dec_any (f k) W hbk.1 hbk.2)
        have HS := Lib.hid (textV_succ f k hk1)
        have hl1 := textV_len k (by
          unfold allIn at ha ⊢
          rw [List.all_eq_true] at ha ⊢
          intro i hi
          exact ha i (List.mem_range.2 (by have := List.mem_range.1 hi; omega)))
        have hl2 := Lib.itoa_length_le (f k) hbk.1 hbk.2
        have hs1 : (⟨(textV f k).toArray⟩ : ByteArray).size = (textV f k).length := by simp [ByteArray.size]
        have hs2 : (⟨(Lib.itoa (f k)).toArray⟩ : ByteArray).size = (Lib.itoa (f k)).length := by simp [ByteArray.size]
        have hcat : (⟨(textV f k).toArray⟩ : ByteArray) ++ ((⟨#[44]⟩ : ByteArray) ++ ⟨(Lib.itoa (f k)).toArray⟩) = ⟨(textV f (k + 1)).toArray⟩ := by
          apply WideShapes.bytes_inj
          rw [HS.out]
          simp [ByteArray.data_append]
        have a1 := fun W => run_string_add_sum (P := Tryd.prog) W (⟨#[44]⟩ : ByteArray) ⟨(Lib.itoa (f k)).toArray⟩ (by rw [hs2]; show 1 + _ ≤ _; omega)
        have a2 := fun W => run_string_add_sum (P := Tryd.prog) W (⟨(textV f k).toArray⟩ : ByteArray) ((⟨#[44]⟩ : ByteArray) ++ ⟨(Lib.itoa (f k)).toArray⟩) (by
          rw [hs1, ByteArray.size_append, hs2]; show _ + (1 + _) ≤ _; omega)
        have hcat' := Lib.hid hcat
        clear hs1 hs2 hcat hl1 hl2 HS
        generalize f k = x at *
        go_wp2_with fail
        refine (HD.out _).mono ?_
        rintro e w2 ⟨rfl, hb2⟩
        have HB2 := Lib.hid (HB.out.trans (hb2.mono HB.out.size))
        clear hb2
        go_wp2_with fail
        exact ⟨⟨k + 1, by omega, by omega, by simp, by rw [hcat'.out], HB2⟩, by simp [intOf]; omega⟩
      · have d1 : ¬ (k : Int) < n := by omega
        have hkn : k = n := by omega
        subst hkn
        go_wp2_with fail
        go_ret
        exact ⟨ret_str HW.out.symm, HB.out⟩
end Go.Proofs.YtcjblilmnhgioaaDoor
