/- The state of a tree: the reference's. -/
import Derived.Test.YtgbiablibfbilaaDeepS
import Derived.Test.YtgbiablibfbilaaTreeV
import Derived.Test.YtgbiablibfbilaaNodeQ
set_option linter.unusedVariables false
namespace Go.Proofs.Ytgbiablibfbilaa
open Go.RowKit
/-- What a valid machine's rows hold. -/
structure VT (S : Nat) (l : Int) (n m : Nat) (f g : Nat → Int) : Prop where
  hs : 1 ≤ S ∧ S ≤ 16
  hl : 1 ≤ l ∧ l ≤ 4
  hn : (n : Int) = l
  hm : m = S * S
  hf : ∀ i, i < n → 0 ≤ f i ∧ f i < S
  hg : ∀ i, i < m → 0 ≤ g i ∧ g i < S
theorem validT_VT {s l : Int} {n m o : Nat} {f g : Nat → Int} (h : validT s l n m o f g = true) : VT s.toNat l n m f g ∧ s = (s.toNat : Int) ∧ o = s.toNat := by
  obtain ⟨h1, h2, h3, h4, h5, h6, h7⟩ := validT_iff.1 h
  have hs : (s.toNat : Int) = s := by omega
  refine ⟨⟨by omega, h2, h3, ?_, fun i hi => ?_, fun i hi => ?_⟩, hs.symm, by omega⟩
  · have : (m : Int) = ((s.toNat * s.toNat : Nat) : Int) := by rw [Int.natCast_mul, hs]; exact h4
    omega
  · have := h6 i hi; omega
  · have := h7 i hi; omega
def stN (S : Nat) (f g : Nat → Int) : Tr → Nat
  | .leaf x => (f x.toNat).toNat
  | .br a b => (g (stN S f g a * S + stN S f g b)).toNat
theorem sq_lt {a b S : Nat} (ha : a < S) (hb : b < S) : a * S + b < S * S := by
  have h1 : (a + 1) * S ≤ S * S := Nat.mul_le_mul_right S ha
  have h2 : (a + 1) * S = a * S + S := Nat.succ_mul a S
  omega
theorem stN_lt {S : Nat} {l : Int} {n m : Nat} {f g : Nat → Int} (v : VT S l n m f g) : ∀ {t : Tr}, t.ok l = true → stN S f g t < S
  | .leaf x, h => by
    have hx := Tr.leaf_ok h
    have := v.hf x.toNat (by have := v.hn; omega)
    simp only [stN]
    omega
  | .br a b, h => by
    obtain ⟨ha, hb⟩ := Tr.br_ok h
    have := v.hg _ (by rw [v.hm]; exact sq_lt (stN_lt v ha) (stN_lt v hb))
    simp only [stN]
    omega
theorem ok_more {l : Int} (hl : l ≤ 4) : ∀ {t : Tr}, t.ok l = true → t.ok 4 = true
  | .leaf x, h => by
    have hx := Tr.leaf_ok h
    exact inB_iff.2 (by omega)
  | .br a b, h => by
    obtain ⟨ha, hb⟩ := Tr.br_ok h
    simp [Tr.ok, ok_more hl ha, ok_more hl hb]
set_option maxRecDepth 20000 in
set_option maxHeartbeats 4000000 in
theorem l06State_any (P S : Nat) (l : Int) (A B C : Option Addr) (n c m d o q : Nat) (f g : Nat → Int) (v : VT S l n m f g) : ∀ (t : Tr) (A1 : Option Addr) (n1 c1 : Nat) (w : World), t.ok l = true → TreeAt w t A1 n1 c1 →
    Cells w A n (fun i => .int .i64 (f i)) → Cells w B m (fun i => .int .i64 (g i)) → Box5 w P (.int .i64 S) (.int .i64 l) (.slice A n c) (.slice B m d) (.slice C o q) →
    Calls Try.prog 78 #[.pointer (some ⟨P, 0, none⟩), .slice A1 n1 c1] w fun e w' => e = .returned (.int .i64 (stN S f g t : Int)) ∧ ∃ q, w' = w.drewN q := by
  intro t
  induction t with
  | leaf y =>
    intro A1 n1 c1 w hok h hA hB hb
    obtain ⟨⟨u, hc, hr⟩, ho, hp⟩ := h
    have hy := Tr.leaf_ok hok
    have hn : n1 = 1 := by have := congrArg List.length hr; rw [rowL_len] at this; simpa [Tr.enc] using this
    subst hn
    have hf : u 0 = y := by simpa [rowL, Tr.enc] using hr
    obtain ⟨x, rfl, hx0⟩ := hc 0 (by omega)
    have hx : w.cell? x = some (.int .i64 y) := by rw [← addrZero x, ← hf]; exact hx0
    obtain ⟨k, rfl⟩ : ∃ k : Nat, y = k := ⟨y.toNat, by omega⟩
    have hk : k < n := by have := v.hn; omega
    obtain ⟨z, rfl, hz⟩ := hA k hk
    have hz' : w.cell? (z.add k) = some (.int .i64 (f k)) := hz
    have hfk : f k = ((f k).toNat : Int) := by have := v.hf k hk; omega
    have HS := Lib.hid (show (stN S f g (.leaf (k : Int)) : Int) = f k by simp only [stN, Int.toNat_natCast]; exact hfk.symm)
    generalize (stN S f g (.leaf (k : Int)) : Int) = sv at *
    generalize f k = fk at *
    have h0 : (0 : Int) ≤ (k : Int) := by omega
    have hk2 : (k : Int) < n := by omega
    obtain ⟨b0, b1, b2, b3, b4⟩ := hb
    clear hc hr hx0 hf hp ho hy hA hB hfk hz v hok
    go_enter Try.func78, Try.ntmps78
    go_wp2_with fail
    go_quiet (fail)
    go_wp2_with fail
    go_ret
    exact ⟨ret_int HS.out.symm, _, rfl⟩
  | br a b iha ihb =>
    intro A1 n1 c1 w hok h hA hB hb
    obtain ⟨oa, ob⟩ := Tr.br_ok hok
    have HP := Lib.hid (fun W h => l06Parts_any a b A1 n1 c1 W h)
    have H := Lib.hid h
    obtain ⟨⟨u, hc, hr⟩, ho, hp⟩ := h
    have hn : 0 < n1 := by have := congrArg List.length hr; rw [rowL_len] at this; simp [Tr.enc] at this; omega
    have hf : u 0 = -1 := by
      have := congrArg (fun l : List Int => l.getD 0 0) hr
      rw [rowL_getD u hn] at this
      simpa [Tr.enc] using this
    obtain ⟨x, rfl, hx0⟩ := hc 0 hn
    have hx : w.cell? x = some (.int .i64 (-1)) := by rw [← addrZero x, ← hf]; exact hx0
    have la := stN_lt v oa
    have lb := stN_lt v ob
    have hlt := sq_lt la lb
    obtain ⟨sa, hsa⟩ : ∃ sa, sa = stN S f g a := ⟨_, rfl⟩
    obtain ⟨sb, hsb⟩ : ∃ sb, sb = stN S f g b := ⟨_, rfl⟩
    obtain ⟨p, hp'⟩ : ∃ p, p = sa * S := ⟨_, rfl⟩
    obtain ⟨r, hr'⟩ : ∃ r, r = p + sb := ⟨_, rfl⟩
    have hrm : r < m := by rw [v.hm, hr', hp', hsa, hsb]; exact hlt
    obtain ⟨z, rfl, hz⟩ := hB r hrm
    have HZ := Lib.hid (show w.cell? (z.add r) = some (.int .i64 (g r)) from hz)
    have hgr : g r = ((g r).toNat : Int) := by have := v.hg r hrm; omega
    have HS := Lib.hid (show (stN S f g (.br a b) : Int) = g r by rw [hr', hp', hsa, hsb] at *; simp only [stN]; exact hgr.symm)
    have hm256 : m ≤ 256 := by rw [v.hm]; exact Nat.mul_le_mul v.hs.2 v.hs.2
    have E1 : (sa : Int) * (S : Int) = (p : Int) := by rw [hp', Int.natCast_mul]
    have E2 : (p : Int) + (sb : Int) = (r : Int) := by rw [hr']; simp
    have W1 : IntKind.i64.wrap (p : Int) = (p : Int) := by rw [IntKind.wrap_i64]; omega
    have W2 : IntKind.i64.wrap (r : Int) = (r : Int) := by rw [IntKind.wrap_i64]; omega
    have hrm2 : (r : Int) < m := by omega
    have HA := Lib.hid hA
    have HB := Lib.hid hB
    have X := Lib.hid hb
    rw [← hsa] at iha
    rw [← hsb] at ihb
    have IA := Lib.hid iha
    have IB := Lib.hid ihb
    generalize (stN S f g (.br a b) : Int) = sv at *
    generalize g r = gr at *
    clear iha ihb hc hr hx0 hf hp ho hA hB hb hgr hz la lb hlt hsa hsb hp' hr' hrm hm256 v hok
    go_enter Try.func78, Try.ntmps78
    go_wp2_with fail
    refine (HP.out _ H.out).mono ?_
    rintro e w1 ⟨A1, n1, c1, A2, n2, c2, rfl, ta, tb, q0, hw1⟩
    have TA := Lib.hid (show TreeAt w1 a A1 n1 c1 by rw [hw1]; exact ta.drewN q0)
    have TB := Lib.hid (show TreeAt w1 b A2 n2 c2 by rw [hw1]; exact tb.drewN q0)
    have IA2 := Lib.hid (fun k => IA.out A1 n1 c1 (w1.drewN k) oa (TA.out.drewN k) (by rw [hw1]; exact fun i hi => HA.out i hi) (by rw [hw1]; exact fun i hi => HB.out i hi) (by rw [hw1]; exact (X.out.drewN q0).drewN k))
    have IB2 := Lib.hid (fun k => IB.out A2 n2 c2 (w1.drewN k) ob (TB.out.drewN k) (by rw [hw1]; exact fun i hi => HA.out i hi) (by rw [hw1]; exact fun i hi => HB.out i hi) (by rw [hw1]; exact (X.out.drewN q0).drewN k))
    have X1 := Lib.hid (show Box5 w1 P _ _ _ _ _ by rw [hw1]; exact X.out.drewN q0)
    have hz' : w1.cell? (z.add r) = some (.int .i64 gr) := by rw [hw1]; exact HZ.out
    obtain ⟨b0, b1, b2, b3, b4⟩ := X1.out
    have HW := Lib.hid hw1
    clear ta tb hw1 IA IB
    go_wp2_with fail
    go_quiet ((first | (go_at_call_of 78 (Value.slice A1 n1 c1); exact Calls.quiet_of (IA2.out _)) | (go_at_call_of 78 (Value.slice A2 n2 c2); exact Calls.quiet_of (IB2.out _))))
    go_wp2_with fail
    go_ret
    exact ⟨ret_int HS.out.symm, _, by rw [HW.out]; exact World.drewN_drewN ..⟩
end Go.Proofs.Ytgbiablibfbilaa
