/- Operations on bounded float64 numbers: they are told, and bounded again. -/
import Derived.Test.YtfmnfidocicjkaaPlainA
set_option linter.unusedVariables false
namespace Go.Proofs.Ytfmnfidocicjkaa

abbrev B (E x : Nat) : Prop := Fl.Bd Ieee.double E x
abbrev G (F x : Nat) : Prop := Fl.Gb Ieee.double F x
/-- A finite number that is not below 0 and has no sign. -/
def NN (x : Nat) : Prop := ∃ m p, Ieee.double.read x = .number false m p

def fa (x y : Nat) : Nat := (floatBits .add .f64 x y).getD 0
def fs (x y : Nat) : Nat := (floatBits .sub .f64 x y).getD 0
def fm (x y : Nat) : Nat := (floatBits .mul .f64 x y).getD 0
def fd (x y : Nat) : Nat := (floatBits .quo .f64 x y).getD 0
def fr (x : Nat) : Nat := (Ieee.double.sqrt x).getD 0

theorem K64 : Ieee.double.leastPlace = -((1074 : Nat) : Int) := by decide

theorem fa_ok {E E' x y : Nat} (hx : B E x) (hy : B E' y) (h : max E E' + 1 ≤ 2097) : floatBits .add .f64 x y = some (fa x y) ∧ B (max E E' + 1) (fa x y) := by
  obtain ⟨r, h1, h2⟩ := Fl.add_bd hx hy eb64 (by rw [top64]; exact h)
  have h1' : floatBits .add .f64 x y = some r := h1
  have e : fa x y = r := by unfold fa; rw [h1']; rfl
  rw [e]; exact ⟨h1', h2⟩
theorem fs_ok {E E' x y : Nat} (hx : B E x) (hy : B E' y) (h : max E E' + 1 ≤ 2097) : floatBits .sub .f64 x y = some (fs x y) ∧ B (max E E' + 1) (fs x y) := by
  obtain ⟨r, h1, h2⟩ := Fl.sub_bd hx hy eb64 (by rw [top64]; exact h)
  have h1' : floatBits .sub .f64 x y = some r := h1
  have e : fs x y = r := by unfold fs; rw [h1']; rfl
  rw [e]; exact ⟨h1', h2⟩
theorem fm_ok {E E' x y : Nat} (hx : B E x) (hy : B E' y) (h0 : 1074 ≤ E + E') (h : E + E' - 1074 ≤ 2097) : floatBits .mul .f64 x y = some (fm x y) ∧ B (E + E' - 1074) (fm x y) := by
  obtain ⟨r, h1, h2⟩ := Fl.mul_bd K64 hx hy eb64 h0 (by rw [top64]; exact h)
  have h1' : floatBits .mul .f64 x y = some r := h1
  have e : fm x y = r := by unfold fm; rw [h1']; rfl
  rw [e]; exact ⟨h1', h2⟩
theorem fd_ok {E F x y : Nat} (hx : B E x) (hy : G F y) (h0 : F ≤ E + 1074) (h : E + 1074 - F ≤ 2097) : floatBits .quo .f64 x y = some (fd x y) ∧ B (E + 1074 - F) (fd x y) := by
  obtain ⟨r, h1, h2⟩ := Fl.div_bd K64 hx hy eb64 h0 (by rw [top64]; exact h)
  have h1' : floatBits .quo .f64 x y = some r := h1
  have e : fd x y = r := by unfold fd; rw [h1']; rfl
  rw [e]; exact ⟨h1', h2⟩
theorem fr_ok {E H x : Nat} (hx : B E x) (hn : NN x) (h0 : E + 1074 ≤ 2 * H) (h : H ≤ 2097) : Ieee.double.sqrt x = some (fr x) ∧ B H (fr x) := by
  obtain ⟨r, h1, h2⟩ := Fl.sqrt_bd (H := H) K64 hx (by obtain ⟨m, p, hr⟩ := hn; rw [hr]; exact .inl rfl) eb64 h0 (by rw [top64]; exact h)
  have e : fr x = r := by unfold fr; rw [h1]; rfl
  rw [e]; exact ⟨h1, h2⟩

/-- A given word is bounded: its datum, told. -/
theorem B_of {E x : Nat} {s : Bool} {m : Nat} {p : Int} (h : Ieee.double.read x = .number s m p) (hp : -1074 ≤ p) (hb : m * 2 ^ (p + 1074).toNat ≤ 2 ^ E) : B E x := by
  refine ⟨s, m, p, h, by rw [least64]; exact hp, ?_⟩
  rw [least64]
  have e : (p - -1074).toNat = (p + 1074).toNat := by congr 1
  rw [e]; exact hb
theorem G_of {F x : Nat} {s : Bool} {m : Nat} {p : Int} (h : Ieee.double.read x = .number s m p) (hp : -1074 ≤ p) (hb : 2 ^ F ≤ m * 2 ^ (p + 1074).toNat) : G F x := by
  refine ⟨s, m, p, h, by rw [least64]; exact hp, ?_⟩
  rw [least64]
  have e : (p - -1074).toNat = (p + 1074).toNat := by congr 1
  rw [e]; exact hb

/-- A normal word of a number with 53 digits: bounded by powers of two on both sides. -/
theorem B_normal {x : Nat} {s : Bool} {m : Nat} {p : Int} (q : Nat) (h : Ieee.double.read x = .number s m p) (hp : p + 1074 = q) (hm : m < 2 ^ 53) : B (q + 53) x := by
  refine B_of h (by omega) ?_
  have e : (p + 1074).toNat = q := by omega
  rw [e, Nat.add_comm, Nat.pow_add]
  exact Nat.mul_le_mul_right _ (Nat.le_of_lt hm)
theorem G_normal {x : Nat} {s : Bool} {m : Nat} {p : Int} (q : Nat) (h : Ieee.double.read x = .number s m p) (hp : p + 1074 = q) (hm : 2 ^ 52 ≤ m) : G (q + 52) x := by
  refine G_of h (by omega) ?_
  have e : (p + 1074).toNat = q := by omega
  rw [e, Nat.add_comm, Nat.pow_add]
  exact Nat.mul_le_mul_right _ hm
/-- A power of two is bounded by itself. -/
theorem B_pow {x : Nat} {s : Bool} {p : Int} (q : Nat) (h : Ieee.double.read x = .number s 4503599627370496 p) (hp : p + 1074 = q) : B (q + 52) x := by
  refine B_of h (by omega) ?_
  have e : (p + 1074).toNat = q := by omega
  rw [e, Nat.add_comm, Nat.pow_add]
  exact Nat.le_refl _

def one : Nat := 4607182418800017408
theorem B_one : B 1074 one := B_pow (s := false) (p := -52) 1022 (by decide) (by decide)
theorem G_one : G 1074 one := G_normal (s := false) (m := 4503599627370496) (p := -52) 1022 (by decide) (by decide) (by decide)
theorem NN_one : NN one := ⟨4503599627370496, -52, by decide⟩
theorem B_zero : B 1074 0 := B_of (s := false) (m := 0) (p := -1074) (by decide) (by decide) (by rw [Nat.zero_mul]; exact Nat.zero_le _)
theorem NN_zero : NN 0 := ⟨0, -1074, by decide⟩
theorem B_half : B 1073 4602678819172646912 := B_pow (s := false) (p := -53) 1021 (by decide) (by decide)
theorem B_quarter : B 1072 4598175219545276416 := B_pow (s := false) (p := -54) 1020 (by decide) (by decide)
theorem B_turn : B 1077 4618760256179416344 := B_normal (s := false) (m := 7074237752028440) (p := -50) 1024 (by decide) (by decide) (by decide)
theorem G_turn : G 1076 4618760256179416344 := G_normal (s := false) (m := 7074237752028440) (p := -50) 1024 (by decide) (by decide) (by decide)

/-- Signs: what comes of numbers without one. -/
theorem nearest_NN {E : Nat} (hE : E ≤ 2097) (mag : Nat) (place : Int) (h : Fl.Le2 mag place (E + Ieee.double.leastPlace)) : NN (Ieee.double.nearest false mag place) := by
  obtain ⟨s, m, p, hr, _⟩ := Fl.nearest_bd (f := Ieee.double) (E := E) (by rw [top64]; exact hE) eb64 false mag place h
  have hs : s = false := by
    have h1 := (Fl.read_fin eb64 hr).1
    rw [h1, show Ieee.double.nearest false mag place / Ieee.double.signWeight = _ from Fl.nearest_sign Ieee.double false mag place]
    rfl
  subst hs
  exact ⟨m, p, hr⟩

/-- The datum of a finite sum. -/
theorem fm_sq_NN {E x : Nat} (hx : B E x) (h0 : 1074 ≤ E + E) (h : E + E - 1074 ≤ 2097) : NN (fm x x) := by
  obtain ⟨h1, h2⟩ := fm_ok hx hx h0 h
  obtain ⟨s, m, p, hr, hp, hb⟩ := hx
  obtain ⟨t, n, q, hr2, _⟩ := h2
  have e : floatBits .mul .f64 x x = some (Ieee.double.nearest (s ^^ s) (m * m) (p + p)) := by
    show Ieee.double.mul x x = _
    unfold Ieee.Format.mul
    rw [hr]; rfl
  have hx : fm x x = Ieee.double.nearest false (m * m) (p + p) := by
    rw [h1] at e
    rw [Option.some.inj e, show (s ^^ s) = false by cases s <;> rfl]
  have ht : t = false := by
    have h3 := (Fl.read_fin eb64 hr2).1
    rw [h3, hx, show Ieee.double.nearest false (m * m) (p + p) / Ieee.double.signWeight = _ from Fl.nearest_sign Ieee.double false _ _]
    rfl
  subst ht
  exact ⟨n, q, hr2⟩

/-- A sum of numbers without sign has none, and is no less than one of them. -/
theorem fa_NN {E E' F x y : Nat} (hx : B E x) (hy : B E' y) (nx : NN x) (ny : NN y) (gx : G F x) (h : max E E' + 1 ≤ 2097) : NN (fa x y) ∧ G F (fa x y) := by
  obtain ⟨h1, h2⟩ := fa_ok hx hy h
  obtain ⟨m, i, hr⟩ := nx
  obtain ⟨n, j, ks⟩ := ny
  obtain ⟨s1, m1, i1, r1, hi, hm⟩ := hx
  obtain ⟨s2, n1, j1, r2, hj, hn⟩ := hy
  obtain ⟨s3, m3, i3, r3, _, hF⟩ := gx
  rw [hr] at r1 r3
  rw [ks] at r2
  injection r1 with a1 a2 a3
  injection r2 with b1 b2 b3
  injection r3 with c1 c2 c3
  subst a1; subst a2; subst a3; subst b1; subst b2; subst b3; subst c1; subst c2; subst c3
  have hsum : Ieee.signed false m (i - min i j).toNat + Ieee.signed false n (j - min i j).toNat = ((m * 2 ^ (i - min i j).toNat + n * 2 ^ (j - min i j).toNat : Nat) : Int) := by
    unfold Ieee.signed
    simp only [Bool.false_eq_true, if_false, Nat.shiftLeft_eq]
    omega
  have e : floatBits .add .f64 x y = some (Ieee.double.nearest false (m * 2 ^ (i - min i j).toNat + n * 2 ^ (j - min i j).toNat) (min i j)) := by
    show Ieee.double.add x y = _
    unfold Ieee.Format.add
    rw [hr, ks]
    simp only [Ieee.Datum.sum, hsum]
    show some (Ieee.double.nearest _ _ _) = some (Ieee.double.nearest _ _ _)
    congr 2
    split
    · rfl
    · exact decide_eq_false (Int.not_lt.2 (Int.natCast_nonneg _))
  have hxy : fa x y = Ieee.double.nearest false (m * 2 ^ (i - min i j).toNat + n * 2 ^ (j - min i j).toNat) (min i j) := by
    rw [h1] at e
    exact Option.some.inj e
  have hval : (m * 2 ^ (i - min i j).toNat + n * 2 ^ (j - min i j).toNat) * 2 ^ (min i j - Ieee.double.leastPlace).toNat = m * 2 ^ (i - Ieee.double.leastPlace).toNat + n * 2 ^ (j - Ieee.double.leastPlace).toNat := by
    rw [Nat.add_mul, Nat.mul_assoc, Nat.mul_assoc, ← Nat.pow_add, ← Nat.pow_add]
    have e1 : (i - min i j).toNat + (min i j - Ieee.double.leastPlace).toNat = (i - Ieee.double.leastPlace).toNat := by omega
    have e2 : (j - min i j).toNat + (min i j - Ieee.double.leastPlace).toNat = (j - Ieee.double.leastPlace).toNat := by omega
    rw [e1, e2]
  have hle : Fl.Le2 (m * 2 ^ (i - min i j).toNat + n * 2 ^ (j - min i j).toNat) (min i j) ((max E E' + 1 : Nat) + Ieee.double.leastPlace) := by
    refine Fl.le2_of (L := Ieee.double.leastPlace) (by omega) (by omega) ?_
    rw [hval]
    have e0 : (((max E E' + 1 : Nat) : Int) + Ieee.double.leastPlace - Ieee.double.leastPlace).toNat = max E E' + 1 := by omega
    rw [e0, Nat.pow_succ]
    have p1 : 2 ^ E ≤ 2 ^ (max E E') := Nat.pow_le_pow_right (by omega) (by omega)
    have p2 : 2 ^ E' ≤ 2 ^ (max E E') := Nat.pow_le_pow_right (by omega) (by omega)
    omega
  rw [hxy]
  refine ⟨nearest_NN h _ _ hle, ?_⟩
  refine Fl.nearest_gb (f := Ieee.double) (E := max E E' + 1) (by rw [top64]; exact h) eb64 _ _ _ hle ?_
  refine Fl.ge2_of (L := Ieee.double.leastPlace) (by omega) (by omega) ?_
  rw [hval]
  have e0 : ((F : Int) + Ieee.double.leastPlace - Ieee.double.leastPlace).toNat = F := by omega
  rw [e0]
  exact Nat.le_trans hF (Nat.le_add_right _ _)

theorem fr_NN {E H x : Nat} (hx : B E x) (hn : NN x) (h0 : E + 1074 ≤ 2 * H) (h : H ≤ 2097) : NN (fr x) := by
  obtain ⟨h1, h2⟩ := fr_ok hx hn h0 h
  obtain ⟨m, p, hr⟩ := hn
  obtain ⟨t, n, q, hr2, _⟩ := h2
  have ht : t = false := by
    have h3 := (Fl.read_fin eb64 hr2).1
    have e : ∃ mag place, fr x = Ieee.double.nearest false mag place := by
      have h1' := h1
      unfold Ieee.Format.sqrt at h1'
      rw [hr] at h1'
      simp only [Ieee.Datum.root] at h1'
      split at h1'
      · exact ⟨_, _, (Option.some.inj h1').symm⟩
      · simp only [Bool.false_eq_true, if_false] at h1'
        exact ⟨_, _, (Option.some.inj h1').symm⟩
    obtain ⟨mag, place, he⟩ := e
    rw [h3, he, show Ieee.double.nearest false mag place / Ieee.double.signWeight = _ from Fl.nearest_sign Ieee.double false _ _]
    rfl
  subst ht
  exact ⟨n, q, hr2⟩

/-- A number turned to its opposite. -/
theorem neg_parts (x : Nat) : Op.negFloat .f64 x % 9223372036854775808 = x % 9223372036854775808 ∧ Op.negFloat .f64 x / 9223372036854775808 = x / 9223372036854775808 ^^^ 1 := by
  have e : Op.negFloat .f64 x = x ^^^ 2 ^ 63 := rfl
  rw [e, show 9223372036854775808 = 2 ^ 63 from rfl, Nat.xor_mod_two_pow, Nat.xor_div_two_pow]
  refine ⟨?_, ?_⟩
  · rw [show 2 ^ 63 % 2 ^ 63 = 0 from rfl, Nat.xor_zero]
  · rw [show 2 ^ 63 / 2 ^ 63 = 1 from rfl]
theorem B_neg {E x : Nat} (h : B E x) : B E (Op.negFloat .f64 x) := by
  obtain ⟨s, m, p, hr, hp, hb⟩ := h
  obtain ⟨h1, h2⟩ := neg_parts x
  have key : ∃ s', Ieee.double.read (Op.negFloat .f64 x) = .number s' m p := by
    have r1 := Fl.read_parts Ieee.double x
    have r2 := Fl.read_parts Ieee.double (Op.negFloat .f64 x)
    rw [sw64] at r1 r2
    rw [h1] at r2
    rw [hr] at r1
    rw [r2]
    split at r1
    · rename_i k
      rw [if_pos k]
      injection r1 with a b c
      exact ⟨_, by rw [← b, ← c]⟩
    · rename_i k
      rw [if_neg k]
      split at r1
      · rename_i k2
        rw [if_pos k2]
        injection r1 with a b c
        exact ⟨_, by rw [← b, ← c]⟩
      · split at r1 <;> cases r1
  obtain ⟨s', hs'⟩ := key
  exact ⟨s', m, p, hs', hp, hb⟩

/-- A word that is read as a finite number, or is not. -/
theorem fin64 {x : Nat} (h : finB .f64 x = true) : ∃ s m p, Ieee.double.read x = .number s m p ∧ -1074 ≤ p := by
  unfold finB at h
  cases hx : FloatKind.f64.decode x with
  | number s m p =>
    have := (Fl.read_fin eb64 (show Ieee.double.read x = _ from hx)).2.1
    rw [least64] at this
    exact ⟨s, m, p, hx, this⟩
  | infinity s => rw [hx] at h; cases h
  | nan s t => rw [hx] at h; cases h

theorem sub_self64 {x : Nat} (h : finB .f64 x = true) : floatBits .sub .f64 x x = some 0 := by
  obtain ⟨s, m, p, hr, _⟩ := fin64 h
  show Ieee.double.sub x x = some 0
  unfold Ieee.Format.sub
  rw [hr]
  show some (Ieee.double.write (.number _ _ _)) = some 0
  have e : Ieee.signed s m (p - min p p).toNat + Ieee.signed (!s) m (p - min p p).toNat = 0 := by
    unfold Ieee.signed
    cases s <;> simp <;> omega
  rw [e]
  cases s <;> rfl
theorem sub_self64_not {x : Nat} (h : finB .f64 x = false) : floatBits .sub .f64 x x = none := by
  unfold finB at h
  show Ieee.double.sub x x = none
  unfold Ieee.Format.sub
  cases hx : FloatKind.f64.decode x with
  | number s m p => rw [hx] at h; cases h
  | infinity s => rw [show Ieee.double.read x = _ from hx]; cases s <;> rfl
  | nan s t => rw [show Ieee.double.read x = _ from hx]; rfl

/-- The quotient of a lesser magnitude by a greater one. -/
theorem quot_small {a b : Nat} {s t : Bool} {m n : Nat} {i j : Int} (ha : Ieee.double.read a = .number s m i) (hb : Ieee.double.read b = .number t n j) (hi : -1074 ≤ i) (hj : -1074 ≤ j)
    (hle : m * 2 ^ (i + 1074).toNat ≤ n * 2 ^ (j + 1074).toNat) (h0 : n * 2 ^ (j + 1074).toNat ≠ 0) : floatBits .quo .f64 a b = some (fd a b) ∧ B 1075 (fd a b) := by
  generalize hX : n * 2 ^ (j + 1074).toNat = X at *
  have h1 := Fl.log2_le X h0
  have h2 := Fl.lt_log2 X
  have ba : B (X.log2 + 1) a := B_of ha hi (by omega)
  have gb : G X.log2 b := G_of hb hj (by rw [hX]; exact h1)
  have := fd_ok ba gb (by omega) (by omega)
  rw [show X.log2 + 1 + 1074 - X.log2 = 1075 by omega] at this
  exact this

theorem or_false2 {a b : Bool} (h : (a || b) = false) : a = false ∧ b = false := by cases a <;> cases b <;> first | exact ⟨rfl, rfl⟩ | cases h

end Go.Proofs.Ytfmnfidocicjkaa
