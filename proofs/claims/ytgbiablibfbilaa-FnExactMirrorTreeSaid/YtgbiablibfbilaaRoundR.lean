/- A region that draws its order, in a round of a range over a function: as anywhere, where its operations enter no function. -/
import Derived.OrdersIn
import Derived.Orders
import Derived.RegionTactic
import Derived.OwnWalkIn
import Derived.Test.YtgbiablibfbilaaRet
set_option linter.unusedVariables false
namespace Go.Proofs.Ytgbiablibfbilaa
open Go.RowKit

/-- Operations that end in a value or in nothing at once. -/
def plainOp (o : Oper) : Bool := match o.op with
  | .move _ | .assign _ | .load _ _ | .store _ _ _ | .binOp _ _ _ _ _ | .slice _ _ _ _ _ | .indexAddr _ _ _ | .build _ _ | .makeInterface _ _ | .buildSlice _ _ _ | .fieldAddr _ _ _ => true
  | .call c => match c.callee with
    | .builtin .append | .builtin .len => true
    | _ => false
  | _ => false
/-- A result that is a value, nothing, or a halt. -/
def PlainR (r : Result Next) : Prop := ∀ x w', r = .ok x w' → (∃ v, x = .value v) ∨ x = .skip
theorem plainR_bind {α : Type} (s : Sem α) (g : α → Next) (hg : ∀ v, (∃ u, g v = .value u) ∨ g v = .skip) (P : Program) (w : World) : PlainR ((do let v ← s; pure (g v) : Sem Next).run P w) := by
  intro x w' h
  rw [Sem.run_bind] at h
  cases hs : s.run P w with
  | ok v w1 =>
    rw [hs] at h
    simp only [Result.andThen_ok, Sem.run_pure] at h
    cases h
    exact hg v
  | halt e w1 =>
    rw [hs] at h
    cases h
theorem plainR_pure (x : Next) (hx : (∃ u, x = .value u) ∨ x = .skip) (P : Program) (w : World) : PlainR ((pure x : Sem Next).run P w) := by
  intro y w' h
  rw [Sem.run_pure] at h
  cases h
  exact hx
theorem plainOp_run {o : Oper} (ho : plainOp o = true) (ρ : Operand → Value) (P : Program) (w : World) : PlainR ((execOp ρ o).run P w) := by
  unfold plainOp at ho
  unfold execOp
  cases hop : o.op <;> rw [hop] at ho <;> (try dsimp only at ho) <;> first
    | (cases ho; done)
    | skip
  all_goals (try dsimp only)
  all_goals first
    | exact plainR_pure _ (.inl ⟨_, rfl⟩) P w
    | exact plainR_bind _ _ (fun v => .inl ⟨v, rfl⟩) P w
    | exact plainR_bind _ (fun _ => .skip) (fun v => .inr rfl) P w
    | skip
  rename_i c
  have e : ∀ b, c.callee = .builtin b → (do let d ← resolve ρ c o.type; invoke d.target d.args : Sem Next) = builtin b c.argTypes o.type (c.args.map fun | .const _ => true | _ => false) (c.args.map ρ) := fun b hb => by
    unfold resolve
    simp only [hb]
    rfl
  cases hc : c.callee with
  | builtin b =>
    rw [e b hc]
    rw [hc] at ho
    cases b <;> (try dsimp only at ho) <;> first
      | (cases ho; done)
      | (unfold builtin; dsimp only; exact plainR_bind _ _ (fun v => .inl ⟨v, rfl⟩) P w)
  | value f => rw [hc] at ho; cases ho
  | invoke r n => rw [hc] at ho; cases ho
theorem plainOp_about {o : Oper} (ho : plainOp o = true) (ρ : Operand → Value) (P : Program) (w : World) : o.about P w ρ = none := by
  unfold plainOp at ho
  unfold Oper.about
  cases hop : o.op <;> rw [hop] at ho <;> (try dsimp only at ho) <;> first
    | (cases ho; done)
    | rfl
    | skip
  rename_i c
  cases hc : c.callee with
  | builtin b => dsimp only; unfold resolve; simp only [hc]; rfl
  | value f => rw [hc] at ho; cases ho
  | invoke r n => rw [hc] at ho; cases ho
theorem plainOp_defer {o : Oper} (ho : plainOp o = true) (c : Call) : o.op ≠ .defer c := fun e => by
  unfold plainOp at ho
  rw [e] at ho
  cases ho
theorem upon_in {F : Fence} {n : Nat} {P : Program} {o : Oper} {a : Act} {K : Act → World → Prop} {Q : Exit → Act → World → Prop} {r : Result Next} (hr : PlainR r) (h : o.upon P a K Q r) : o.uponIn F n P a K Q r := by
  cases r with
  | ok x w' =>
    rcases hr x w' rfl with ⟨v, rfl⟩ | rfl
    · exact h
    · exact h
  | halt e w' =>
    cases e <;> first | exact h | exact h.elim
theorem plain_of_all {ops : Array Oper} (h : ops.all plainOp = true) (i : Nat) (o : Oper) (e : ops[i]? = some o) : plainOp o = true := by
  obtain ⟨hi, rfl⟩ := Array.getElem?_eq_some_iff.1 e
  exact Array.all_eq_true.1 h i hi
section
variable {F : Fence} {n : Nat} {P : Program} {md : Region.Mode} {ops : Array Oper} {Q : Exit → Act → World → Prop}
theorem wpOp_in (hL : ¬ LetsOut Q) (hp : ∀ (i : Nat) (o : Oper), ops[i]? = some o → plainOp o = true) {i : Nat} {K : Act → World → Prop} {a : Act} {w : World} (h : wpOp P ops Q i K a w) : wpOpIn F n P ops Q i K a w := by
  unfold wpOp at h
  unfold wpOpIn
  cases ho : ops[i]? with
  | none => rw [ho] at h; exact h
  | some o =>
    rw [ho] at h
    have hpo := hp i o ho
    dsimp only at h ⊢
    by_cases hw : Region.wanted o (yielded ops a.tmps) = true
    · rw [if_pos hw] at h ⊢
      unfold Oper.wp at h
      unfold Oper.wpIn
      refine ⟨fun f hf => (by rw [plainOp_about hpo] at hf; cases hf), ?_⟩
      rw [Oper.semAt_eq _ _ _ (plainOp_defer hpo)]
      exact upon_in (plainOp_run hpo _ _ _) (h.resolve_right fun q => hL q.2)
    · rw [if_neg hw] at h ⊢
      exact ⟨fun f hf => (by rw [plainOp_about hpo] at hf; cases hf), h⟩
theorem wpAny_in (hL : ¬ LetsOut Q) (hp : ∀ (i : Nat) (o : Oper), ops[i]? = some o → plainOp o = true) : ∀ (fuel : Nat) (listed : Array Bool) (a : Act) (w : World), wpAny P md ops Q fuel listed a w → wpAnyIn F n P md ops Q fuel listed a w
  | 0, _, _, _, h => h
  | fuel + 1, listed, a, w, h => ⟨h.1, fun i hi => wpOpIn_mono (fun a' w' h' => wpAny_in hL hp fuel _ a' w' h') (wpOp_in hL hp (h.2 i hi))⟩
end
end Go.Proofs.Ytgbiablibfbilaa
