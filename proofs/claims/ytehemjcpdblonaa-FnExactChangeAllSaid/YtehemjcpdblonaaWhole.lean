/- A struct of many cells, loaded and stored at one step. -/
import Derived.Test.YtehemjcpdblonaaFind
import Derived.Deep.WholeRow
set_option linter.unusedVariables false
namespace Go.Proofs.Ytehemjcpdblonaa
open Go.RowKit
theorem wpList_load_at {P : Program} {w : World} {ops : Array Oper} {rest : List Oper} {o : Oper} {a : Act} {Q : Exit → Act → World → Prop} (hgd : o.guard = none) (p : Operand) (t : TypeId) (ho : o.op = .load t p) (x : Value) (hp : a.eval p = x) (v : Value)
    (hl : (Instr.loadAt t x).run P w = .ok v w) (h : wpList P ops Q rest (a.put o.dst v) w) : wpList P ops Q (o :: rest) a w := by
  refine wpList_plain hgd fun K hK => ?_
  unfold Oper.wp execOp
  simp only [ho, Sem.run_bind, Sem.run_pure, Result.andThen_ok, hp, hl]
  exact hK _ _ h
theorem wpList_store_at {P : Program} {w w' : World} {ops : Array Oper} {rest : List Oper} {o : Oper} {a : Act} {Q : Exit → Act → World → Prop} (hgd : o.guard = none) (p y : Operand) (t : TypeId) (ho : o.op = .store t p y) (x v : Value) (hp : a.eval p = x) (hy : a.eval y = v)
    (hl : (Instr.storeAt t x v).run P w = .ok () w') (h : wpList P ops Q rest (a.put o.dst undef) w') : wpList P ops Q (o :: rest) a w := by
  refine wpList_plain hgd fun K hK => ?_
  unfold Oper.wp execOp
  simp only [ho, Sem.run_bind, Sem.run_pure, Result.andThen_ok, hp, hy, hl]
  exact hK _ _ h
theorem run_loadAt_cells {P : Program} (w : World) (t : TypeId) (x : Addr) (cs : List Value) (fs : Array Field) (hu : P.underlying t = some (.struct fs)) (hi : (P.info? t).map (·.size) = some cs.length) (h : ∀ j v, cs[j]? = some v → w.cell? (x.add j) = some v) :
    (Instr.loadAt t (.pointer (some x))).run P w = .ok (.agg cs.toArray) w := by
  have hs : (sizeOf t).run P w = .ok cs.length w := by
    cases hq : P.info? t with
    | none => simp [hq] at hi
    | some i =>
      have : i.size = cs.length := by simpa [hq] using hi
      simp [sizeOf, typeInfo, hq, this]
  have hl := run_loadCells_list (P := P) w x cs h
  have hagg : (isAgg t).run P w = .ok true w := by simp [isAgg, run_underlying hu]
  simp only [Instr.loadAt, Instr.sureAddr, loadVar, Sem.run_bind, Sem.run_pure, Result.andThen_ok, hagg, hs, hl, if_true]
end Go.Proofs.Ytehemjcpdblonaa
