/-
  No cell of these rows narrows 'for every input' (looked for: loops, veiled, ifaces, maps, wideKeys, modest, calm, conditions, laid).
  DERIVED. THE GIVEN ROWS OF THIS SEAT. 12 by the template 'for every input the law returns true; each argument reads behind the call as it read before'; 0 by the template 'total and deterministic' (their statements: YtofpaolmfcdokaaTotals.lean).
  GIVEN WITH THE SEED: the statements are not yours to turn. If you find one false, say at which input.
  Laid BY PROGRAM, IN A SANDBOX (cutbox-rows.mjs): the forced cells as the released guide's own fill.sh prints them over the translation 5334aebaf01f93d9… (all of the seat's roots in one cut). By AI agents, Wed Nov 11 2026. No macro, syntax, notation, axiom, sorry.
-/
import Derived.Test.YtofpaolmfcdokaaChecked
import GoSem.Claim
import GoSem.ClaimJoined
import GoSem.ClaimMapViews
import Derived.JoinedTies
import Derived.KernelRfl
namespace Go.Proofs.Ytofpaolmfcdokaa
/- THE CELL 'sum', in the pinned program and in every row, IS THE sha256 OF THE DUMP (.gsa) THAT YtofpaolmfcdokaaProg.lean LOADS. Nothing in Lean hashes anything: it is a label: what it is worth is what the hold of that sum in a sandbox is worth. -/
noncomputable def Try.pinned : Pinned := { name := "ytofpaolmfcdokaa", sum := "5334aebaf01f93d995033d810604c725c6c79b5d0ec766821c4adf0da317dd00", checked := Try.checked }
namespace Rows
def none {H : Type} : Left H := { results := [], args := [] }

/-- 'laws.FnExactValidGrammar': WHATEVER THE INPUT: true; the input reads as it did. -/
def fnExactValidGrammarSpec : ChangeSpec := { name := "fnExactValidGrammar", fn := fun _ => fun
  | [d] => { results := [.lit (.bool true)], args := [d] }
  | _ => none }
def fnExactValidGrammarRow : OpenClaim := { program := "ytofpaolmfcdokaa", sum := "5334aebaf01f93d995033d810604c725c6c79b5d0ec766821c4adf0da317dd00", func := "loop.example/g01357/laws.FnExactValidGrammar", spec := "fnExactValidGrammar", unfollowed := true, recurses := true, apart := false }
def FnExactValidGrammarSaid : Prop := fnExactValidGrammarRow.holds Try.pinned (OpenSpec.ofChange fnExactValidGrammarSpec)

/-- ITS FALSE NEIGHBOUR: 'it returns false'. Refute it at one input. -/
def fnExactValidGrammarWrong : ChangeSpec := { name := "fnExactValidGrammar", fn := fun _ => fun
  | [d] => { results := [.lit (.bool false)], args := [d] }
  | _ => none }
def FnExactValidGrammarWrongFalsely : Prop := fnExactValidGrammarRow.holds Try.pinned (OpenSpec.ofChange fnExactValidGrammarWrong)

/-- 'laws.FnExactSameGrammar': WHATEVER THE INPUT: true; the input reads as it did. -/
def fnExactSameGrammarSpec : ChangeSpec := { name := "fnExactSameGrammar", fn := fun _ => fun
  | [d1, d2] => { results := [.lit (.bool true)], args := [d1, d2] }
  | _ => none }
def fnExactSameGrammarRow : OpenClaim := { program := "ytofpaolmfcdokaa", sum := "5334aebaf01f93d995033d810604c725c6c79b5d0ec766821c4adf0da317dd00", func := "loop.example/g01357/laws.FnExactSameGrammar", spec := "fnExactSameGrammar", apart := false }
def FnExactSameGrammarSaid : Prop := fnExactSameGrammarRow.holds Try.pinned (OpenSpec.ofChange fnExactSameGrammarSpec)

/-- ITS FALSE NEIGHBOUR: 'it returns false'. Refute it at one input. -/
def fnExactSameGrammarWrong : ChangeSpec := { name := "fnExactSameGrammar", fn := fun _ => fun
  | [d1, d2] => { results := [.lit (.bool false)], args := [d1, d2] }
  | _ => none }
def FnExactSameGrammarWrongFalsely : Prop := fnExactSameGrammarRow.holds Try.pinned (OpenSpec.ofChange fnExactSameGrammarWrong)

/-- 'laws.FnExactBackGrammar': WHATEVER THE INPUT: true; the input reads as it did. -/
def fnExactBackGrammarSpec : ChangeSpec := { name := "fnExactBackGrammar", fn := fun _ => fun
  | [d] => { results := [.lit (.bool true)], args := [d] }
  | _ => none }
def fnExactBackGrammarRow : OpenClaim := { program := "ytofpaolmfcdokaa", sum := "5334aebaf01f93d995033d810604c725c6c79b5d0ec766821c4adf0da317dd00", func := "loop.example/g01357/laws.FnExactBackGrammar", spec := "fnExactBackGrammar", unfollowed := true, recurses := true, apart := false }
def FnExactBackGrammarSaid : Prop := fnExactBackGrammarRow.holds Try.pinned (OpenSpec.ofChange fnExactBackGrammarSpec)

/-- ITS FALSE NEIGHBOUR: 'it returns false'. Refute it at one input. -/
def fnExactBackGrammarWrong : ChangeSpec := { name := "fnExactBackGrammar", fn := fun _ => fun
  | [d] => { results := [.lit (.bool false)], args := [d] }
  | _ => none }
def FnExactBackGrammarWrongFalsely : Prop := fnExactBackGrammarRow.holds Try.pinned (OpenSpec.ofChange fnExactBackGrammarWrong)

/-- 'laws.FnExactEitherGrammar': WHATEVER THE INPUT: true; the input reads as it did. -/
def fnExactEitherGrammarSpec : ChangeSpec := { name := "fnExactEitherGrammar", fn := fun _ => fun
  | [d1, d2] => { results := [.lit (.bool true)], args := [d1, d2] }
  | _ => none }
def fnExactEitherGrammarRow : OpenClaim := { program := "ytofpaolmfcdokaa", sum := "5334aebaf01f93d995033d810604c725c6c79b5d0ec766821c4adf0da317dd00", func := "loop.example/g01357/laws.FnExactEitherGrammar", spec := "fnExactEitherGrammar", unfollowed := true, recurses := true, apart := false }
def FnExactEitherGrammarSaid : Prop := fnExactEitherGrammarRow.holds Try.pinned (OpenSpec.ofChange fnExactEitherGrammarSpec)

/-- ITS FALSE NEIGHBOUR: 'it returns false'. Refute it at one input. -/
def fnExactEitherGrammarWrong : ChangeSpec := { name := "fnExactEitherGrammar", fn := fun _ => fun
  | [d1, d2] => { results := [.lit (.bool false)], args := [d1, d2] }
  | _ => none }
def FnExactEitherGrammarWrongFalsely : Prop := fnExactEitherGrammarRow.holds Try.pinned (OpenSpec.ofChange fnExactEitherGrammarWrong)

/-- 'laws.FnExactGrammarOf': WHATEVER THE INPUT: true; the input reads as it did. -/
def fnExactGrammarOfSpec : ChangeSpec := { name := "fnExactGrammarOf", fn := fun _ => fun
  | [d] => { results := [.lit (.bool true)], args := [d] }
  | _ => none }
def fnExactGrammarOfRow : OpenClaim := { program := "ytofpaolmfcdokaa", sum := "5334aebaf01f93d995033d810604c725c6c79b5d0ec766821c4adf0da317dd00", func := "loop.example/g01357/laws.FnExactGrammarOf", spec := "fnExactGrammarOf", unfollowed := true, recurses := true, apart := false }
def FnExactGrammarOfSaid : Prop := fnExactGrammarOfRow.holds Try.pinned (OpenSpec.ofChange fnExactGrammarOfSpec)

/-- ITS FALSE NEIGHBOUR: 'it returns false'. Refute it at one input. -/
def fnExactGrammarOfWrong : ChangeSpec := { name := "fnExactGrammarOf", fn := fun _ => fun
  | [d] => { results := [.lit (.bool false)], args := [d] }
  | _ => none }
def FnExactGrammarOfWrongFalsely : Prop := fnExactGrammarOfRow.holds Try.pinned (OpenSpec.ofChange fnExactGrammarOfWrong)

/-- 'laws.FnExactLeastCosts': WHATEVER THE INPUT: true; the input reads as it did. -/
def fnExactLeastCostsSpec : ChangeSpec := { name := "fnExactLeastCosts", fn := fun _ => fun
  | [d] => { results := [.lit (.bool true)], args := [d] }
  | _ => none }
def fnExactLeastCostsRow : OpenClaim := { program := "ytofpaolmfcdokaa", sum := "5334aebaf01f93d995033d810604c725c6c79b5d0ec766821c4adf0da317dd00", func := "loop.example/g01357/laws.FnExactLeastCosts", spec := "fnExactLeastCosts", unfollowed := true, recurses := true, apart := false }
def FnExactLeastCostsSaid : Prop := fnExactLeastCostsRow.holds Try.pinned (OpenSpec.ofChange fnExactLeastCostsSpec)

/-- ITS FALSE NEIGHBOUR: 'it returns false'. Refute it at one input. -/
def fnExactLeastCostsWrong : ChangeSpec := { name := "fnExactLeastCosts", fn := fun _ => fun
  | [d] => { results := [.lit (.bool false)], args := [d] }
  | _ => none }
def FnExactLeastCostsWrongFalsely : Prop := fnExactLeastCostsRow.holds Try.pinned (OpenSpec.ofChange fnExactLeastCostsWrong)

/-- 'laws.FnExactCheapWord': WHATEVER THE INPUT: true; the input reads as it did. -/
def fnExactCheapWordSpec : ChangeSpec := { name := "fnExactCheapWord", fn := fun _ => fun
  | [d] => { results := [.lit (.bool true)], args := [d] }
  | _ => none }
def fnExactCheapWordRow : OpenClaim := { program := "ytofpaolmfcdokaa", sum := "5334aebaf01f93d995033d810604c725c6c79b5d0ec766821c4adf0da317dd00", func := "loop.example/g01357/laws.FnExactCheapWord", spec := "fnExactCheapWord", unfollowed := true, recurses := true, apart := false }
def FnExactCheapWordSaid : Prop := fnExactCheapWordRow.holds Try.pinned (OpenSpec.ofChange fnExactCheapWordSpec)

/-- ITS FALSE NEIGHBOUR: 'it returns false'. Refute it at one input. -/
def fnExactCheapWordWrong : ChangeSpec := { name := "fnExactCheapWord", fn := fun _ => fun
  | [d] => { results := [.lit (.bool false)], args := [d] }
  | _ => none }
def FnExactCheapWordWrongFalsely : Prop := fnExactCheapWordRow.holds Try.pinned (OpenSpec.ofChange fnExactCheapWordWrong)

/-- 'laws.FnExactUsefulRules': WHATEVER THE INPUT: true; the input reads as it did. -/
def fnExactUsefulRulesSpec : ChangeSpec := { name := "fnExactUsefulRules", fn := fun _ => fun
  | [d] => { results := [.lit (.bool true)], args := [d] }
  | _ => none }
def fnExactUsefulRulesRow : OpenClaim := { program := "ytofpaolmfcdokaa", sum := "5334aebaf01f93d995033d810604c725c6c79b5d0ec766821c4adf0da317dd00", func := "loop.example/g01357/laws.FnExactUsefulRules", spec := "fnExactUsefulRules", unfollowed := true, recurses := true, apart := false }
def FnExactUsefulRulesSaid : Prop := fnExactUsefulRulesRow.holds Try.pinned (OpenSpec.ofChange fnExactUsefulRulesSpec)

/-- ITS FALSE NEIGHBOUR: 'it returns false'. Refute it at one input. -/
def fnExactUsefulRulesWrong : ChangeSpec := { name := "fnExactUsefulRules", fn := fun _ => fun
  | [d] => { results := [.lit (.bool false)], args := [d] }
  | _ => none }
def FnExactUsefulRulesWrongFalsely : Prop := fnExactUsefulRulesRow.holds Try.pinned (OpenSpec.ofChange fnExactUsefulRulesWrong)

/-- 'laws.FnExactChartOf': WHATEVER THE INPUT: true; the input reads as it did. -/
def fnExactChartOfSpec : ChangeSpec := { name := "fnExactChartOf", fn := fun _ => fun
  | [d1, d2] => { results := [.lit (.bool true)], args := [d1, d2] }
  | _ => none }
def fnExactChartOfRow : OpenClaim := { program := "ytofpaolmfcdokaa", sum := "5334aebaf01f93d995033d810604c725c6c79b5d0ec766821c4adf0da317dd00", func := "loop.example/g01357/laws.FnExactChartOf", spec := "fnExactChartOf", unfollowed := true, recurses := true, apart := false }
def FnExactChartOfSaid : Prop := fnExactChartOfRow.holds Try.pinned (OpenSpec.ofChange fnExactChartOfSpec)

/-- ITS FALSE NEIGHBOUR: 'it returns false'. Refute it at one input. -/
def fnExactChartOfWrong : ChangeSpec := { name := "fnExactChartOf", fn := fun _ => fun
  | [d1, d2] => { results := [.lit (.bool false)], args := [d1, d2] }
  | _ => none }
def FnExactChartOfWrongFalsely : Prop := fnExactChartOfRow.holds Try.pinned (OpenSpec.ofChange fnExactChartOfWrong)

/-- 'laws.FnExactParseCost': WHATEVER THE INPUT: true; the input reads as it did. -/
def fnExactParseCostSpec : ChangeSpec := { name := "fnExactParseCost", fn := fun _ => fun
  | [d1, d2] => { results := [.lit (.bool true)], args := [d1, d2] }
  | _ => none }
def fnExactParseCostRow : OpenClaim := { program := "ytofpaolmfcdokaa", sum := "5334aebaf01f93d995033d810604c725c6c79b5d0ec766821c4adf0da317dd00", func := "loop.example/g01357/laws.FnExactParseCost", spec := "fnExactParseCost", unfollowed := true, recurses := true, apart := false }
def FnExactParseCostSaid : Prop := fnExactParseCostRow.holds Try.pinned (OpenSpec.ofChange fnExactParseCostSpec)

/-- ITS FALSE NEIGHBOUR: 'it returns false'. Refute it at one input. -/
def fnExactParseCostWrong : ChangeSpec := { name := "fnExactParseCost", fn := fun _ => fun
  | [d1, d2] => { results := [.lit (.bool false)], args := [d1, d2] }
  | _ => none }
def FnExactParseCostWrongFalsely : Prop := fnExactParseCostRow.holds Try.pinned (OpenSpec.ofChange fnExactParseCostWrong)

/-- 'laws.FnExactParseTree': WHATEVER THE INPUT: true; the input reads as it did. -/
def fnExactParseTreeSpec : ChangeSpec := { name := "fnExactParseTree", fn := fun _ => fun
  | [d1, d2] => { results := [.lit (.bool true)], args := [d1, d2] }
  | _ => none }
def fnExactParseTreeRow : OpenClaim := { program := "ytofpaolmfcdokaa", sum := "5334aebaf01f93d995033d810604c725c6c79b5d0ec766821c4adf0da317dd00", func := "loop.example/g01357/laws.FnExactParseTree", spec := "fnExactParseTree", unfollowed := true, recurses := true, apart := false }
def FnExactParseTreeSaid : Prop := fnExactParseTreeRow.holds Try.pinned (OpenSpec.ofChange fnExactParseTreeSpec)

/-- ITS FALSE NEIGHBOUR: 'it returns false'. Refute it at one input. -/
def fnExactParseTreeWrong : ChangeSpec := { name := "fnExactParseTree", fn := fun _ => fun
  | [d1, d2] => { results := [.lit (.bool false)], args := [d1, d2] }
  | _ => none }
def FnExactParseTreeWrongFalsely : Prop := fnExactParseTreeRow.holds Try.pinned (OpenSpec.ofChange fnExactParseTreeWrong)

/-- 'laws.FnExactCountTrees': WHATEVER THE INPUT: true; the input reads as it did. -/
def fnExactCountTreesSpec : ChangeSpec := { name := "fnExactCountTrees", fn := fun _ => fun
  | [d1, d2] => { results := [.lit (.bool true)], args := [d1, d2] }
  | _ => none }
def fnExactCountTreesRow : OpenClaim := { program := "ytofpaolmfcdokaa", sum := "5334aebaf01f93d995033d810604c725c6c79b5d0ec766821c4adf0da317dd00", func := "loop.example/g01357/laws.FnExactCountTrees", spec := "fnExactCountTrees", unfollowed := true, recurses := true, apart := false }
def FnExactCountTreesSaid : Prop := fnExactCountTreesRow.holds Try.pinned (OpenSpec.ofChange fnExactCountTreesSpec)

/-- ITS FALSE NEIGHBOUR: 'it returns false'. Refute it at one input. -/
def fnExactCountTreesWrong : ChangeSpec := { name := "fnExactCountTrees", fn := fun _ => fun
  | [d1, d2] => { results := [.lit (.bool false)], args := [d1, d2] }
  | _ => none }
def FnExactCountTreesWrongFalsely : Prop := fnExactCountTreesRow.holds Try.pinned (OpenSpec.ofChange fnExactCountTreesWrong)

/- THE SECOND FORM. 'bulk': how many values and letters a reading holds, each counted each time it is reached (what is shared counts as often as it is met; a slice's spare places count too). A statement '..UptoSaid' is the law's where the arguments, and the package variables that the reading takes, are together of bulk at most 1048576: NARROWER than '..Said'. Prove '..Said' where nothing that the law and all that it calls make is longer than what came in: it says more and counts as full. Else prove '..UptoSaid'. A law counts once. -/
mutual
def uptoBulk {H : Type} : DataW H → Nat
  | .lit (.string bytes) => bytes.length + 1
  | .lit _ => 1
  | .nil => 1
  | .ptr d => uptoBulk d + 1
  | .slice elems spare => uptoBulkAll elems + uptoBulkAll spare + 1
  | .agg parts => uptoBulkAll parts + 1
  | .iface _ d => uptoBulk d + 1
  | .map entries => uptoBulkEntries entries + 1
  | .held _ => 1
def uptoBulkAll {H : Type} : List (DataW H) → Nat
  | [] => 0
  | d :: r => uptoBulk d + uptoBulkAll r
def uptoBulkEntries {H : Type} : List (Lit × DataW H) → Nat
  | [] => 0
  | x :: r => uptoBulkEntry x + uptoBulkEntries r
def uptoBulkEntry {H : Type} : Lit × DataW H → Nat
  | (.string bytes, d) => bytes.length + uptoBulk d + 1
  | (_, d) => uptoBulk d + 1
 end
def uptoSmall : (H : Type) → List (DataW H) → Bool := fun _ ds => decide (uptoBulkAll ds ≤ 1048576)
def OpenSpec.upto (s : _root_.Go.ChangeSpec) : _root_.Go.OpenSpec := { _root_.Go.OpenSpec.ofChange s with cond := some uptoSmall }

/-- 'laws.FnExactValidGrammar', WHERE WHAT IT READS IS OF BULK AT MOST 1048576: true; the input reads as it did. -/
def fnExactValidGrammarUptoRow : OpenClaim := { program := "ytofpaolmfcdokaa", sum := "5334aebaf01f93d995033d810604c725c6c79b5d0ec766821c4adf0da317dd00", func := "loop.example/g01357/laws.FnExactValidGrammar", spec := "fnExactValidGrammar", unfollowed := true, recurses := true, apart := false, narrowed := true }
def FnExactValidGrammarUptoSaid : Prop := fnExactValidGrammarUptoRow.holds Try.pinned (OpenSpec.upto fnExactValidGrammarSpec)

/-- 'laws.FnExactSameGrammar', WHERE WHAT IT READS IS OF BULK AT MOST 1048576: true; the input reads as it did. -/
def fnExactSameGrammarUptoRow : OpenClaim := { program := "ytofpaolmfcdokaa", sum := "5334aebaf01f93d995033d810604c725c6c79b5d0ec766821c4adf0da317dd00", func := "loop.example/g01357/laws.FnExactSameGrammar", spec := "fnExactSameGrammar", apart := false, narrowed := true }
def FnExactSameGrammarUptoSaid : Prop := fnExactSameGrammarUptoRow.holds Try.pinned (OpenSpec.upto fnExactSameGrammarSpec)

/-- 'laws.FnExactBackGrammar', WHERE WHAT IT READS IS OF BULK AT MOST 1048576: true; the input reads as it did. -/
def fnExactBackGrammarUptoRow : OpenClaim := { program := "ytofpaolmfcdokaa", sum := "5334aebaf01f93d995033d810604c725c6c79b5d0ec766821c4adf0da317dd00", func := "loop.example/g01357/laws.FnExactBackGrammar", spec := "fnExactBackGrammar", unfollowed := true, recurses := true, apart := false, narrowed := true }
def FnExactBackGrammarUptoSaid : Prop := fnExactBackGrammarUptoRow.holds Try.pinned (OpenSpec.upto fnExactBackGrammarSpec)

/-- 'laws.FnExactEitherGrammar', WHERE WHAT IT READS IS OF BULK AT MOST 1048576: true; the input reads as it did. -/
def fnExactEitherGrammarUptoRow : OpenClaim := { program := "ytofpaolmfcdokaa", sum := "5334aebaf01f93d995033d810604c725c6c79b5d0ec766821c4adf0da317dd00", func := "loop.example/g01357/laws.FnExactEitherGrammar", spec := "fnExactEitherGrammar", unfollowed := true, recurses := true, apart := false, narrowed := true }
def FnExactEitherGrammarUptoSaid : Prop := fnExactEitherGrammarUptoRow.holds Try.pinned (OpenSpec.upto fnExactEitherGrammarSpec)

/-- 'laws.FnExactGrammarOf', WHERE WHAT IT READS IS OF BULK AT MOST 1048576: true; the input reads as it did. -/
def fnExactGrammarOfUptoRow : OpenClaim := { program := "ytofpaolmfcdokaa", sum := "5334aebaf01f93d995033d810604c725c6c79b5d0ec766821c4adf0da317dd00", func := "loop.example/g01357/laws.FnExactGrammarOf", spec := "fnExactGrammarOf", unfollowed := true, recurses := true, apart := false, narrowed := true }
def FnExactGrammarOfUptoSaid : Prop := fnExactGrammarOfUptoRow.holds Try.pinned (OpenSpec.upto fnExactGrammarOfSpec)

/-- 'laws.FnExactLeastCosts', WHERE WHAT IT READS IS OF BULK AT MOST 1048576: true; the input reads as it did. -/
def fnExactLeastCostsUptoRow : OpenClaim := { program := "ytofpaolmfcdokaa", sum := "5334aebaf01f93d995033d810604c725c6c79b5d0ec766821c4adf0da317dd00", func := "loop.example/g01357/laws.FnExactLeastCosts", spec := "fnExactLeastCosts", unfollowed := true, recurses := true, apart := false, narrowed := true }
def FnExactLeastCostsUptoSaid : Prop := fnExactLeastCostsUptoRow.holds Try.pinned (OpenSpec.upto fnExactLeastCostsSpec)

/-- 'laws.FnExactCheapWord', WHERE WHAT IT READS IS OF BULK AT MOST 1048576: true; the input reads as it did. -/
def fnExactCheapWordUptoRow : OpenClaim := { program := "ytofpaolmfcdokaa", sum := "5334aebaf01f93d995033d810604c725c6c79b5d0ec766821c4adf0da317dd00", func := "loop.example/g01357/laws.FnExactCheapWord", spec := "fnExactCheapWord", unfollowed := true, recurses := true, apart := false, narrowed := true }
def FnExactCheapWordUptoSaid : Prop := fnExactCheapWordUptoRow.holds Try.pinned (OpenSpec.upto fnExactCheapWordSpec)

/-- 'laws.FnExactUsefulRules', WHERE WHAT IT READS IS OF BULK AT MOST 1048576: true; the input reads as it did. -/
def fnExactUsefulRulesUptoRow : OpenClaim := { program := "ytofpaolmfcdokaa", sum := "5334aebaf01f93d995033d810604c725c6c79b5d0ec766821c4adf0da317dd00", func := "loop.example/g01357/laws.FnExactUsefulRules", spec := "fnExactUsefulRules", unfollowed := true, recurses := true, apart := false, narrowed := true }
def FnExactUsefulRulesUptoSaid : Prop := fnExactUsefulRulesUptoRow.holds Try.pinned (OpenSpec.upto fnExactUsefulRulesSpec)

/-- 'laws.FnExactChartOf', WHERE WHAT IT READS IS OF BULK AT MOST 1048576: true; the input reads as it did. -/
def fnExactChartOfUptoRow : OpenClaim := { program := "ytofpaolmfcdokaa", sum := "5334aebaf01f93d995033d810604c725c6c79b5d0ec766821c4adf0da317dd00", func := "loop.example/g01357/laws.FnExactChartOf", spec := "fnExactChartOf", unfollowed := true, recurses := true, apart := false, narrowed := true }
def FnExactChartOfUptoSaid : Prop := fnExactChartOfUptoRow.holds Try.pinned (OpenSpec.upto fnExactChartOfSpec)

/-- 'laws.FnExactParseCost', WHERE WHAT IT READS IS OF BULK AT MOST 1048576: true; the input reads as it did. -/
def fnExactParseCostUptoRow : OpenClaim := { program := "ytofpaolmfcdokaa", sum := "5334aebaf01f93d995033d810604c725c6c79b5d0ec766821c4adf0da317dd00", func := "loop.example/g01357/laws.FnExactParseCost", spec := "fnExactParseCost", unfollowed := true, recurses := true, apart := false, narrowed := true }
def FnExactParseCostUptoSaid : Prop := fnExactParseCostUptoRow.holds Try.pinned (OpenSpec.upto fnExactParseCostSpec)

/-- 'laws.FnExactParseTree', WHERE WHAT IT READS IS OF BULK AT MOST 1048576: true; the input reads as it did. -/
def fnExactParseTreeUptoRow : OpenClaim := { program := "ytofpaolmfcdokaa", sum := "5334aebaf01f93d995033d810604c725c6c79b5d0ec766821c4adf0da317dd00", func := "loop.example/g01357/laws.FnExactParseTree", spec := "fnExactParseTree", unfollowed := true, recurses := true, apart := false, narrowed := true }
def FnExactParseTreeUptoSaid : Prop := fnExactParseTreeUptoRow.holds Try.pinned (OpenSpec.upto fnExactParseTreeSpec)

/-- 'laws.FnExactCountTrees', WHERE WHAT IT READS IS OF BULK AT MOST 1048576: true; the input reads as it did. -/
def fnExactCountTreesUptoRow : OpenClaim := { program := "ytofpaolmfcdokaa", sum := "5334aebaf01f93d995033d810604c725c6c79b5d0ec766821c4adf0da317dd00", func := "loop.example/g01357/laws.FnExactCountTrees", spec := "fnExactCountTrees", unfollowed := true, recurses := true, apart := false, narrowed := true }
def FnExactCountTreesUptoSaid : Prop := fnExactCountTreesUptoRow.holds Try.pinned (OpenSpec.upto fnExactCountTreesSpec)

end Rows
end Go.Proofs.Ytofpaolmfcdokaa
