/-
  No cell of these rows narrows 'for every input' (looked for: loops, veiled, ifaces, maps, wideKeys, modest, calm, conditions, laid).
  DERIVED. THE GIVEN ROWS OF THIS SEAT. 12 by the template 'for every input the law returns true; each argument reads behind the call as it read before'; 0 by the template 'total and deterministic' (their statements: YtehemjcpdblonaaTotals.lean).
  GIVEN WITH THE SEED: the statements are not yours to turn. If you find one false, say at which input.
  Laid BY PROGRAM, IN A SANDBOX (cutbox-rows.mjs): the forced cells as the released guide's own fill.sh prints them over the translation d196befe2e5a47f6… (all of the seat's roots in one cut). By AI agents, Wed Nov 11 2026. No macro, syntax, notation, axiom, sorry.
-/
import Derived.Test.YtehemjcpdblonaaChecked
import GoSem.Claim
import GoSem.ClaimJoined
import GoSem.ClaimMapViews
import Derived.JoinedTies
import Derived.KernelRfl
namespace Go.Proofs.Ytehemjcpdblonaa
/- THE CELL 'sum', in the pinned program and in every row, IS THE sha256 OF THE DUMP (.gsa) THAT YtehemjcpdblonaaProg.lean LOADS. Nothing in Lean hashes anything: it is a label: what it is worth is what the hold of that sum in a sandbox is worth. -/
noncomputable def Try.pinned : Pinned := { name := "ytehemjcpdblonaa", sum := "d196befe2e5a47f688dfac4762c486e87711abe891fa01329b6275204b6bfba6", checked := Try.checked }
namespace Rows
def none {H : Type} : Left H := { results := [], args := [] }

/-- 'laws.FnExactIsLongWord': WHATEVER THE INPUT: true; the input reads as it did. -/
def fnExactIsLongWordSpec : ChangeSpec := { name := "fnExactIsLongWord", fn := fun _ => fun
  | [d1, d2] => { results := [.lit (.bool true)], args := [d1, d2] }
  | _ => none }
def fnExactIsLongWordRow : OpenClaim := { program := "ytehemjcpdblonaa", sum := "d196befe2e5a47f688dfac4762c486e87711abe891fa01329b6275204b6bfba6", func := "loop.example/g01357/laws.FnExactIsLongWord", spec := "fnExactIsLongWord", unfollowed := true, recurses := true, apart := false }
def FnExactIsLongWordSaid : Prop := fnExactIsLongWordRow.holds Try.pinned (OpenSpec.ofChange fnExactIsLongWordSpec)

/-- ITS FALSE NEIGHBOUR: 'it returns false'. Refute it at one input. -/
def fnExactIsLongWordWrong : ChangeSpec := { name := "fnExactIsLongWord", fn := fun _ => fun
  | [d1, d2] => { results := [.lit (.bool false)], args := [d1, d2] }
  | _ => none }
def FnExactIsLongWordWrongFalsely : Prop := fnExactIsLongWordRow.holds Try.pinned (OpenSpec.ofChange fnExactIsLongWordWrong)

/-- 'laws.FnExactValidChange': WHATEVER THE INPUT: true; the input reads as it did. -/
def fnExactValidChangeSpec : ChangeSpec := { name := "fnExactValidChange", fn := fun _ => fun
  | [d1, d2] => { results := [.lit (.bool true)], args := [d1, d2] }
  | _ => none }
def fnExactValidChangeRow : OpenClaim := { program := "ytehemjcpdblonaa", sum := "d196befe2e5a47f688dfac4762c486e87711abe891fa01329b6275204b6bfba6", func := "loop.example/g01357/laws.FnExactValidChange", spec := "fnExactValidChange", unfollowed := true, recurses := true, apart := false }
def FnExactValidChangeSaid : Prop := fnExactValidChangeRow.holds Try.pinned (OpenSpec.ofChange fnExactValidChangeSpec)

/-- ITS FALSE NEIGHBOUR: 'it returns false'. Refute it at one input. -/
def fnExactValidChangeWrong : ChangeSpec := { name := "fnExactValidChange", fn := fun _ => fun
  | [d1, d2] => { results := [.lit (.bool false)], args := [d1, d2] }
  | _ => none }
def FnExactValidChangeWrongFalsely : Prop := fnExactValidChangeRow.holds Try.pinned (OpenSpec.ofChange fnExactValidChangeWrong)

/-- 'laws.FnExactSameChange': WHATEVER THE INPUT: true; the input reads as it did. -/
def fnExactSameChangeSpec : ChangeSpec := { name := "fnExactSameChange", fn := fun _ => fun
  | [d1, d2] => { results := [.lit (.bool true)], args := [d1, d2] }
  | _ => none }
def fnExactSameChangeRow : OpenClaim := { program := "ytehemjcpdblonaa", sum := "d196befe2e5a47f688dfac4762c486e87711abe891fa01329b6275204b6bfba6", func := "loop.example/g01357/laws.FnExactSameChange", spec := "fnExactSameChange", apart := false }
def FnExactSameChangeSaid : Prop := fnExactSameChangeRow.holds Try.pinned (OpenSpec.ofChange fnExactSameChangeSpec)

/-- ITS FALSE NEIGHBOUR: 'it returns false'. Refute it at one input. -/
def fnExactSameChangeWrong : ChangeSpec := { name := "fnExactSameChange", fn := fun _ => fun
  | [d1, d2] => { results := [.lit (.bool false)], args := [d1, d2] }
  | _ => none }
def FnExactSameChangeWrongFalsely : Prop := fnExactSameChangeRow.holds Try.pinned (OpenSpec.ofChange fnExactSameChangeWrong)

/-- 'laws.FnExactPlacesOf': WHATEVER THE INPUT: true; the input reads as it did. -/
def fnExactPlacesOfSpec : ChangeSpec := { name := "fnExactPlacesOf", fn := fun _ => fun
  | [d1, d2, d3] => { results := [.lit (.bool true)], args := [d1, d2, d3] }
  | _ => none }
def fnExactPlacesOfRow : OpenClaim := { program := "ytehemjcpdblonaa", sum := "d196befe2e5a47f688dfac4762c486e87711abe891fa01329b6275204b6bfba6", func := "loop.example/g01357/laws.FnExactPlacesOf", spec := "fnExactPlacesOf", unfollowed := true, recurses := true, apart := false }
def FnExactPlacesOfSaid : Prop := fnExactPlacesOfRow.holds Try.pinned (OpenSpec.ofChange fnExactPlacesOfSpec)

/-- ITS FALSE NEIGHBOUR: 'it returns false'. Refute it at one input. -/
def fnExactPlacesOfWrong : ChangeSpec := { name := "fnExactPlacesOf", fn := fun _ => fun
  | [d1, d2, d3] => { results := [.lit (.bool false)], args := [d1, d2, d3] }
  | _ => none }
def FnExactPlacesOfWrongFalsely : Prop := fnExactPlacesOfRow.holds Try.pinned (OpenSpec.ofChange fnExactPlacesOfWrong)

/-- 'laws.FnExactChangeFirst': WHATEVER THE INPUT: true; the input reads as it did. -/
def fnExactChangeFirstSpec : ChangeSpec := { name := "fnExactChangeFirst", fn := fun _ => fun
  | [d1, d2, d3] => { results := [.lit (.bool true)], args := [d1, d2, d3] }
  | _ => none }
def fnExactChangeFirstRow : OpenClaim := { program := "ytehemjcpdblonaa", sum := "d196befe2e5a47f688dfac4762c486e87711abe891fa01329b6275204b6bfba6", func := "loop.example/g01357/laws.FnExactChangeFirst", spec := "fnExactChangeFirst", unfollowed := true, recurses := true, apart := false }
def FnExactChangeFirstSaid : Prop := fnExactChangeFirstRow.holds Try.pinned (OpenSpec.ofChange fnExactChangeFirstSpec)

/-- ITS FALSE NEIGHBOUR: 'it returns false'. Refute it at one input. -/
def fnExactChangeFirstWrong : ChangeSpec := { name := "fnExactChangeFirst", fn := fun _ => fun
  | [d1, d2, d3] => { results := [.lit (.bool false)], args := [d1, d2, d3] }
  | _ => none }
def FnExactChangeFirstWrongFalsely : Prop := fnExactChangeFirstRow.holds Try.pinned (OpenSpec.ofChange fnExactChangeFirstWrong)

/-- 'laws.FnExactChangeAll': WHATEVER THE INPUT: true; the input reads as it did. -/
def fnExactChangeAllSpec : ChangeSpec := { name := "fnExactChangeAll", fn := fun _ => fun
  | [d1, d2, d3] => { results := [.lit (.bool true)], args := [d1, d2, d3] }
  | _ => none }
def fnExactChangeAllRow : OpenClaim := { program := "ytehemjcpdblonaa", sum := "d196befe2e5a47f688dfac4762c486e87711abe891fa01329b6275204b6bfba6", func := "loop.example/g01357/laws.FnExactChangeAll", spec := "fnExactChangeAll", unfollowed := true, recurses := true, apart := false }
def FnExactChangeAllSaid : Prop := fnExactChangeAllRow.holds Try.pinned (OpenSpec.ofChange fnExactChangeAllSpec)

/-- ITS FALSE NEIGHBOUR: 'it returns false'. Refute it at one input. -/
def fnExactChangeAllWrong : ChangeSpec := { name := "fnExactChangeAll", fn := fun _ => fun
  | [d1, d2, d3] => { results := [.lit (.bool false)], args := [d1, d2, d3] }
  | _ => none }
def FnExactChangeAllWrongFalsely : Prop := fnExactChangeAllRow.holds Try.pinned (OpenSpec.ofChange fnExactChangeAllWrong)

/-- 'laws.FnExactChangeEnd': WHATEVER THE INPUT: true; the input reads as it did. -/
def fnExactChangeEndSpec : ChangeSpec := { name := "fnExactChangeEnd", fn := fun _ => fun
  | [d1, d2, d3, d4] => { results := [.lit (.bool true)], args := [d1, d2, d3, d4] }
  | _ => none }
def fnExactChangeEndRow : OpenClaim := { program := "ytehemjcpdblonaa", sum := "d196befe2e5a47f688dfac4762c486e87711abe891fa01329b6275204b6bfba6", func := "loop.example/g01357/laws.FnExactChangeEnd", spec := "fnExactChangeEnd", unfollowed := true, recurses := true, apart := false }
def FnExactChangeEndSaid : Prop := fnExactChangeEndRow.holds Try.pinned (OpenSpec.ofChange fnExactChangeEndSpec)

/-- ITS FALSE NEIGHBOUR: 'it returns false'. Refute it at one input. -/
def fnExactChangeEndWrong : ChangeSpec := { name := "fnExactChangeEnd", fn := fun _ => fun
  | [d1, d2, d3, d4] => { results := [.lit (.bool false)], args := [d1, d2, d3, d4] }
  | _ => none }
def FnExactChangeEndWrongFalsely : Prop := fnExactChangeEndRow.holds Try.pinned (OpenSpec.ofChange fnExactChangeEndWrong)

/-- 'laws.FnExactRunChanges': WHATEVER THE INPUT: true; the input reads as it did. -/
def fnExactRunChangesSpec : ChangeSpec := { name := "fnExactRunChanges", fn := fun _ => fun
  | [d1, d2, d3] => { results := [.lit (.bool true)], args := [d1, d2, d3] }
  | _ => none }
def fnExactRunChangesRow : OpenClaim := { program := "ytehemjcpdblonaa", sum := "d196befe2e5a47f688dfac4762c486e87711abe891fa01329b6275204b6bfba6", func := "loop.example/g01357/laws.FnExactRunChanges", spec := "fnExactRunChanges", unfollowed := true, recurses := true, apart := false }
def FnExactRunChangesSaid : Prop := fnExactRunChangesRow.holds Try.pinned (OpenSpec.ofChange fnExactRunChangesSpec)

/-- ITS FALSE NEIGHBOUR: 'it returns false'. Refute it at one input. -/
def fnExactRunChangesWrong : ChangeSpec := { name := "fnExactRunChanges", fn := fun _ => fun
  | [d1, d2, d3] => { results := [.lit (.bool false)], args := [d1, d2, d3] }
  | _ => none }
def FnExactRunChangesWrongFalsely : Prop := fnExactRunChangesRow.holds Try.pinned (OpenSpec.ofChange fnExactRunChangesWrong)

/-- 'laws.FnExactWithFeatures': WHATEVER THE INPUT: true; the input reads as it did. -/
def fnExactWithFeaturesSpec : ChangeSpec := { name := "fnExactWithFeatures", fn := fun _ => fun
  | [d1, d2, d3] => { results := [.lit (.bool true)], args := [d1, d2, d3] }
  | _ => none }
def fnExactWithFeaturesRow : OpenClaim := { program := "ytehemjcpdblonaa", sum := "d196befe2e5a47f688dfac4762c486e87711abe891fa01329b6275204b6bfba6", func := "loop.example/g01357/laws.FnExactWithFeatures", spec := "fnExactWithFeatures", unfollowed := true, recurses := true, apart := false }
def FnExactWithFeaturesSaid : Prop := fnExactWithFeaturesRow.holds Try.pinned (OpenSpec.ofChange fnExactWithFeaturesSpec)

/-- ITS FALSE NEIGHBOUR: 'it returns false'. Refute it at one input. -/
def fnExactWithFeaturesWrong : ChangeSpec := { name := "fnExactWithFeatures", fn := fun _ => fun
  | [d1, d2, d3] => { results := [.lit (.bool false)], args := [d1, d2, d3] }
  | _ => none }
def FnExactWithFeaturesWrongFalsely : Prop := fnExactWithFeaturesRow.holds Try.pinned (OpenSpec.ofChange fnExactWithFeaturesWrong)

/-- 'laws.FnExactShiftFeatures': WHATEVER THE INPUT: true; the input reads as it did. -/
def fnExactShiftFeaturesSpec : ChangeSpec := { name := "fnExactShiftFeatures", fn := fun _ => fun
  | [d1, d2, d3, d4, d5] => { results := [.lit (.bool true)], args := [d1, d2, d3, d4, d5] }
  | _ => none }
def fnExactShiftFeaturesRow : OpenClaim := { program := "ytehemjcpdblonaa", sum := "d196befe2e5a47f688dfac4762c486e87711abe891fa01329b6275204b6bfba6", func := "loop.example/g01357/laws.FnExactShiftFeatures", spec := "fnExactShiftFeatures", unfollowed := true, recurses := true, apart := false }
def FnExactShiftFeaturesSaid : Prop := fnExactShiftFeaturesRow.holds Try.pinned (OpenSpec.ofChange fnExactShiftFeaturesSpec)

/-- ITS FALSE NEIGHBOUR: 'it returns false'. Refute it at one input. -/
def fnExactShiftFeaturesWrong : ChangeSpec := { name := "fnExactShiftFeatures", fn := fun _ => fun
  | [d1, d2, d3, d4, d5] => { results := [.lit (.bool false)], args := [d1, d2, d3, d4, d5] }
  | _ => none }
def FnExactShiftFeaturesWrongFalsely : Prop := fnExactShiftFeaturesRow.holds Try.pinned (OpenSpec.ofChange fnExactShiftFeaturesWrong)

/-- 'laws.FnExactOverlapsOf': WHATEVER THE INPUT: true; the input reads as it did. -/
def fnExactOverlapsOfSpec : ChangeSpec := { name := "fnExactOverlapsOf", fn := fun _ => fun
  | [d1, d2] => { results := [.lit (.bool true)], args := [d1, d2] }
  | _ => none }
def fnExactOverlapsOfRow : OpenClaim := { program := "ytehemjcpdblonaa", sum := "d196befe2e5a47f688dfac4762c486e87711abe891fa01329b6275204b6bfba6", func := "loop.example/g01357/laws.FnExactOverlapsOf", spec := "fnExactOverlapsOf", unfollowed := true, recurses := true, apart := false }
def FnExactOverlapsOfSaid : Prop := fnExactOverlapsOfRow.holds Try.pinned (OpenSpec.ofChange fnExactOverlapsOfSpec)

/-- ITS FALSE NEIGHBOUR: 'it returns false'. Refute it at one input. -/
def fnExactOverlapsOfWrong : ChangeSpec := { name := "fnExactOverlapsOf", fn := fun _ => fun
  | [d1, d2] => { results := [.lit (.bool false)], args := [d1, d2] }
  | _ => none }
def FnExactOverlapsOfWrongFalsely : Prop := fnExactOverlapsOfRow.holds Try.pinned (OpenSpec.ofChange fnExactOverlapsOfWrong)

/-- 'laws.FnExactNormalOf': WHATEVER THE INPUT: true; the input reads as it did. -/
def fnExactNormalOfSpec : ChangeSpec := { name := "fnExactNormalOf", fn := fun _ => fun
  | [d1, d2, d3, d4] => { results := [.lit (.bool true)], args := [d1, d2, d3, d4] }
  | _ => none }
def fnExactNormalOfRow : OpenClaim := { program := "ytehemjcpdblonaa", sum := "d196befe2e5a47f688dfac4762c486e87711abe891fa01329b6275204b6bfba6", func := "loop.example/g01357/laws.FnExactNormalOf", spec := "fnExactNormalOf", unfollowed := true, recurses := true, apart := false }
def FnExactNormalOfSaid : Prop := fnExactNormalOfRow.holds Try.pinned (OpenSpec.ofChange fnExactNormalOfSpec)

/-- ITS FALSE NEIGHBOUR: 'it returns false'. Refute it at one input. -/
def fnExactNormalOfWrong : ChangeSpec := { name := "fnExactNormalOf", fn := fun _ => fun
  | [d1, d2, d3, d4] => { results := [.lit (.bool false)], args := [d1, d2, d3, d4] }
  | _ => none }
def FnExactNormalOfWrongFalsely : Prop := fnExactNormalOfRow.holds Try.pinned (OpenSpec.ofChange fnExactNormalOfWrong)

/- THE SECOND FORM. 'bulk': how many values and letters a reading holds, each counted each time it is reached (what is shared counts as often as it is met; a slice's spare places count too). A statement '..UptoSaid' is the law's where the arguments, and the package variables that the reading takes, are together of bulk at most 1048576: NARROWER than '..Said'. Prove '..Said' where nothing that the law and all that it calls make is longer than what came in: it says more and counts as full. Else prove '..UptoSaid'. A law counts once. -/
mutual
def uptoBulk {H : Type} : DataW H → Nat
  | .lit (.string bytes) => bytes.length + 1
  | .lit _ => 1
  | .nil => 1
  | .ptr d => uptoBulk d + 1
  | .slice elems spare => uptoBulkAll elems + uptoBulkAll spare + 1
  | .agg parts => uptoBulkAll parts + 1
  | .iface _ d => uptoBulk d + 1
  | .map entries => uptoBulkEntries entries + 1
  | .held _ => 1
def uptoBulkAll {H : Type} : List (DataW H) → Nat
  | [] => 0
  | d :: r => uptoBulk d + uptoBulkAll r
def uptoBulkEntries {H : Type} : List (Lit × DataW H) → Nat
  | [] => 0
  | x :: r => uptoBulkEntry x + uptoBulkEntries r
def uptoBulkEntry {H : Type} : Lit × DataW H → Nat
  | (.string bytes, d) => bytes.length + uptoBulk d + 1
  | (_, d) => uptoBulk d + 1
 end
def uptoSmall : (H : Type) → List (DataW H) → Bool := fun _ ds => decide (uptoBulkAll ds ≤ 1048576)
def OpenSpec.upto (s : _root_.Go.ChangeSpec) : _root_.Go.OpenSpec := { _root_.Go.OpenSpec.ofChange s with cond := some uptoSmall }

/-- 'laws.FnExactIsLongWord', WHERE WHAT IT READS IS OF BULK AT MOST 1048576: true; the input reads as it did. -/
def fnExactIsLongWordUptoRow : OpenClaim := { program := "ytehemjcpdblonaa", sum := "d196befe2e5a47f688dfac4762c486e87711abe891fa01329b6275204b6bfba6", func := "loop.example/g01357/laws.FnExactIsLongWord", spec := "fnExactIsLongWord", unfollowed := true, recurses := true, apart := false, narrowed := true }
def FnExactIsLongWordUptoSaid : Prop := fnExactIsLongWordUptoRow.holds Try.pinned (OpenSpec.upto fnExactIsLongWordSpec)

/-- 'laws.FnExactValidChange', WHERE WHAT IT READS IS OF BULK AT MOST 1048576: true; the input reads as it did. -/
def fnExactValidChangeUptoRow : OpenClaim := { program := "ytehemjcpdblonaa", sum := "d196befe2e5a47f688dfac4762c486e87711abe891fa01329b6275204b6bfba6", func := "loop.example/g01357/laws.FnExactValidChange", spec := "fnExactValidChange", unfollowed := true, recurses := true, apart := false, narrowed := true }
def FnExactValidChangeUptoSaid : Prop := fnExactValidChangeUptoRow.holds Try.pinned (OpenSpec.upto fnExactValidChangeSpec)

/-- 'laws.FnExactSameChange', WHERE WHAT IT READS IS OF BULK AT MOST 1048576: true; the input reads as it did. -/
def fnExactSameChangeUptoRow : OpenClaim := { program := "ytehemjcpdblonaa", sum := "d196befe2e5a47f688dfac4762c486e87711abe891fa01329b6275204b6bfba6", func := "loop.example/g01357/laws.FnExactSameChange", spec := "fnExactSameChange", apart := false, narrowed := true }
def FnExactSameChangeUptoSaid : Prop := fnExactSameChangeUptoRow.holds Try.pinned (OpenSpec.upto fnExactSameChangeSpec)

/-- 'laws.FnExactPlacesOf', WHERE WHAT IT READS IS OF BULK AT MOST 1048576: true; the input reads as it did. -/
def fnExactPlacesOfUptoRow : OpenClaim := { program := "ytehemjcpdblonaa", sum := "d196befe2e5a47f688dfac4762c486e87711abe891fa01329b6275204b6bfba6", func := "loop.example/g01357/laws.FnExactPlacesOf", spec := "fnExactPlacesOf", unfollowed := true, recurses := true, apart := false, narrowed := true }
def FnExactPlacesOfUptoSaid : Prop := fnExactPlacesOfUptoRow.holds Try.pinned (OpenSpec.upto fnExactPlacesOfSpec)

/-- 'laws.FnExactChangeFirst', WHERE WHAT IT READS IS OF BULK AT MOST 1048576: true; the input reads as it did. -/
def fnExactChangeFirstUptoRow : OpenClaim := { program := "ytehemjcpdblonaa", sum := "d196befe2e5a47f688dfac4762c486e87711abe891fa01329b6275204b6bfba6", func := "loop.example/g01357/laws.FnExactChangeFirst", spec := "fnExactChangeFirst", unfollowed := true, recurses := true, apart := false, narrowed := true }
def FnExactChangeFirstUptoSaid : Prop := fnExactChangeFirstUptoRow.holds Try.pinned (OpenSpec.upto fnExactChangeFirstSpec)

/-- 'laws.FnExactChangeAll', WHERE WHAT IT READS IS OF BULK AT MOST 1048576: true; the input reads as it did. -/
def fnExactChangeAllUptoRow : OpenClaim := { program := "ytehemjcpdblonaa", sum := "d196befe2e5a47f688dfac4762c486e87711abe891fa01329b6275204b6bfba6", func := "loop.example/g01357/laws.FnExactChangeAll", spec := "fnExactChangeAll", unfollowed := true, recurses := true, apart := false, narrowed := true }
def FnExactChangeAllUptoSaid : Prop := fnExactChangeAllUptoRow.holds Try.pinned (OpenSpec.upto fnExactChangeAllSpec)

/-- 'laws.FnExactChangeEnd', WHERE WHAT IT READS IS OF BULK AT MOST 1048576: true; the input reads as it did. -/
def fnExactChangeEndUptoRow : OpenClaim := { program := "ytehemjcpdblonaa", sum := "d196befe2e5a47f688dfac4762c486e87711abe891fa01329b6275204b6bfba6", func := "loop.example/g01357/laws.FnExactChangeEnd", spec := "fnExactChangeEnd", unfollowed := true, recurses := true, apart := false, narrowed := true }
def FnExactChangeEndUptoSaid : Prop := fnExactChangeEndUptoRow.holds Try.pinned (OpenSpec.upto fnExactChangeEndSpec)

/-- 'laws.FnExactRunChanges', WHERE WHAT IT READS IS OF BULK AT MOST 1048576: true; the input reads as it did. -/
def fnExactRunChangesUptoRow : OpenClaim := { program := "ytehemjcpdblonaa", sum := "d196befe2e5a47f688dfac4762c486e87711abe891fa01329b6275204b6bfba6", func := "loop.example/g01357/laws.FnExactRunChanges", spec := "fnExactRunChanges", unfollowed := true, recurses := true, apart := false, narrowed := true }
def FnExactRunChangesUptoSaid : Prop := fnExactRunChangesUptoRow.holds Try.pinned (OpenSpec.upto fnExactRunChangesSpec)

/-- 'laws.FnExactWithFeatures', WHERE WHAT IT READS IS OF BULK AT MOST 1048576: true; the input reads as it did. -/
def fnExactWithFeaturesUptoRow : OpenClaim := { program := "ytehemjcpdblonaa", sum := "d196befe2e5a47f688dfac4762c486e87711abe891fa01329b6275204b6bfba6", func := "loop.example/g01357/laws.FnExactWithFeatures", spec := "fnExactWithFeatures", unfollowed := true, recurses := true, apart := false, narrowed := true }
def FnExactWithFeaturesUptoSaid : Prop := fnExactWithFeaturesUptoRow.holds Try.pinned (OpenSpec.upto fnExactWithFeaturesSpec)

/-- 'laws.FnExactShiftFeatures', WHERE WHAT IT READS IS OF BULK AT MOST 1048576: true; the input reads as it did. -/
def fnExactShiftFeaturesUptoRow : OpenClaim := { program := "ytehemjcpdblonaa", sum := "d196befe2e5a47f688dfac4762c486e87711abe891fa01329b6275204b6bfba6", func := "loop.example/g01357/laws.FnExactShiftFeatures", spec := "fnExactShiftFeatures", unfollowed := true, recurses := true, apart := false, narrowed := true }
def FnExactShiftFeaturesUptoSaid : Prop := fnExactShiftFeaturesUptoRow.holds Try.pinned (OpenSpec.upto fnExactShiftFeaturesSpec)

/-- 'laws.FnExactOverlapsOf', WHERE WHAT IT READS IS OF BULK AT MOST 1048576: true; the input reads as it did. -/
def fnExactOverlapsOfUptoRow : OpenClaim := { program := "ytehemjcpdblonaa", sum := "d196befe2e5a47f688dfac4762c486e87711abe891fa01329b6275204b6bfba6", func := "loop.example/g01357/laws.FnExactOverlapsOf", spec := "fnExactOverlapsOf", unfollowed := true, recurses := true, apart := false, narrowed := true }
def FnExactOverlapsOfUptoSaid : Prop := fnExactOverlapsOfUptoRow.holds Try.pinned (OpenSpec.upto fnExactOverlapsOfSpec)

/-- 'laws.FnExactNormalOf', WHERE WHAT IT READS IS OF BULK AT MOST 1048576: true; the input reads as it did. -/
def fnExactNormalOfUptoRow : OpenClaim := { program := "ytehemjcpdblonaa", sum := "d196befe2e5a47f688dfac4762c486e87711abe891fa01329b6275204b6bfba6", func := "loop.example/g01357/laws.FnExactNormalOf", spec := "fnExactNormalOf", unfollowed := true, recurses := true, apart := false, narrowed := true }
def FnExactNormalOfUptoSaid : Prop := fnExactNormalOfUptoRow.holds Try.pinned (OpenSpec.upto fnExactNormalOfSpec)

end Rows
end Go.Proofs.Ytehemjcpdblonaa
