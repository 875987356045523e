/-
  No cell of these rows narrows 'for every input' (looked for: loops, veiled, ifaces, maps, wideKeys, modest, calm, conditions, laid).
  DERIVED. THE GIVEN ROWS OF THIS SEAT. 12 by the template 'for every input the law returns true; each argument reads behind the call as it read before'; 0 by the template 'total and deterministic' (their statements: YtgbiablibfbilaaTotals.lean).
  GIVEN WITH THE SEED: the statements are not yours to turn. If you find one false, say at which input.
  Laid BY PROGRAM, IN A SANDBOX (cutbox-rows.mjs): the forced cells as the released guide's own fill.sh prints them over the translation 742653343c8b977f… (all of the seat's roots in one cut). By AI agents, Wed Nov 11 2026. No macro, syntax, notation, axiom, sorry.
-/
import Derived.Test.YtgbiablibfbilaaChecked
import GoSem.Claim
import GoSem.ClaimJoined
import GoSem.ClaimMapViews
import Derived.JoinedTies
import Derived.KernelRfl
namespace Go.Proofs.Ytgbiablibfbilaa
/- THE CELL 'sum', in the pinned program and in every row, IS THE sha256 OF THE DUMP (.gsa) THAT YtgbiablibfbilaaProg.lean LOADS. Nothing in Lean hashes anything: it is a label: what it is worth is what the hold of that sum in a sandbox is worth. -/
noncomputable def Try.pinned : Pinned := { name := "ytgbiablibfbilaa", sum := "742653343c8b977f173d1ab5ed2c5c17128301233b3b7ea4c2645e88442bf3b2", checked := Try.checked }
namespace Rows
def none {H : Type} : Left H := { results := [], args := [] }

/-- 'laws.FnExactValidTrees': WHATEVER THE INPUT: true; the input reads as it did. -/
def fnExactValidTreesSpec : ChangeSpec := { name := "fnExactValidTrees", fn := fun _ => fun
  | [d] => { results := [.lit (.bool true)], args := [d] }
  | _ => none }
def fnExactValidTreesRow : OpenClaim := { program := "ytgbiablibfbilaa", sum := "742653343c8b977f173d1ab5ed2c5c17128301233b3b7ea4c2645e88442bf3b2", func := "loop.example/g01357/laws.FnExactValidTrees", spec := "fnExactValidTrees", unfollowed := true, recurses := true, apart := false }
def FnExactValidTreesSaid : Prop := fnExactValidTreesRow.holds Try.pinned (OpenSpec.ofChange fnExactValidTreesSpec)

/-- ITS FALSE NEIGHBOUR: 'it returns false'. Refute it at one input. -/
def fnExactValidTreesWrong : ChangeSpec := { name := "fnExactValidTrees", fn := fun _ => fun
  | [d] => { results := [.lit (.bool false)], args := [d] }
  | _ => none }
def FnExactValidTreesWrongFalsely : Prop := fnExactValidTreesRow.holds Try.pinned (OpenSpec.ofChange fnExactValidTreesWrong)

/-- 'laws.FnExactSameTrees': WHATEVER THE INPUT: true; the input reads as it did. -/
def fnExactSameTreesSpec : ChangeSpec := { name := "fnExactSameTrees", fn := fun _ => fun
  | [d1, d2] => { results := [.lit (.bool true)], args := [d1, d2] }
  | _ => none }
def fnExactSameTreesRow : OpenClaim := { program := "ytgbiablibfbilaa", sum := "742653343c8b977f173d1ab5ed2c5c17128301233b3b7ea4c2645e88442bf3b2", func := "loop.example/g01357/laws.FnExactSameTrees", spec := "fnExactSameTrees", apart := false }
def FnExactSameTreesSaid : Prop := fnExactSameTreesRow.holds Try.pinned (OpenSpec.ofChange fnExactSameTreesSpec)

/-- ITS FALSE NEIGHBOUR: 'it returns false'. Refute it at one input. -/
def fnExactSameTreesWrong : ChangeSpec := { name := "fnExactSameTrees", fn := fun _ => fun
  | [d1, d2] => { results := [.lit (.bool false)], args := [d1, d2] }
  | _ => none }
def FnExactSameTreesWrongFalsely : Prop := fnExactSameTreesRow.holds Try.pinned (OpenSpec.ofChange fnExactSameTreesWrong)

/-- 'laws.FnExactOtherTrees': WHATEVER THE INPUT: true; the input reads as it did. -/
def fnExactOtherTreesSpec : ChangeSpec := { name := "fnExactOtherTrees", fn := fun _ => fun
  | [d] => { results := [.lit (.bool true)], args := [d] }
  | _ => none }
def fnExactOtherTreesRow : OpenClaim := { program := "ytgbiablibfbilaa", sum := "742653343c8b977f173d1ab5ed2c5c17128301233b3b7ea4c2645e88442bf3b2", func := "loop.example/g01357/laws.FnExactOtherTrees", spec := "fnExactOtherTrees", unfollowed := true, recurses := true, apart := false }
def FnExactOtherTreesSaid : Prop := fnExactOtherTreesRow.holds Try.pinned (OpenSpec.ofChange fnExactOtherTreesSpec)

/-- ITS FALSE NEIGHBOUR: 'it returns false'. Refute it at one input. -/
def fnExactOtherTreesWrong : ChangeSpec := { name := "fnExactOtherTrees", fn := fun _ => fun
  | [d] => { results := [.lit (.bool false)], args := [d] }
  | _ => none }
def FnExactOtherTreesWrongFalsely : Prop := fnExactOtherTreesRow.holds Try.pinned (OpenSpec.ofChange fnExactOtherTreesWrong)

/-- 'laws.FnExactMeetTrees': WHATEVER THE INPUT: true; the input reads as it did. -/
def fnExactMeetTreesSpec : ChangeSpec := { name := "fnExactMeetTrees", fn := fun _ => fun
  | [d1, d2] => { results := [.lit (.bool true)], args := [d1, d2] }
  | _ => none }
def fnExactMeetTreesRow : OpenClaim := { program := "ytgbiablibfbilaa", sum := "742653343c8b977f173d1ab5ed2c5c17128301233b3b7ea4c2645e88442bf3b2", func := "loop.example/g01357/laws.FnExactMeetTrees", spec := "fnExactMeetTrees", unfollowed := true, recurses := true, apart := false }
def FnExactMeetTreesSaid : Prop := fnExactMeetTreesRow.holds Try.pinned (OpenSpec.ofChange fnExactMeetTreesSpec)

/-- ITS FALSE NEIGHBOUR: 'it returns false'. Refute it at one input. -/
def fnExactMeetTreesWrong : ChangeSpec := { name := "fnExactMeetTrees", fn := fun _ => fun
  | [d1, d2] => { results := [.lit (.bool false)], args := [d1, d2] }
  | _ => none }
def FnExactMeetTreesWrongFalsely : Prop := fnExactMeetTreesRow.holds Try.pinned (OpenSpec.ofChange fnExactMeetTreesWrong)

/-- 'laws.FnExactIsTree': WHATEVER THE INPUT: true; the input reads as it did. -/
def fnExactIsTreeSpec : ChangeSpec := { name := "fnExactIsTree", fn := fun _ => fun
  | [d1, d2] => { results := [.lit (.bool true)], args := [d1, d2] }
  | _ => none }
def fnExactIsTreeRow : OpenClaim := { program := "ytgbiablibfbilaa", sum := "742653343c8b977f173d1ab5ed2c5c17128301233b3b7ea4c2645e88442bf3b2", func := "loop.example/g01357/laws.FnExactIsTree", spec := "fnExactIsTree", unfollowed := true, recurses := true, apart := false }
def FnExactIsTreeSaid : Prop := fnExactIsTreeRow.holds Try.pinned (OpenSpec.ofChange fnExactIsTreeSpec)

/-- ITS FALSE NEIGHBOUR: 'it returns false'. Refute it at one input. -/
def fnExactIsTreeWrong : ChangeSpec := { name := "fnExactIsTree", fn := fun _ => fun
  | [d1, d2] => { results := [.lit (.bool false)], args := [d1, d2] }
  | _ => none }
def FnExactIsTreeWrongFalsely : Prop := fnExactIsTreeRow.holds Try.pinned (OpenSpec.ofChange fnExactIsTreeWrong)

/-- 'laws.FnExactLeavesOfTree': WHATEVER THE INPUT: true; the input reads as it did. -/
def fnExactLeavesOfTreeSpec : ChangeSpec := { name := "fnExactLeavesOfTree", fn := fun _ => fun
  | [d] => { results := [.lit (.bool true)], args := [d] }
  | _ => none }
def fnExactLeavesOfTreeRow : OpenClaim := { program := "ytgbiablibfbilaa", sum := "742653343c8b977f173d1ab5ed2c5c17128301233b3b7ea4c2645e88442bf3b2", func := "loop.example/g01357/laws.FnExactLeavesOfTree", spec := "fnExactLeavesOfTree", unfollowed := true, recurses := true, apart := false }
def FnExactLeavesOfTreeSaid : Prop := fnExactLeavesOfTreeRow.holds Try.pinned (OpenSpec.ofChange fnExactLeavesOfTreeSpec)

/-- ITS FALSE NEIGHBOUR: 'it returns false'. Refute it at one input. -/
def fnExactLeavesOfTreeWrong : ChangeSpec := { name := "fnExactLeavesOfTree", fn := fun _ => fun
  | [d] => { results := [.lit (.bool false)], args := [d] }
  | _ => none }
def FnExactLeavesOfTreeWrongFalsely : Prop := fnExactLeavesOfTreeRow.holds Try.pinned (OpenSpec.ofChange fnExactLeavesOfTreeWrong)

/-- 'laws.FnExactDeepOfTree': WHATEVER THE INPUT: true; the input reads as it did. -/
def fnExactDeepOfTreeSpec : ChangeSpec := { name := "fnExactDeepOfTree", fn := fun _ => fun
  | [d] => { results := [.lit (.bool true)], args := [d] }
  | _ => none }
def fnExactDeepOfTreeRow : OpenClaim := { program := "ytgbiablibfbilaa", sum := "742653343c8b977f173d1ab5ed2c5c17128301233b3b7ea4c2645e88442bf3b2", func := "loop.example/g01357/laws.FnExactDeepOfTree", spec := "fnExactDeepOfTree", unfollowed := true, recurses := true, apart := false }
def FnExactDeepOfTreeSaid : Prop := fnExactDeepOfTreeRow.holds Try.pinned (OpenSpec.ofChange fnExactDeepOfTreeSpec)

/-- ITS FALSE NEIGHBOUR: 'it returns false'. Refute it at one input. -/
def fnExactDeepOfTreeWrong : ChangeSpec := { name := "fnExactDeepOfTree", fn := fun _ => fun
  | [d] => { results := [.lit (.bool false)], args := [d] }
  | _ => none }
def FnExactDeepOfTreeWrongFalsely : Prop := fnExactDeepOfTreeRow.holds Try.pinned (OpenSpec.ofChange fnExactDeepOfTreeWrong)

/-- 'laws.FnExactMirrorTree': WHATEVER THE INPUT: true; the input reads as it did. -/
def fnExactMirrorTreeSpec : ChangeSpec := { name := "fnExactMirrorTree", fn := fun _ => fun
  | [d] => { results := [.lit (.bool true)], args := [d] }
  | _ => none }
def fnExactMirrorTreeRow : OpenClaim := { program := "ytgbiablibfbilaa", sum := "742653343c8b977f173d1ab5ed2c5c17128301233b3b7ea4c2645e88442bf3b2", func := "loop.example/g01357/laws.FnExactMirrorTree", spec := "fnExactMirrorTree", unfollowed := true, recurses := true, apart := false }
def FnExactMirrorTreeSaid : Prop := fnExactMirrorTreeRow.holds Try.pinned (OpenSpec.ofChange fnExactMirrorTreeSpec)

/-- ITS FALSE NEIGHBOUR: 'it returns false'. Refute it at one input. -/
def fnExactMirrorTreeWrong : ChangeSpec := { name := "fnExactMirrorTree", fn := fun _ => fun
  | [d] => { results := [.lit (.bool false)], args := [d] }
  | _ => none }
def FnExactMirrorTreeWrongFalsely : Prop := fnExactMirrorTreeRow.holds Try.pinned (OpenSpec.ofChange fnExactMirrorTreeWrong)

/-- 'laws.FnExactStateOfTree': WHATEVER THE INPUT: true; the input reads as it did. -/
def fnExactStateOfTreeSpec : ChangeSpec := { name := "fnExactStateOfTree", fn := fun _ => fun
  | [d1, d2] => { results := [.lit (.bool true)], args := [d1, d2] }
  | _ => none }
def fnExactStateOfTreeRow : OpenClaim := { program := "ytgbiablibfbilaa", sum := "742653343c8b977f173d1ab5ed2c5c17128301233b3b7ea4c2645e88442bf3b2", func := "loop.example/g01357/laws.FnExactStateOfTree", spec := "fnExactStateOfTree", unfollowed := true, recurses := true, apart := false }
def FnExactStateOfTreeSaid : Prop := fnExactStateOfTreeRow.holds Try.pinned (OpenSpec.ofChange fnExactStateOfTreeSpec)

/-- ITS FALSE NEIGHBOUR: 'it returns false'. Refute it at one input. -/
def fnExactStateOfTreeWrong : ChangeSpec := { name := "fnExactStateOfTree", fn := fun _ => fun
  | [d1, d2] => { results := [.lit (.bool false)], args := [d1, d2] }
  | _ => none }
def FnExactStateOfTreeWrongFalsely : Prop := fnExactStateOfTreeRow.holds Try.pinned (OpenSpec.ofChange fnExactStateOfTreeWrong)

/-- 'laws.FnExactReadsTree': WHATEVER THE INPUT: true; the input reads as it did. -/
def fnExactReadsTreeSpec : ChangeSpec := { name := "fnExactReadsTree", fn := fun _ => fun
  | [d1, d2] => { results := [.lit (.bool true)], args := [d1, d2] }
  | _ => none }
def fnExactReadsTreeRow : OpenClaim := { program := "ytgbiablibfbilaa", sum := "742653343c8b977f173d1ab5ed2c5c17128301233b3b7ea4c2645e88442bf3b2", func := "loop.example/g01357/laws.FnExactReadsTree", spec := "fnExactReadsTree", unfollowed := true, recurses := true, apart := false }
def FnExactReadsTreeSaid : Prop := fnExactReadsTreeRow.holds Try.pinned (OpenSpec.ofChange fnExactReadsTreeSpec)

/-- ITS FALSE NEIGHBOUR: 'it returns false'. Refute it at one input. -/
def fnExactReadsTreeWrong : ChangeSpec := { name := "fnExactReadsTree", fn := fun _ => fun
  | [d1, d2] => { results := [.lit (.bool false)], args := [d1, d2] }
  | _ => none }
def FnExactReadsTreeWrongFalsely : Prop := fnExactReadsTreeRow.holds Try.pinned (OpenSpec.ofChange fnExactReadsTreeWrong)

/-- 'laws.FnExactFirstTree': WHATEVER THE INPUT: true; the input reads as it did. -/
def fnExactFirstTreeSpec : ChangeSpec := { name := "fnExactFirstTree", fn := fun _ => fun
  | [d] => { results := [.lit (.bool true)], args := [d] }
  | _ => none }
def fnExactFirstTreeRow : OpenClaim := { program := "ytgbiablibfbilaa", sum := "742653343c8b977f173d1ab5ed2c5c17128301233b3b7ea4c2645e88442bf3b2", func := "loop.example/g01357/laws.FnExactFirstTree", spec := "fnExactFirstTree", unfollowed := true, recurses := true, apart := false }
def FnExactFirstTreeSaid : Prop := fnExactFirstTreeRow.holds Try.pinned (OpenSpec.ofChange fnExactFirstTreeSpec)

/-- ITS FALSE NEIGHBOUR: 'it returns false'. Refute it at one input. -/
def fnExactFirstTreeWrong : ChangeSpec := { name := "fnExactFirstTree", fn := fun _ => fun
  | [d] => { results := [.lit (.bool false)], args := [d] }
  | _ => none }
def FnExactFirstTreeWrongFalsely : Prop := fnExactFirstTreeRow.holds Try.pinned (OpenSpec.ofChange fnExactFirstTreeWrong)

/-- 'laws.FnExactCountTreesRead': WHATEVER THE INPUT: true; the input reads as it did. -/
def fnExactCountTreesReadSpec : ChangeSpec := { name := "fnExactCountTreesRead", fn := fun _ => fun
  | [d1, d2] => { results := [.lit (.bool true)], args := [d1, d2] }
  | _ => none }
def fnExactCountTreesReadRow : OpenClaim := { program := "ytgbiablibfbilaa", sum := "742653343c8b977f173d1ab5ed2c5c17128301233b3b7ea4c2645e88442bf3b2", func := "loop.example/g01357/laws.FnExactCountTreesRead", spec := "fnExactCountTreesRead", unfollowed := true, recurses := true, apart := false }
def FnExactCountTreesReadSaid : Prop := fnExactCountTreesReadRow.holds Try.pinned (OpenSpec.ofChange fnExactCountTreesReadSpec)

/-- ITS FALSE NEIGHBOUR: 'it returns false'. Refute it at one input. -/
def fnExactCountTreesReadWrong : ChangeSpec := { name := "fnExactCountTreesRead", fn := fun _ => fun
  | [d1, d2] => { results := [.lit (.bool false)], args := [d1, d2] }
  | _ => none }
def FnExactCountTreesReadWrongFalsely : Prop := fnExactCountTreesReadRow.holds Try.pinned (OpenSpec.ofChange fnExactCountTreesReadWrong)

/- THE SECOND FORM. 'bulk': how many values and letters a reading holds, each counted each time it is reached (what is shared counts as often as it is met; a slice's spare places count too). A statement '..UptoSaid' is the law's where the arguments, and the package variables that the reading takes, are together of bulk at most 1048576: NARROWER than '..Said'. Prove '..Said' where nothing that the law and all that it calls make is longer than what came in: it says more and counts as full. Else prove '..UptoSaid'. A law counts once. -/
mutual
def uptoBulk {H : Type} : DataW H → Nat
  | .lit (.string bytes) => bytes.length + 1
  | .lit _ => 1
  | .nil => 1
  | .ptr d => uptoBulk d + 1
  | .slice elems spare => uptoBulkAll elems + uptoBulkAll spare + 1
  | .agg parts => uptoBulkAll parts + 1
  | .iface _ d => uptoBulk d + 1
  | .map entries => uptoBulkEntries entries + 1
  | .held _ => 1
def uptoBulkAll {H : Type} : List (DataW H) → Nat
  | [] => 0
  | d :: r => uptoBulk d + uptoBulkAll r
def uptoBulkEntries {H : Type} : List (Lit × DataW H) → Nat
  | [] => 0
  | x :: r => uptoBulkEntry x + uptoBulkEntries r
def uptoBulkEntry {H : Type} : Lit × DataW H → Nat
  | (.string bytes, d) => bytes.length + uptoBulk d + 1
  | (_, d) => uptoBulk d + 1
 end
def uptoSmall : (H : Type) → List (DataW H) → Bool := fun _ ds => decide (uptoBulkAll ds ≤ 1048576)
def OpenSpec.upto (s : _root_.Go.ChangeSpec) : _root_.Go.OpenSpec := { _root_.Go.OpenSpec.ofChange s with cond := some uptoSmall }

/-- 'laws.FnExactValidTrees', WHERE WHAT IT READS IS OF BULK AT MOST 1048576: true; the input reads as it did. -/
def fnExactValidTreesUptoRow : OpenClaim := { program := "ytgbiablibfbilaa", sum := "742653343c8b977f173d1ab5ed2c5c17128301233b3b7ea4c2645e88442bf3b2", func := "loop.example/g01357/laws.FnExactValidTrees", spec := "fnExactValidTrees", unfollowed := true, recurses := true, apart := false, narrowed := true }
def FnExactValidTreesUptoSaid : Prop := fnExactValidTreesUptoRow.holds Try.pinned (OpenSpec.upto fnExactValidTreesSpec)

/-- 'laws.FnExactSameTrees', WHERE WHAT IT READS IS OF BULK AT MOST 1048576: true; the input reads as it did. -/
def fnExactSameTreesUptoRow : OpenClaim := { program := "ytgbiablibfbilaa", sum := "742653343c8b977f173d1ab5ed2c5c17128301233b3b7ea4c2645e88442bf3b2", func := "loop.example/g01357/laws.FnExactSameTrees", spec := "fnExactSameTrees", apart := false, narrowed := true }
def FnExactSameTreesUptoSaid : Prop := fnExactSameTreesUptoRow.holds Try.pinned (OpenSpec.upto fnExactSameTreesSpec)

/-- 'laws.FnExactOtherTrees', WHERE WHAT IT READS IS OF BULK AT MOST 1048576: true; the input reads as it did. -/
def fnExactOtherTreesUptoRow : OpenClaim := { program := "ytgbiablibfbilaa", sum := "742653343c8b977f173d1ab5ed2c5c17128301233b3b7ea4c2645e88442bf3b2", func := "loop.example/g01357/laws.FnExactOtherTrees", spec := "fnExactOtherTrees", unfollowed := true, recurses := true, apart := false, narrowed := true }
def FnExactOtherTreesUptoSaid : Prop := fnExactOtherTreesUptoRow.holds Try.pinned (OpenSpec.upto fnExactOtherTreesSpec)

/-- 'laws.FnExactMeetTrees', WHERE WHAT IT READS IS OF BULK AT MOST 1048576: true; the input reads as it did. -/
def fnExactMeetTreesUptoRow : OpenClaim := { program := "ytgbiablibfbilaa", sum := "742653343c8b977f173d1ab5ed2c5c17128301233b3b7ea4c2645e88442bf3b2", func := "loop.example/g01357/laws.FnExactMeetTrees", spec := "fnExactMeetTrees", unfollowed := true, recurses := true, apart := false, narrowed := true }
def FnExactMeetTreesUptoSaid : Prop := fnExactMeetTreesUptoRow.holds Try.pinned (OpenSpec.upto fnExactMeetTreesSpec)

/-- 'laws.FnExactIsTree', WHERE WHAT IT READS IS OF BULK AT MOST 1048576: true; the input reads as it did. -/
def fnExactIsTreeUptoRow : OpenClaim := { program := "ytgbiablibfbilaa", sum := "742653343c8b977f173d1ab5ed2c5c17128301233b3b7ea4c2645e88442bf3b2", func := "loop.example/g01357/laws.FnExactIsTree", spec := "fnExactIsTree", unfollowed := true, recurses := true, apart := false, narrowed := true }
def FnExactIsTreeUptoSaid : Prop := fnExactIsTreeUptoRow.holds Try.pinned (OpenSpec.upto fnExactIsTreeSpec)

/-- 'laws.FnExactLeavesOfTree', WHERE WHAT IT READS IS OF BULK AT MOST 1048576: true; the input reads as it did. -/
def fnExactLeavesOfTreeUptoRow : OpenClaim := { program := "ytgbiablibfbilaa", sum := "742653343c8b977f173d1ab5ed2c5c17128301233b3b7ea4c2645e88442bf3b2", func := "loop.example/g01357/laws.FnExactLeavesOfTree", spec := "fnExactLeavesOfTree", unfollowed := true, recurses := true, apart := false, narrowed := true }
def FnExactLeavesOfTreeUptoSaid : Prop := fnExactLeavesOfTreeUptoRow.holds Try.pinned (OpenSpec.upto fnExactLeavesOfTreeSpec)

/-- 'laws.FnExactDeepOfTree', WHERE WHAT IT READS IS OF BULK AT MOST 1048576: true; the input reads as it did. -/
def fnExactDeepOfTreeUptoRow : OpenClaim := { program := "ytgbiablibfbilaa", sum := "742653343c8b977f173d1ab5ed2c5c17128301233b3b7ea4c2645e88442bf3b2", func := "loop.example/g01357/laws.FnExactDeepOfTree", spec := "fnExactDeepOfTree", unfollowed := true, recurses := true, apart := false, narrowed := true }
def FnExactDeepOfTreeUptoSaid : Prop := fnExactDeepOfTreeUptoRow.holds Try.pinned (OpenSpec.upto fnExactDeepOfTreeSpec)

/-- 'laws.FnExactMirrorTree', WHERE WHAT IT READS IS OF BULK AT MOST 1048576: true; the input reads as it did. -/
def fnExactMirrorTreeUptoRow : OpenClaim := { program := "ytgbiablibfbilaa", sum := "742653343c8b977f173d1ab5ed2c5c17128301233b3b7ea4c2645e88442bf3b2", func := "loop.example/g01357/laws.FnExactMirrorTree", spec := "fnExactMirrorTree", unfollowed := true, recurses := true, apart := false, narrowed := true }
def FnExactMirrorTreeUptoSaid : Prop := fnExactMirrorTreeUptoRow.holds Try.pinned (OpenSpec.upto fnExactMirrorTreeSpec)

/-- 'laws.FnExactStateOfTree', WHERE WHAT IT READS IS OF BULK AT MOST 1048576: true; the input reads as it did. -/
def fnExactStateOfTreeUptoRow : OpenClaim := { program := "ytgbiablibfbilaa", sum := "742653343c8b977f173d1ab5ed2c5c17128301233b3b7ea4c2645e88442bf3b2", func := "loop.example/g01357/laws.FnExactStateOfTree", spec := "fnExactStateOfTree", unfollowed := true, recurses := true, apart := false, narrowed := true }
def FnExactStateOfTreeUptoSaid : Prop := fnExactStateOfTreeUptoRow.holds Try.pinned (OpenSpec.upto fnExactStateOfTreeSpec)

/-- 'laws.FnExactReadsTree', WHERE WHAT IT READS IS OF BULK AT MOST 1048576: true; the input reads as it did. -/
def fnExactReadsTreeUptoRow : OpenClaim := { program := "ytgbiablibfbilaa", sum := "742653343c8b977f173d1ab5ed2c5c17128301233b3b7ea4c2645e88442bf3b2", func := "loop.example/g01357/laws.FnExactReadsTree", spec := "fnExactReadsTree", unfollowed := true, recurses := true, apart := false, narrowed := true }
def FnExactReadsTreeUptoSaid : Prop := fnExactReadsTreeUptoRow.holds Try.pinned (OpenSpec.upto fnExactReadsTreeSpec)

/-- 'laws.FnExactFirstTree', WHERE WHAT IT READS IS OF BULK AT MOST 1048576: true; the input reads as it did. -/
def fnExactFirstTreeUptoRow : OpenClaim := { program := "ytgbiablibfbilaa", sum := "742653343c8b977f173d1ab5ed2c5c17128301233b3b7ea4c2645e88442bf3b2", func := "loop.example/g01357/laws.FnExactFirstTree", spec := "fnExactFirstTree", unfollowed := true, recurses := true, apart := false, narrowed := true }
def FnExactFirstTreeUptoSaid : Prop := fnExactFirstTreeUptoRow.holds Try.pinned (OpenSpec.upto fnExactFirstTreeSpec)

/-- 'laws.FnExactCountTreesRead', WHERE WHAT IT READS IS OF BULK AT MOST 1048576: true; the input reads as it did. -/
def fnExactCountTreesReadUptoRow : OpenClaim := { program := "ytgbiablibfbilaa", sum := "742653343c8b977f173d1ab5ed2c5c17128301233b3b7ea4c2645e88442bf3b2", func := "loop.example/g01357/laws.FnExactCountTreesRead", spec := "fnExactCountTreesRead", unfollowed := true, recurses := true, apart := false, narrowed := true }
def FnExactCountTreesReadUptoSaid : Prop := fnExactCountTreesReadUptoRow.holds Try.pinned (OpenSpec.upto fnExactCountTreesReadSpec)

end Rows
end Go.Proofs.Ytgbiablibfbilaa
