/-
  No cell of these rows narrows 'for every input' (looked for: loops, veiled, ifaces, maps, wideKeys, modest, calm, conditions, laid).
  DERIVED. THE GIVEN ROWS OF THIS SEAT. 12 by the template 'for every input the law returns true; each argument reads behind the call as it read before'; 0 by the template 'total and deterministic' (their statements: YtikgnpajjbjkcaaTotals.lean).
  GIVEN WITH THE SEED: the statements are not yours to turn. If you find one false, say at which input.
  Laid BY PROGRAM, IN A SANDBOX (cutbox-rows.mjs): the forced cells as the released guide's own fill.sh prints them over the translation 85ab50325d15c7d7… (all of the seat's roots in one cut). By AI agents, Wed Nov 11 2026. No macro, syntax, notation, axiom, sorry.
-/
import Derived.Test.YtikgnpajjbjkcaaChecked
import GoSem.Claim
import GoSem.ClaimJoined
import GoSem.ClaimMapViews
import Derived.JoinedTies
import Derived.KernelRfl
namespace Go.Proofs.Ytikgnpajjbjkcaa
/- THE CELL 'sum', in the pinned program and in every row, IS THE sha256 OF THE DUMP (.gsa) THAT YtikgnpajjbjkcaaProg.lean LOADS. Nothing in Lean hashes anything: it is a label: what it is worth is what the hold of that sum in a sandbox is worth. -/
noncomputable def Try.pinned : Pinned := { name := "ytikgnpajjbjkcaa", sum := "85ab50325d15c7d7bb6ea77dfcfe80a82726223db6a89b50566661c60dc8e1c1", checked := Try.checked }
namespace Rows
def none {H : Type} : Left H := { results := [], args := [] }

/-- 'laws.FnExactValidModel': WHATEVER THE INPUT: true; the input reads as it did. -/
def fnExactValidModelSpec : ChangeSpec := { name := "fnExactValidModel", fn := fun _ => fun
  | [d] => { results := [.lit (.bool true)], args := [d] }
  | _ => none }
def fnExactValidModelRow : OpenClaim := { program := "ytikgnpajjbjkcaa", sum := "85ab50325d15c7d7bb6ea77dfcfe80a82726223db6a89b50566661c60dc8e1c1", func := "loop.example/g01357/laws.FnExactValidModel", spec := "fnExactValidModel", inPlace := ["math.Float64bits", "math.Float64frombits"], unfollowed := true, recurses := true, apart := false }
def FnExactValidModelSaid : Prop := fnExactValidModelRow.holds Try.pinned (OpenSpec.ofChange fnExactValidModelSpec)

/-- ITS FALSE NEIGHBOUR: 'it returns false'. Refute it at one input. -/
def fnExactValidModelWrong : ChangeSpec := { name := "fnExactValidModel", fn := fun _ => fun
  | [d] => { results := [.lit (.bool false)], args := [d] }
  | _ => none }
def FnExactValidModelWrongFalsely : Prop := fnExactValidModelRow.holds Try.pinned (OpenSpec.ofChange fnExactValidModelWrong)

/-- 'laws.FnExactSameModel': WHATEVER THE INPUT: true; the input reads as it did. -/
def fnExactSameModelSpec : ChangeSpec := { name := "fnExactSameModel", fn := fun _ => fun
  | [d1, d2] => { results := [.lit (.bool true)], args := [d1, d2] }
  | _ => none }
def fnExactSameModelRow : OpenClaim := { program := "ytikgnpajjbjkcaa", sum := "85ab50325d15c7d7bb6ea77dfcfe80a82726223db6a89b50566661c60dc8e1c1", func := "loop.example/g01357/laws.FnExactSameModel", spec := "fnExactSameModel", inPlace := ["math.Float32bits"], unfollowed := true, recurses := true, apart := false }
def FnExactSameModelSaid : Prop := fnExactSameModelRow.holds Try.pinned (OpenSpec.ofChange fnExactSameModelSpec)

/-- ITS FALSE NEIGHBOUR: 'it returns false'. Refute it at one input. -/
def fnExactSameModelWrong : ChangeSpec := { name := "fnExactSameModel", fn := fun _ => fun
  | [d1, d2] => { results := [.lit (.bool false)], args := [d1, d2] }
  | _ => none }
def FnExactSameModelWrongFalsely : Prop := fnExactSameModelRow.holds Try.pinned (OpenSpec.ofChange fnExactSameModelWrong)

/-- 'laws.FnExactEvenModel': WHATEVER THE INPUT: true; the input reads as it did. -/
def fnExactEvenModelSpec : ChangeSpec := { name := "fnExactEvenModel", fn := fun _ => fun
  | [d1, d2] => { results := [.lit (.bool true)], args := [d1, d2] }
  | _ => none }
def fnExactEvenModelRow : OpenClaim := { program := "ytikgnpajjbjkcaa", sum := "85ab50325d15c7d7bb6ea77dfcfe80a82726223db6a89b50566661c60dc8e1c1", func := "loop.example/g01357/laws.FnExactEvenModel", spec := "fnExactEvenModel", inPlace := ["math.Float64bits", "math.Float64frombits"], unfollowed := true, recurses := true, apart := false }
def FnExactEvenModelSaid : Prop := fnExactEvenModelRow.holds Try.pinned (OpenSpec.ofChange fnExactEvenModelSpec)

/-- ITS FALSE NEIGHBOUR: 'it returns false'. Refute it at one input. -/
def fnExactEvenModelWrong : ChangeSpec := { name := "fnExactEvenModel", fn := fun _ => fun
  | [d1, d2] => { results := [.lit (.bool false)], args := [d1, d2] }
  | _ => none }
def FnExactEvenModelWrongFalsely : Prop := fnExactEvenModelRow.holds Try.pinned (OpenSpec.ofChange fnExactEvenModelWrong)

/-- 'laws.FnExactRingModel': WHATEVER THE INPUT: true; the input reads as it did. -/
def fnExactRingModelSpec : ChangeSpec := { name := "fnExactRingModel", fn := fun _ => fun
  | [d1, d2, d3, d4] => { results := [.lit (.bool true)], args := [d1, d2, d3, d4] }
  | _ => none }
def fnExactRingModelRow : OpenClaim := { program := "ytikgnpajjbjkcaa", sum := "85ab50325d15c7d7bb6ea77dfcfe80a82726223db6a89b50566661c60dc8e1c1", func := "loop.example/g01357/laws.FnExactRingModel", spec := "fnExactRingModel", inPlace := ["math.Float64bits", "math.Float64frombits"], unfollowed := true, recurses := true, apart := false }
def FnExactRingModelSaid : Prop := fnExactRingModelRow.holds Try.pinned (OpenSpec.ofChange fnExactRingModelSpec)

/-- ITS FALSE NEIGHBOUR: 'it returns false'. Refute it at one input. -/
def fnExactRingModelWrong : ChangeSpec := { name := "fnExactRingModel", fn := fun _ => fun
  | [d1, d2, d3, d4] => { results := [.lit (.bool false)], args := [d1, d2, d3, d4] }
  | _ => none }
def FnExactRingModelWrongFalsely : Prop := fnExactRingModelRow.holds Try.pinned (OpenSpec.ofChange fnExactRingModelWrong)

/-- 'laws.FnExactForwardOf': WHATEVER THE INPUT: true; the input reads as it did. -/
def fnExactForwardOfSpec : ChangeSpec := { name := "fnExactForwardOf", fn := fun _ => fun
  | [d1, d2] => { results := [.lit (.bool true)], args := [d1, d2] }
  | _ => none }
def fnExactForwardOfRow : OpenClaim := { program := "ytikgnpajjbjkcaa", sum := "85ab50325d15c7d7bb6ea77dfcfe80a82726223db6a89b50566661c60dc8e1c1", func := "loop.example/g01357/laws.FnExactForwardOf", spec := "fnExactForwardOf", inPlace := ["math.Float64bits", "math.Float64frombits"], unfollowed := true, recurses := true, apart := false }
def FnExactForwardOfSaid : Prop := fnExactForwardOfRow.holds Try.pinned (OpenSpec.ofChange fnExactForwardOfSpec)

/-- ITS FALSE NEIGHBOUR: 'it returns false'. Refute it at one input. -/
def fnExactForwardOfWrong : ChangeSpec := { name := "fnExactForwardOf", fn := fun _ => fun
  | [d1, d2] => { results := [.lit (.bool false)], args := [d1, d2] }
  | _ => none }
def FnExactForwardOfWrongFalsely : Prop := fnExactForwardOfRow.holds Try.pinned (OpenSpec.ofChange fnExactForwardOfWrong)

/-- 'laws.FnExactBackwardOf': WHATEVER THE INPUT: true; the input reads as it did. -/
def fnExactBackwardOfSpec : ChangeSpec := { name := "fnExactBackwardOf", fn := fun _ => fun
  | [d1, d2] => { results := [.lit (.bool true)], args := [d1, d2] }
  | _ => none }
def fnExactBackwardOfRow : OpenClaim := { program := "ytikgnpajjbjkcaa", sum := "85ab50325d15c7d7bb6ea77dfcfe80a82726223db6a89b50566661c60dc8e1c1", func := "loop.example/g01357/laws.FnExactBackwardOf", spec := "fnExactBackwardOf", inPlace := ["math.Float64bits", "math.Float64frombits"], unfollowed := true, recurses := true, apart := false }
def FnExactBackwardOfSaid : Prop := fnExactBackwardOfRow.holds Try.pinned (OpenSpec.ofChange fnExactBackwardOfSpec)

/-- ITS FALSE NEIGHBOUR: 'it returns false'. Refute it at one input. -/
def fnExactBackwardOfWrong : ChangeSpec := { name := "fnExactBackwardOf", fn := fun _ => fun
  | [d1, d2] => { results := [.lit (.bool false)], args := [d1, d2] }
  | _ => none }
def FnExactBackwardOfWrongFalsely : Prop := fnExactBackwardOfRow.holds Try.pinned (OpenSpec.ofChange fnExactBackwardOfWrong)

/-- 'laws.FnExactChanceOf': WHATEVER THE INPUT: true; the input reads as it did. -/
def fnExactChanceOfSpec : ChangeSpec := { name := "fnExactChanceOf", fn := fun _ => fun
  | [d1, d2] => { results := [.lit (.bool true)], args := [d1, d2] }
  | _ => none }
def fnExactChanceOfRow : OpenClaim := { program := "ytikgnpajjbjkcaa", sum := "85ab50325d15c7d7bb6ea77dfcfe80a82726223db6a89b50566661c60dc8e1c1", func := "loop.example/g01357/laws.FnExactChanceOf", spec := "fnExactChanceOf", inPlace := ["math.Float64bits", "math.Float64frombits"], unfollowed := true, recurses := true, apart := false }
def FnExactChanceOfSaid : Prop := fnExactChanceOfRow.holds Try.pinned (OpenSpec.ofChange fnExactChanceOfSpec)

/-- ITS FALSE NEIGHBOUR: 'it returns false'. Refute it at one input. -/
def fnExactChanceOfWrong : ChangeSpec := { name := "fnExactChanceOf", fn := fun _ => fun
  | [d1, d2] => { results := [.lit (.bool false)], args := [d1, d2] }
  | _ => none }
def FnExactChanceOfWrongFalsely : Prop := fnExactChanceOfRow.holds Try.pinned (OpenSpec.ofChange fnExactChanceOfWrong)

/-- 'laws.FnExactLogChanceOf': WHATEVER THE INPUT: true; the input reads as it did. -/
def fnExactLogChanceOfSpec : ChangeSpec := { name := "fnExactLogChanceOf", fn := fun _ => fun
  | [d1, d2] => { results := [.lit (.bool true)], args := [d1, d2] }
  | _ => none }
def fnExactLogChanceOfRow : OpenClaim := { program := "ytikgnpajjbjkcaa", sum := "85ab50325d15c7d7bb6ea77dfcfe80a82726223db6a89b50566661c60dc8e1c1", func := "loop.example/g01357/laws.FnExactLogChanceOf", spec := "fnExactLogChanceOf", inPlace := ["math.Float64frombits", "math.Float64bits", "math.Float32frombits"], unfollowed := true, recurses := true, apart := false }
def FnExactLogChanceOfSaid : Prop := fnExactLogChanceOfRow.holds Try.pinned (OpenSpec.ofChange fnExactLogChanceOfSpec)

/-- ITS FALSE NEIGHBOUR: 'it returns false'. Refute it at one input. -/
def fnExactLogChanceOfWrong : ChangeSpec := { name := "fnExactLogChanceOf", fn := fun _ => fun
  | [d1, d2] => { results := [.lit (.bool false)], args := [d1, d2] }
  | _ => none }
def FnExactLogChanceOfWrongFalsely : Prop := fnExactLogChanceOfRow.holds Try.pinned (OpenSpec.ofChange fnExactLogChanceOfWrong)

/-- 'laws.FnExactHiddenAt': WHATEVER THE INPUT: true; the input reads as it did. -/
def fnExactHiddenAtSpec : ChangeSpec := { name := "fnExactHiddenAt", fn := fun _ => fun
  | [d1, d2, d3] => { results := [.lit (.bool true)], args := [d1, d2, d3] }
  | _ => none }
def fnExactHiddenAtRow : OpenClaim := { program := "ytikgnpajjbjkcaa", sum := "85ab50325d15c7d7bb6ea77dfcfe80a82726223db6a89b50566661c60dc8e1c1", func := "loop.example/g01357/laws.FnExactHiddenAt", spec := "fnExactHiddenAt", inPlace := ["math.Float64bits", "math.Float64frombits"], unfollowed := true, recurses := true, apart := false }
def FnExactHiddenAtSaid : Prop := fnExactHiddenAtRow.holds Try.pinned (OpenSpec.ofChange fnExactHiddenAtSpec)

/-- ITS FALSE NEIGHBOUR: 'it returns false'. Refute it at one input. -/
def fnExactHiddenAtWrong : ChangeSpec := { name := "fnExactHiddenAt", fn := fun _ => fun
  | [d1, d2, d3] => { results := [.lit (.bool false)], args := [d1, d2, d3] }
  | _ => none }
def FnExactHiddenAtWrongFalsely : Prop := fnExactHiddenAtRow.holds Try.pinned (OpenSpec.ofChange fnExactHiddenAtWrong)

/-- 'laws.FnExactPairAt': WHATEVER THE INPUT: true; the input reads as it did. -/
def fnExactPairAtSpec : ChangeSpec := { name := "fnExactPairAt", fn := fun _ => fun
  | [d1, d2, d3] => { results := [.lit (.bool true)], args := [d1, d2, d3] }
  | _ => none }
def fnExactPairAtRow : OpenClaim := { program := "ytikgnpajjbjkcaa", sum := "85ab50325d15c7d7bb6ea77dfcfe80a82726223db6a89b50566661c60dc8e1c1", func := "loop.example/g01357/laws.FnExactPairAt", spec := "fnExactPairAt", inPlace := ["math.Float64bits", "math.Float64frombits"], unfollowed := true, recurses := true, apart := false }
def FnExactPairAtSaid : Prop := fnExactPairAtRow.holds Try.pinned (OpenSpec.ofChange fnExactPairAtSpec)

/-- ITS FALSE NEIGHBOUR: 'it returns false'. Refute it at one input. -/
def fnExactPairAtWrong : ChangeSpec := { name := "fnExactPairAt", fn := fun _ => fun
  | [d1, d2, d3] => { results := [.lit (.bool false)], args := [d1, d2, d3] }
  | _ => none }
def FnExactPairAtWrongFalsely : Prop := fnExactPairAtRow.holds Try.pinned (OpenSpec.ofChange fnExactPairAtWrong)

/-- 'laws.FnExactBestHidden': WHATEVER THE INPUT: true; the input reads as it did. -/
def fnExactBestHiddenSpec : ChangeSpec := { name := "fnExactBestHidden", fn := fun _ => fun
  | [d1, d2] => { results := [.lit (.bool true)], args := [d1, d2] }
  | _ => none }
def fnExactBestHiddenRow : OpenClaim := { program := "ytikgnpajjbjkcaa", sum := "85ab50325d15c7d7bb6ea77dfcfe80a82726223db6a89b50566661c60dc8e1c1", func := "loop.example/g01357/laws.FnExactBestHidden", spec := "fnExactBestHidden", inPlace := ["math.Float64bits", "math.Float64frombits"], unfollowed := true, recurses := true, apart := false }
def FnExactBestHiddenSaid : Prop := fnExactBestHiddenRow.holds Try.pinned (OpenSpec.ofChange fnExactBestHiddenSpec)

/-- ITS FALSE NEIGHBOUR: 'it returns false'. Refute it at one input. -/
def fnExactBestHiddenWrong : ChangeSpec := { name := "fnExactBestHidden", fn := fun _ => fun
  | [d1, d2] => { results := [.lit (.bool false)], args := [d1, d2] }
  | _ => none }
def FnExactBestHiddenWrongFalsely : Prop := fnExactBestHiddenRow.holds Try.pinned (OpenSpec.ofChange fnExactBestHiddenWrong)

/-- 'laws.FnExactHiddenChance': WHATEVER THE INPUT: true; the input reads as it did. -/
def fnExactHiddenChanceSpec : ChangeSpec := { name := "fnExactHiddenChance", fn := fun _ => fun
  | [d1, d2, d3] => { results := [.lit (.bool true)], args := [d1, d2, d3] }
  | _ => none }
def fnExactHiddenChanceRow : OpenClaim := { program := "ytikgnpajjbjkcaa", sum := "85ab50325d15c7d7bb6ea77dfcfe80a82726223db6a89b50566661c60dc8e1c1", func := "loop.example/g01357/laws.FnExactHiddenChance", spec := "fnExactHiddenChance", inPlace := ["math.Float64bits", "math.Float64frombits"], unfollowed := true, recurses := true, apart := false }
def FnExactHiddenChanceSaid : Prop := fnExactHiddenChanceRow.holds Try.pinned (OpenSpec.ofChange fnExactHiddenChanceSpec)

/-- ITS FALSE NEIGHBOUR: 'it returns false'. Refute it at one input. -/
def fnExactHiddenChanceWrong : ChangeSpec := { name := "fnExactHiddenChance", fn := fun _ => fun
  | [d1, d2, d3] => { results := [.lit (.bool false)], args := [d1, d2, d3] }
  | _ => none }
def FnExactHiddenChanceWrongFalsely : Prop := fnExactHiddenChanceRow.holds Try.pinned (OpenSpec.ofChange fnExactHiddenChanceWrong)

/- THE SECOND FORM. 'bulk': how many values and letters a reading holds, each counted each time it is reached (what is shared counts as often as it is met; a slice's spare places count too). A statement '..UptoSaid' is the law's where the arguments, and the package variables that the reading takes, are together of bulk at most 1048576: NARROWER than '..Said'. Prove '..Said' where nothing that the law and all that it calls make is longer than what came in: it says more and counts as full. Else prove '..UptoSaid'. A law counts once. -/
mutual
def uptoBulk {H : Type} : DataW H → Nat
  | .lit (.string bytes) => bytes.length + 1
  | .lit _ => 1
  | .nil => 1
  | .ptr d => uptoBulk d + 1
  | .slice elems spare => uptoBulkAll elems + uptoBulkAll spare + 1
  | .agg parts => uptoBulkAll parts + 1
  | .iface _ d => uptoBulk d + 1
  | .map entries => uptoBulkEntries entries + 1
  | .held _ => 1
def uptoBulkAll {H : Type} : List (DataW H) → Nat
  | [] => 0
  | d :: r => uptoBulk d + uptoBulkAll r
def uptoBulkEntries {H : Type} : List (Lit × DataW H) → Nat
  | [] => 0
  | x :: r => uptoBulkEntry x + uptoBulkEntries r
def uptoBulkEntry {H : Type} : Lit × DataW H → Nat
  | (.string bytes, d) => bytes.length + uptoBulk d + 1
  | (_, d) => uptoBulk d + 1
 end
def uptoSmall : (H : Type) → List (DataW H) → Bool := fun _ ds => decide (uptoBulkAll ds ≤ 1048576)
def OpenSpec.upto (s : _root_.Go.ChangeSpec) : _root_.Go.OpenSpec := { _root_.Go.OpenSpec.ofChange s with cond := some uptoSmall }

/-- 'laws.FnExactValidModel', WHERE WHAT IT READS IS OF BULK AT MOST 1048576: true; the input reads as it did. -/
def fnExactValidModelUptoRow : OpenClaim := { program := "ytikgnpajjbjkcaa", sum := "85ab50325d15c7d7bb6ea77dfcfe80a82726223db6a89b50566661c60dc8e1c1", func := "loop.example/g01357/laws.FnExactValidModel", spec := "fnExactValidModel", inPlace := ["math.Float64bits", "math.Float64frombits"], unfollowed := true, recurses := true, apart := false, narrowed := true }
def FnExactValidModelUptoSaid : Prop := fnExactValidModelUptoRow.holds Try.pinned (OpenSpec.upto fnExactValidModelSpec)

/-- 'laws.FnExactSameModel', WHERE WHAT IT READS IS OF BULK AT MOST 1048576: true; the input reads as it did. -/
def fnExactSameModelUptoRow : OpenClaim := { program := "ytikgnpajjbjkcaa", sum := "85ab50325d15c7d7bb6ea77dfcfe80a82726223db6a89b50566661c60dc8e1c1", func := "loop.example/g01357/laws.FnExactSameModel", spec := "fnExactSameModel", inPlace := ["math.Float32bits"], unfollowed := true, recurses := true, apart := false, narrowed := true }
def FnExactSameModelUptoSaid : Prop := fnExactSameModelUptoRow.holds Try.pinned (OpenSpec.upto fnExactSameModelSpec)

/-- 'laws.FnExactEvenModel', WHERE WHAT IT READS IS OF BULK AT MOST 1048576: true; the input reads as it did. -/
def fnExactEvenModelUptoRow : OpenClaim := { program := "ytikgnpajjbjkcaa", sum := "85ab50325d15c7d7bb6ea77dfcfe80a82726223db6a89b50566661c60dc8e1c1", func := "loop.example/g01357/laws.FnExactEvenModel", spec := "fnExactEvenModel", inPlace := ["math.Float64bits", "math.Float64frombits"], unfollowed := true, recurses := true, apart := false, narrowed := true }
def FnExactEvenModelUptoSaid : Prop := fnExactEvenModelUptoRow.holds Try.pinned (OpenSpec.upto fnExactEvenModelSpec)

/-- 'laws.FnExactRingModel', WHERE WHAT IT READS IS OF BULK AT MOST 1048576: true; the input reads as it did. -/
def fnExactRingModelUptoRow : OpenClaim := { program := "ytikgnpajjbjkcaa", sum := "85ab50325d15c7d7bb6ea77dfcfe80a82726223db6a89b50566661c60dc8e1c1", func := "loop.example/g01357/laws.FnExactRingModel", spec := "fnExactRingModel", inPlace := ["math.Float64bits", "math.Float64frombits"], unfollowed := true, recurses := true, apart := false, narrowed := true }
def FnExactRingModelUptoSaid : Prop := fnExactRingModelUptoRow.holds Try.pinned (OpenSpec.upto fnExactRingModelSpec)

/-- 'laws.FnExactForwardOf', WHERE WHAT IT READS IS OF BULK AT MOST 1048576: true; the input reads as it did. -/
def fnExactForwardOfUptoRow : OpenClaim := { program := "ytikgnpajjbjkcaa", sum := "85ab50325d15c7d7bb6ea77dfcfe80a82726223db6a89b50566661c60dc8e1c1", func := "loop.example/g01357/laws.FnExactForwardOf", spec := "fnExactForwardOf", inPlace := ["math.Float64bits", "math.Float64frombits"], unfollowed := true, recurses := true, apart := false, narrowed := true }
def FnExactForwardOfUptoSaid : Prop := fnExactForwardOfUptoRow.holds Try.pinned (OpenSpec.upto fnExactForwardOfSpec)

/-- 'laws.FnExactBackwardOf', WHERE WHAT IT READS IS OF BULK AT MOST 1048576: true; the input reads as it did. -/
def fnExactBackwardOfUptoRow : OpenClaim := { program := "ytikgnpajjbjkcaa", sum := "85ab50325d15c7d7bb6ea77dfcfe80a82726223db6a89b50566661c60dc8e1c1", func := "loop.example/g01357/laws.FnExactBackwardOf", spec := "fnExactBackwardOf", inPlace := ["math.Float64bits", "math.Float64frombits"], unfollowed := true, recurses := true, apart := false, narrowed := true }
def FnExactBackwardOfUptoSaid : Prop := fnExactBackwardOfUptoRow.holds Try.pinned (OpenSpec.upto fnExactBackwardOfSpec)

/-- 'laws.FnExactChanceOf', WHERE WHAT IT READS IS OF BULK AT MOST 1048576: true; the input reads as it did. -/
def fnExactChanceOfUptoRow : OpenClaim := { program := "ytikgnpajjbjkcaa", sum := "85ab50325d15c7d7bb6ea77dfcfe80a82726223db6a89b50566661c60dc8e1c1", func := "loop.example/g01357/laws.FnExactChanceOf", spec := "fnExactChanceOf", inPlace := ["math.Float64bits", "math.Float64frombits"], unfollowed := true, recurses := true, apart := false, narrowed := true }
def FnExactChanceOfUptoSaid : Prop := fnExactChanceOfUptoRow.holds Try.pinned (OpenSpec.upto fnExactChanceOfSpec)

/-- 'laws.FnExactLogChanceOf', WHERE WHAT IT READS IS OF BULK AT MOST 1048576: true; the input reads as it did. -/
def fnExactLogChanceOfUptoRow : OpenClaim := { program := "ytikgnpajjbjkcaa", sum := "85ab50325d15c7d7bb6ea77dfcfe80a82726223db6a89b50566661c60dc8e1c1", func := "loop.example/g01357/laws.FnExactLogChanceOf", spec := "fnExactLogChanceOf", inPlace := ["math.Float64frombits", "math.Float64bits", "math.Float32frombits"], unfollowed := true, recurses := true, apart := false, narrowed := true }
def FnExactLogChanceOfUptoSaid : Prop := fnExactLogChanceOfUptoRow.holds Try.pinned (OpenSpec.upto fnExactLogChanceOfSpec)

/-- 'laws.FnExactHiddenAt', WHERE WHAT IT READS IS OF BULK AT MOST 1048576: true; the input reads as it did. -/
def fnExactHiddenAtUptoRow : OpenClaim := { program := "ytikgnpajjbjkcaa", sum := "85ab50325d15c7d7bb6ea77dfcfe80a82726223db6a89b50566661c60dc8e1c1", func := "loop.example/g01357/laws.FnExactHiddenAt", spec := "fnExactHiddenAt", inPlace := ["math.Float64bits", "math.Float64frombits"], unfollowed := true, recurses := true, apart := false, narrowed := true }
def FnExactHiddenAtUptoSaid : Prop := fnExactHiddenAtUptoRow.holds Try.pinned (OpenSpec.upto fnExactHiddenAtSpec)

/-- 'laws.FnExactPairAt', WHERE WHAT IT READS IS OF BULK AT MOST 1048576: true; the input reads as it did. -/
def fnExactPairAtUptoRow : OpenClaim := { program := "ytikgnpajjbjkcaa", sum := "85ab50325d15c7d7bb6ea77dfcfe80a82726223db6a89b50566661c60dc8e1c1", func := "loop.example/g01357/laws.FnExactPairAt", spec := "fnExactPairAt", inPlace := ["math.Float64bits", "math.Float64frombits"], unfollowed := true, recurses := true, apart := false, narrowed := true }
def FnExactPairAtUptoSaid : Prop := fnExactPairAtUptoRow.holds Try.pinned (OpenSpec.upto fnExactPairAtSpec)

/-- 'laws.FnExactBestHidden', WHERE WHAT IT READS IS OF BULK AT MOST 1048576: true; the input reads as it did. -/
def fnExactBestHiddenUptoRow : OpenClaim := { program := "ytikgnpajjbjkcaa", sum := "85ab50325d15c7d7bb6ea77dfcfe80a82726223db6a89b50566661c60dc8e1c1", func := "loop.example/g01357/laws.FnExactBestHidden", spec := "fnExactBestHidden", inPlace := ["math.Float64bits", "math.Float64frombits"], unfollowed := true, recurses := true, apart := false, narrowed := true }
def FnExactBestHiddenUptoSaid : Prop := fnExactBestHiddenUptoRow.holds Try.pinned (OpenSpec.upto fnExactBestHiddenSpec)

/-- 'laws.FnExactHiddenChance', WHERE WHAT IT READS IS OF BULK AT MOST 1048576: true; the input reads as it did. -/
def fnExactHiddenChanceUptoRow : OpenClaim := { program := "ytikgnpajjbjkcaa", sum := "85ab50325d15c7d7bb6ea77dfcfe80a82726223db6a89b50566661c60dc8e1c1", func := "loop.example/g01357/laws.FnExactHiddenChance", spec := "fnExactHiddenChance", inPlace := ["math.Float64bits", "math.Float64frombits"], unfollowed := true, recurses := true, apart := false, narrowed := true }
def FnExactHiddenChanceUptoSaid : Prop := fnExactHiddenChanceUptoRow.holds Try.pinned (OpenSpec.upto fnExactHiddenChanceSpec)

end Rows
end Go.Proofs.Ytikgnpajjbjkcaa
