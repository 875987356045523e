/-
  No cell of these rows narrows 'for every input' (looked for: loops, veiled, ifaces, maps, wideKeys, modest, calm, conditions, laid).
  DERIVED. THE GIVEN ROWS OF THIS SEAT. 12 by the template 'for every input the law returns true; each argument reads behind the call as it read before'; 0 by the template 'total and deterministic' (their statements: YtdgegekjjnghmaaTotals.lean).
  GIVEN WITH THE SEED: the statements are not yours to turn. If you find one false, say at which input.
  Laid BY PROGRAM, IN A SANDBOX (cutbox-rows.mjs): the forced cells as the released guide's own fill.sh prints them over the translation 475d8e763c51ac70… (all of the seat's roots in one cut). By AI agents, Wed Nov 11 2026. No macro, syntax, notation, axiom, sorry.
-/
import Derived.Test.YtdgegekjjnghmaaChecked
import GoSem.Claim
import GoSem.ClaimJoined
import GoSem.ClaimMapViews
import Derived.JoinedTies
import Derived.KernelRfl
namespace Go.Proofs.Ytdgegekjjnghmaa
/- THE CELL 'sum', in the pinned program and in every row, IS THE sha256 OF THE DUMP (.gsa) THAT YtdgegekjjnghmaaProg.lean LOADS. Nothing in Lean hashes anything: it is a label: what it is worth is what the hold of that sum in a sandbox is worth. -/
noncomputable def Try.pinned : Pinned := { name := "ytdgegekjjnghmaa", sum := "475d8e763c51ac701f318da460cc5f95e1612770bda3a77d86d3460b1e76ee44", checked := Try.checked }
namespace Rows
def none {H : Type} : Left H := { results := [], args := [] }

/-- 'laws.FnExactValidSided': WHATEVER THE INPUT: true; the input reads as it did. -/
def fnExactValidSidedSpec : ChangeSpec := { name := "fnExactValidSided", fn := fun _ => fun
  | [d] => { results := [.lit (.bool true)], args := [d] }
  | _ => none }
def fnExactValidSidedRow : OpenClaim := { program := "ytdgegekjjnghmaa", sum := "475d8e763c51ac701f318da460cc5f95e1612770bda3a77d86d3460b1e76ee44", func := "loop.example/g01357/laws.FnExactValidSided", spec := "fnExactValidSided", unfollowed := true, recurses := true, plainKeys := false, apart := false }
def FnExactValidSidedSaid : Prop := fnExactValidSidedRow.holds Try.pinned (OpenSpec.ofChange fnExactValidSidedSpec)

/-- ITS FALSE NEIGHBOUR: 'it returns false'. Refute it at one input. -/
def fnExactValidSidedWrong : ChangeSpec := { name := "fnExactValidSided", fn := fun _ => fun
  | [d] => { results := [.lit (.bool false)], args := [d] }
  | _ => none }
def FnExactValidSidedWrongFalsely : Prop := fnExactValidSidedRow.holds Try.pinned (OpenSpec.ofChange fnExactValidSidedWrong)

/-- 'laws.FnExactSameSided': WHATEVER THE INPUT: true; the input reads as it did. -/
def fnExactSameSidedSpec : ChangeSpec := { name := "fnExactSameSided", fn := fun _ => fun
  | [d1, d2] => { results := [.lit (.bool true)], args := [d1, d2] }
  | _ => none }
def fnExactSameSidedRow : OpenClaim := { program := "ytdgegekjjnghmaa", sum := "475d8e763c51ac701f318da460cc5f95e1612770bda3a77d86d3460b1e76ee44", func := "loop.example/g01357/laws.FnExactSameSided", spec := "fnExactSameSided", plainKeys := false, apart := false }
def FnExactSameSidedSaid : Prop := fnExactSameSidedRow.holds Try.pinned (OpenSpec.ofChange fnExactSameSidedSpec)

/-- ITS FALSE NEIGHBOUR: 'it returns false'. Refute it at one input. -/
def fnExactSameSidedWrong : ChangeSpec := { name := "fnExactSameSided", fn := fun _ => fun
  | [d1, d2] => { results := [.lit (.bool false)], args := [d1, d2] }
  | _ => none }
def FnExactSameSidedWrongFalsely : Prop := fnExactSameSidedRow.holds Try.pinned (OpenSpec.ofChange fnExactSameSidedWrong)

/-- 'laws.FnExactReadsPair': WHATEVER THE INPUT: true; the input reads as it did. -/
def fnExactReadsPairSpec : ChangeSpec := { name := "fnExactReadsPair", fn := fun _ => fun
  | [d1, d2, d3] => { results := [.lit (.bool true)], args := [d1, d2, d3] }
  | _ => none }
def fnExactReadsPairRow : OpenClaim := { program := "ytdgegekjjnghmaa", sum := "475d8e763c51ac701f318da460cc5f95e1612770bda3a77d86d3460b1e76ee44", func := "loop.example/g01357/laws.FnExactReadsPair", spec := "fnExactReadsPair", unfollowed := true, recurses := true, plainKeys := false, apart := false }
def FnExactReadsPairSaid : Prop := fnExactReadsPairRow.holds Try.pinned (OpenSpec.ofChange fnExactReadsPairSpec)

/-- ITS FALSE NEIGHBOUR: 'it returns false'. Refute it at one input. -/
def fnExactReadsPairWrong : ChangeSpec := { name := "fnExactReadsPair", fn := fun _ => fun
  | [d1, d2, d3] => { results := [.lit (.bool false)], args := [d1, d2, d3] }
  | _ => none }
def FnExactReadsPairWrongFalsely : Prop := fnExactReadsPairRow.holds Try.pinned (OpenSpec.ofChange fnExactReadsPairWrong)

/-- 'laws.FnExactOutputsOf': WHATEVER THE INPUT: true; the input reads as it did. -/
def fnExactOutputsOfSpec : ChangeSpec := { name := "fnExactOutputsOf", fn := fun _ => fun
  | [d1, d2, d3] => { results := [.lit (.bool true)], args := [d1, d2, d3] }
  | _ => none }
def fnExactOutputsOfRow : OpenClaim := { program := "ytdgegekjjnghmaa", sum := "475d8e763c51ac701f318da460cc5f95e1612770bda3a77d86d3460b1e76ee44", func := "loop.example/g01357/laws.FnExactOutputsOf", spec := "fnExactOutputsOf", unfollowed := true, recurses := true, plainKeys := false, apart := false }
def FnExactOutputsOfSaid : Prop := fnExactOutputsOfRow.holds Try.pinned (OpenSpec.ofChange fnExactOutputsOfSpec)

/-- ITS FALSE NEIGHBOUR: 'it returns false'. Refute it at one input. -/
def fnExactOutputsOfWrong : ChangeSpec := { name := "fnExactOutputsOf", fn := fun _ => fun
  | [d1, d2, d3] => { results := [.lit (.bool false)], args := [d1, d2, d3] }
  | _ => none }
def FnExactOutputsOfWrongFalsely : Prop := fnExactOutputsOfRow.holds Try.pinned (OpenSpec.ofChange fnExactOutputsOfWrong)

/-- 'laws.FnExactTurnSided': WHATEVER THE INPUT: true; the input reads as it did. -/
def fnExactTurnSidedSpec : ChangeSpec := { name := "fnExactTurnSided", fn := fun _ => fun
  | [d] => { results := [.lit (.bool true)], args := [d] }
  | _ => none }
def fnExactTurnSidedRow : OpenClaim := { program := "ytdgegekjjnghmaa", sum := "475d8e763c51ac701f318da460cc5f95e1612770bda3a77d86d3460b1e76ee44", func := "loop.example/g01357/laws.FnExactTurnSided", spec := "fnExactTurnSided", unfollowed := true, recurses := true, plainKeys := false, apart := false }
def FnExactTurnSidedSaid : Prop := fnExactTurnSidedRow.holds Try.pinned (OpenSpec.ofChange fnExactTurnSidedSpec)

/-- ITS FALSE NEIGHBOUR: 'it returns false'. Refute it at one input. -/
def fnExactTurnSidedWrong : ChangeSpec := { name := "fnExactTurnSided", fn := fun _ => fun
  | [d] => { results := [.lit (.bool false)], args := [d] }
  | _ => none }
def FnExactTurnSidedWrongFalsely : Prop := fnExactTurnSidedRow.holds Try.pinned (OpenSpec.ofChange fnExactTurnSidedWrong)

/-- 'laws.FnExactChainSided': WHATEVER THE INPUT: true; the input reads as it did. -/
def fnExactChainSidedSpec : ChangeSpec := { name := "fnExactChainSided", fn := fun _ => fun
  | [d1, d2] => { results := [.lit (.bool true)], args := [d1, d2] }
  | _ => none }
def fnExactChainSidedRow : OpenClaim := { program := "ytdgegekjjnghmaa", sum := "475d8e763c51ac701f318da460cc5f95e1612770bda3a77d86d3460b1e76ee44", func := "loop.example/g01357/laws.FnExactChainSided", spec := "fnExactChainSided", unfollowed := true, recurses := true, plainKeys := false, apart := false }
def FnExactChainSidedSaid : Prop := fnExactChainSidedRow.holds Try.pinned (OpenSpec.ofChange fnExactChainSidedSpec)

/-- ITS FALSE NEIGHBOUR: 'it returns false'. Refute it at one input. -/
def fnExactChainSidedWrong : ChangeSpec := { name := "fnExactChainSided", fn := fun _ => fun
  | [d1, d2] => { results := [.lit (.bool false)], args := [d1, d2] }
  | _ => none }
def FnExactChainSidedWrongFalsely : Prop := fnExactChainSidedRow.holds Try.pinned (OpenSpec.ofChange fnExactChainSidedWrong)

/-- 'laws.FnExactEitherSided': WHATEVER THE INPUT: true; the input reads as it did. -/
def fnExactEitherSidedSpec : ChangeSpec := { name := "fnExactEitherSided", fn := fun _ => fun
  | [d1, d2] => { results := [.lit (.bool true)], args := [d1, d2] }
  | _ => none }
def fnExactEitherSidedRow : OpenClaim := { program := "ytdgegekjjnghmaa", sum := "475d8e763c51ac701f318da460cc5f95e1612770bda3a77d86d3460b1e76ee44", func := "loop.example/g01357/laws.FnExactEitherSided", spec := "fnExactEitherSided", unfollowed := true, recurses := true, plainKeys := false, apart := false }
def FnExactEitherSidedSaid : Prop := fnExactEitherSidedRow.holds Try.pinned (OpenSpec.ofChange fnExactEitherSidedSpec)

/-- ITS FALSE NEIGHBOUR: 'it returns false'. Refute it at one input. -/
def fnExactEitherSidedWrong : ChangeSpec := { name := "fnExactEitherSided", fn := fun _ => fun
  | [d1, d2] => { results := [.lit (.bool false)], args := [d1, d2] }
  | _ => none }
def FnExactEitherSidedWrongFalsely : Prop := fnExactEitherSidedRow.holds Try.pinned (OpenSpec.ofChange fnExactEitherSidedWrong)

/-- 'laws.FnExactTransliterate': WHATEVER THE INPUT: true; the input reads as it did. -/
def fnExactTransliterateSpec : ChangeSpec := { name := "fnExactTransliterate", fn := fun _ => fun
  | [d1, d2, d3] => { results := [.lit (.bool true)], args := [d1, d2, d3] }
  | _ => none }
def fnExactTransliterateRow : OpenClaim := { program := "ytdgegekjjnghmaa", sum := "475d8e763c51ac701f318da460cc5f95e1612770bda3a77d86d3460b1e76ee44", func := "loop.example/g01357/laws.FnExactTransliterate", spec := "fnExactTransliterate", unfollowed := true, recurses := true, plainKeys := false, apart := false }
def FnExactTransliterateSaid : Prop := fnExactTransliterateRow.holds Try.pinned (OpenSpec.ofChange fnExactTransliterateSpec)

/-- ITS FALSE NEIGHBOUR: 'it returns false'. Refute it at one input. -/
def fnExactTransliterateWrong : ChangeSpec := { name := "fnExactTransliterate", fn := fun _ => fun
  | [d1, d2, d3] => { results := [.lit (.bool false)], args := [d1, d2, d3] }
  | _ => none }
def FnExactTransliterateWrongFalsely : Prop := fnExactTransliterateRow.holds Try.pinned (OpenSpec.ofChange fnExactTransliterateWrong)

/-- 'laws.FnExactBackLiterate': WHATEVER THE INPUT: true; the input reads as it did. -/
def fnExactBackLiterateSpec : ChangeSpec := { name := "fnExactBackLiterate", fn := fun _ => fun
  | [d1, d2, d3] => { results := [.lit (.bool true)], args := [d1, d2, d3] }
  | _ => none }
def fnExactBackLiterateRow : OpenClaim := { program := "ytdgegekjjnghmaa", sum := "475d8e763c51ac701f318da460cc5f95e1612770bda3a77d86d3460b1e76ee44", func := "loop.example/g01357/laws.FnExactBackLiterate", spec := "fnExactBackLiterate", unfollowed := true, recurses := true, plainKeys := false, apart := false }
def FnExactBackLiterateSaid : Prop := fnExactBackLiterateRow.holds Try.pinned (OpenSpec.ofChange fnExactBackLiterateSpec)

/-- ITS FALSE NEIGHBOUR: 'it returns false'. Refute it at one input. -/
def fnExactBackLiterateWrong : ChangeSpec := { name := "fnExactBackLiterate", fn := fun _ => fun
  | [d1, d2, d3] => { results := [.lit (.bool false)], args := [d1, d2, d3] }
  | _ => none }
def FnExactBackLiterateWrongFalsely : Prop := fnExactBackLiterateRow.holds Try.pinned (OpenSpec.ofChange fnExactBackLiterateWrong)

/-- 'laws.FnExactSourcesOf': WHATEVER THE INPUT: true; the input reads as it did. -/
def fnExactSourcesOfSpec : ChangeSpec := { name := "fnExactSourcesOf", fn := fun _ => fun
  | [d1, d2, d3, d4] => { results := [.lit (.bool true)], args := [d1, d2, d3, d4] }
  | _ => none }
def fnExactSourcesOfRow : OpenClaim := { program := "ytdgegekjjnghmaa", sum := "475d8e763c51ac701f318da460cc5f95e1612770bda3a77d86d3460b1e76ee44", func := "loop.example/g01357/laws.FnExactSourcesOf", spec := "fnExactSourcesOf", unfollowed := true, recurses := true, plainKeys := false, apart := false }
def FnExactSourcesOfSaid : Prop := fnExactSourcesOfRow.holds Try.pinned (OpenSpec.ofChange fnExactSourcesOfSpec)

/-- ITS FALSE NEIGHBOUR: 'it returns false'. Refute it at one input. -/
def fnExactSourcesOfWrong : ChangeSpec := { name := "fnExactSourcesOf", fn := fun _ => fun
  | [d1, d2, d3, d4] => { results := [.lit (.bool false)], args := [d1, d2, d3, d4] }
  | _ => none }
def FnExactSourcesOfWrongFalsely : Prop := fnExactSourcesOfRow.holds Try.pinned (OpenSpec.ofChange fnExactSourcesOfWrong)

/-- 'laws.FnExactOrderWord': WHATEVER THE INPUT: true; the input reads as it did. -/
def fnExactOrderWordSpec : ChangeSpec := { name := "fnExactOrderWord", fn := fun _ => fun
  | [d1, d2, d3, d4] => { results := [.lit (.bool true)], args := [d1, d2, d3, d4] }
  | _ => none }
def fnExactOrderWordRow : OpenClaim := { program := "ytdgegekjjnghmaa", sum := "475d8e763c51ac701f318da460cc5f95e1612770bda3a77d86d3460b1e76ee44", func := "loop.example/g01357/laws.FnExactOrderWord", spec := "fnExactOrderWord", unfollowed := true, recurses := true, plainKeys := false, apart := false }
def FnExactOrderWordSaid : Prop := fnExactOrderWordRow.holds Try.pinned (OpenSpec.ofChange fnExactOrderWordSpec)

/-- ITS FALSE NEIGHBOUR: 'it returns false'. Refute it at one input. -/
def fnExactOrderWordWrong : ChangeSpec := { name := "fnExactOrderWord", fn := fun _ => fun
  | [d1, d2, d3, d4] => { results := [.lit (.bool false)], args := [d1, d2, d3, d4] }
  | _ => none }
def FnExactOrderWordWrongFalsely : Prop := fnExactOrderWordRow.holds Try.pinned (OpenSpec.ofChange fnExactOrderWordWrong)

/-- 'laws.FnExactLoosePairs': WHATEVER THE INPUT: true; the input reads as it did. -/
def fnExactLoosePairsSpec : ChangeSpec := { name := "fnExactLoosePairs", fn := fun _ => fun
  | [d1, d2, d3] => { results := [.lit (.bool true)], args := [d1, d2, d3] }
  | _ => none }
def fnExactLoosePairsRow : OpenClaim := { program := "ytdgegekjjnghmaa", sum := "475d8e763c51ac701f318da460cc5f95e1612770bda3a77d86d3460b1e76ee44", func := "loop.example/g01357/laws.FnExactLoosePairs", spec := "fnExactLoosePairs", unfollowed := true, recurses := true, plainKeys := false, apart := false }
def FnExactLoosePairsSaid : Prop := fnExactLoosePairsRow.holds Try.pinned (OpenSpec.ofChange fnExactLoosePairsSpec)

/-- ITS FALSE NEIGHBOUR: 'it returns false'. Refute it at one input. -/
def fnExactLoosePairsWrong : ChangeSpec := { name := "fnExactLoosePairs", fn := fun _ => fun
  | [d1, d2, d3] => { results := [.lit (.bool false)], args := [d1, d2, d3] }
  | _ => none }
def FnExactLoosePairsWrongFalsely : Prop := fnExactLoosePairsRow.holds Try.pinned (OpenSpec.ofChange fnExactLoosePairsWrong)

/- THE SECOND FORM. 'bulk': how many values and letters a reading holds, each counted each time it is reached (what is shared counts as often as it is met; a slice's spare places count too). A statement '..UptoSaid' is the law's where the arguments, and the package variables that the reading takes, are together of bulk at most 1048576: NARROWER than '..Said'. Prove '..Said' where nothing that the law and all that it calls make is longer than what came in: it says more and counts as full. Else prove '..UptoSaid'. A law counts once. -/
mutual
def uptoBulk {H : Type} : DataW H → Nat
  | .lit (.string bytes) => bytes.length + 1
  | .lit _ => 1
  | .nil => 1
  | .ptr d => uptoBulk d + 1
  | .slice elems spare => uptoBulkAll elems + uptoBulkAll spare + 1
  | .agg parts => uptoBulkAll parts + 1
  | .iface _ d => uptoBulk d + 1
  | .map entries => uptoBulkEntries entries + 1
  | .held _ => 1
def uptoBulkAll {H : Type} : List (DataW H) → Nat
  | [] => 0
  | d :: r => uptoBulk d + uptoBulkAll r
def uptoBulkEntries {H : Type} : List (Lit × DataW H) → Nat
  | [] => 0
  | x :: r => uptoBulkEntry x + uptoBulkEntries r
def uptoBulkEntry {H : Type} : Lit × DataW H → Nat
  | (.string bytes, d) => bytes.length + uptoBulk d + 1
  | (_, d) => uptoBulk d + 1
 end
def uptoSmall : (H : Type) → List (DataW H) → Bool := fun _ ds => decide (uptoBulkAll ds ≤ 1048576)
def OpenSpec.upto (s : _root_.Go.ChangeSpec) : _root_.Go.OpenSpec := { _root_.Go.OpenSpec.ofChange s with cond := some uptoSmall }

/-- 'laws.FnExactValidSided', WHERE WHAT IT READS IS OF BULK AT MOST 1048576: true; the input reads as it did. -/
def fnExactValidSidedUptoRow : OpenClaim := { program := "ytdgegekjjnghmaa", sum := "475d8e763c51ac701f318da460cc5f95e1612770bda3a77d86d3460b1e76ee44", func := "loop.example/g01357/laws.FnExactValidSided", spec := "fnExactValidSided", unfollowed := true, recurses := true, plainKeys := false, apart := false, narrowed := true }
def FnExactValidSidedUptoSaid : Prop := fnExactValidSidedUptoRow.holds Try.pinned (OpenSpec.upto fnExactValidSidedSpec)

/-- 'laws.FnExactSameSided', WHERE WHAT IT READS IS OF BULK AT MOST 1048576: true; the input reads as it did. -/
def fnExactSameSidedUptoRow : OpenClaim := { program := "ytdgegekjjnghmaa", sum := "475d8e763c51ac701f318da460cc5f95e1612770bda3a77d86d3460b1e76ee44", func := "loop.example/g01357/laws.FnExactSameSided", spec := "fnExactSameSided", plainKeys := false, apart := false, narrowed := true }
def FnExactSameSidedUptoSaid : Prop := fnExactSameSidedUptoRow.holds Try.pinned (OpenSpec.upto fnExactSameSidedSpec)

/-- 'laws.FnExactReadsPair', WHERE WHAT IT READS IS OF BULK AT MOST 1048576: true; the input reads as it did. -/
def fnExactReadsPairUptoRow : OpenClaim := { program := "ytdgegekjjnghmaa", sum := "475d8e763c51ac701f318da460cc5f95e1612770bda3a77d86d3460b1e76ee44", func := "loop.example/g01357/laws.FnExactReadsPair", spec := "fnExactReadsPair", unfollowed := true, recurses := true, plainKeys := false, apart := false, narrowed := true }
def FnExactReadsPairUptoSaid : Prop := fnExactReadsPairUptoRow.holds Try.pinned (OpenSpec.upto fnExactReadsPairSpec)

/-- 'laws.FnExactOutputsOf', WHERE WHAT IT READS IS OF BULK AT MOST 1048576: true; the input reads as it did. -/
def fnExactOutputsOfUptoRow : OpenClaim := { program := "ytdgegekjjnghmaa", sum := "475d8e763c51ac701f318da460cc5f95e1612770bda3a77d86d3460b1e76ee44", func := "loop.example/g01357/laws.FnExactOutputsOf", spec := "fnExactOutputsOf", unfollowed := true, recurses := true, plainKeys := false, apart := false, narrowed := true }
def FnExactOutputsOfUptoSaid : Prop := fnExactOutputsOfUptoRow.holds Try.pinned (OpenSpec.upto fnExactOutputsOfSpec)

/-- 'laws.FnExactTurnSided', WHERE WHAT IT READS IS OF BULK AT MOST 1048576: true; the input reads as it did. -/
def fnExactTurnSidedUptoRow : OpenClaim := { program := "ytdgegekjjnghmaa", sum := "475d8e763c51ac701f318da460cc5f95e1612770bda3a77d86d3460b1e76ee44", func := "loop.example/g01357/laws.FnExactTurnSided", spec := "fnExactTurnSided", unfollowed := true, recurses := true, plainKeys := false, apart := false, narrowed := true }
def FnExactTurnSidedUptoSaid : Prop := fnExactTurnSidedUptoRow.holds Try.pinned (OpenSpec.upto fnExactTurnSidedSpec)

/-- 'laws.FnExactChainSided', WHERE WHAT IT READS IS OF BULK AT MOST 1048576: true; the input reads as it did. -/
def fnExactChainSidedUptoRow : OpenClaim := { program := "ytdgegekjjnghmaa", sum := "475d8e763c51ac701f318da460cc5f95e1612770bda3a77d86d3460b1e76ee44", func := "loop.example/g01357/laws.FnExactChainSided", spec := "fnExactChainSided", unfollowed := true, recurses := true, plainKeys := false, apart := false, narrowed := true }
def FnExactChainSidedUptoSaid : Prop := fnExactChainSidedUptoRow.holds Try.pinned (OpenSpec.upto fnExactChainSidedSpec)

/-- 'laws.FnExactEitherSided', WHERE WHAT IT READS IS OF BULK AT MOST 1048576: true; the input reads as it did. -/
def fnExactEitherSidedUptoRow : OpenClaim := { program := "ytdgegekjjnghmaa", sum := "475d8e763c51ac701f318da460cc5f95e1612770bda3a77d86d3460b1e76ee44", func := "loop.example/g01357/laws.FnExactEitherSided", spec := "fnExactEitherSided", unfollowed := true, recurses := true, plainKeys := false, apart := false, narrowed := true }
def FnExactEitherSidedUptoSaid : Prop := fnExactEitherSidedUptoRow.holds Try.pinned (OpenSpec.upto fnExactEitherSidedSpec)

/-- 'laws.FnExactTransliterate', WHERE WHAT IT READS IS OF BULK AT MOST 1048576: true; the input reads as it did. -/
def fnExactTransliterateUptoRow : OpenClaim := { program := "ytdgegekjjnghmaa", sum := "475d8e763c51ac701f318da460cc5f95e1612770bda3a77d86d3460b1e76ee44", func := "loop.example/g01357/laws.FnExactTransliterate", spec := "fnExactTransliterate", unfollowed := true, recurses := true, plainKeys := false, apart := false, narrowed := true }
def FnExactTransliterateUptoSaid : Prop := fnExactTransliterateUptoRow.holds Try.pinned (OpenSpec.upto fnExactTransliterateSpec)

/-- 'laws.FnExactBackLiterate', WHERE WHAT IT READS IS OF BULK AT MOST 1048576: true; the input reads as it did. -/
def fnExactBackLiterateUptoRow : OpenClaim := { program := "ytdgegekjjnghmaa", sum := "475d8e763c51ac701f318da460cc5f95e1612770bda3a77d86d3460b1e76ee44", func := "loop.example/g01357/laws.FnExactBackLiterate", spec := "fnExactBackLiterate", unfollowed := true, recurses := true, plainKeys := false, apart := false, narrowed := true }
def FnExactBackLiterateUptoSaid : Prop := fnExactBackLiterateUptoRow.holds Try.pinned (OpenSpec.upto fnExactBackLiterateSpec)

/-- 'laws.FnExactSourcesOf', WHERE WHAT IT READS IS OF BULK AT MOST 1048576: true; the input reads as it did. -/
def fnExactSourcesOfUptoRow : OpenClaim := { program := "ytdgegekjjnghmaa", sum := "475d8e763c51ac701f318da460cc5f95e1612770bda3a77d86d3460b1e76ee44", func := "loop.example/g01357/laws.FnExactSourcesOf", spec := "fnExactSourcesOf", unfollowed := true, recurses := true, plainKeys := false, apart := false, narrowed := true }
def FnExactSourcesOfUptoSaid : Prop := fnExactSourcesOfUptoRow.holds Try.pinned (OpenSpec.upto fnExactSourcesOfSpec)

/-- 'laws.FnExactOrderWord', WHERE WHAT IT READS IS OF BULK AT MOST 1048576: true; the input reads as it did. -/
def fnExactOrderWordUptoRow : OpenClaim := { program := "ytdgegekjjnghmaa", sum := "475d8e763c51ac701f318da460cc5f95e1612770bda3a77d86d3460b1e76ee44", func := "loop.example/g01357/laws.FnExactOrderWord", spec := "fnExactOrderWord", unfollowed := true, recurses := true, plainKeys := false, apart := false, narrowed := true }
def FnExactOrderWordUptoSaid : Prop := fnExactOrderWordUptoRow.holds Try.pinned (OpenSpec.upto fnExactOrderWordSpec)

/-- 'laws.FnExactLoosePairs', WHERE WHAT IT READS IS OF BULK AT MOST 1048576: true; the input reads as it did. -/
def fnExactLoosePairsUptoRow : OpenClaim := { program := "ytdgegekjjnghmaa", sum := "475d8e763c51ac701f318da460cc5f95e1612770bda3a77d86d3460b1e76ee44", func := "loop.example/g01357/laws.FnExactLoosePairs", spec := "fnExactLoosePairs", unfollowed := true, recurses := true, plainKeys := false, apart := false, narrowed := true }
def FnExactLoosePairsUptoSaid : Prop := fnExactLoosePairsUptoRow.holds Try.pinned (OpenSpec.upto fnExactLoosePairsSpec)

end Rows
end Go.Proofs.Ytdgegekjjnghmaa
