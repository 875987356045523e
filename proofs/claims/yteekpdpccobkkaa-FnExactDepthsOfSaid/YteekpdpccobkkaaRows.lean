/-
  No cell of these rows narrows 'for every input' (looked for: loops, veiled, ifaces, maps, wideKeys, modest, calm, conditions, laid).
  DERIVED. THE GIVEN ROWS OF THIS SEAT. 12 by the template 'for every input the law returns true; each argument reads behind the call as it read before'; 0 by the template 'total and deterministic' (their statements: YteekpdpccobkkaaTotals.lean).
  GIVEN WITH THE SEED: the statements are not yours to turn. If you find one false, say at which input.
  Laid BY PROGRAM, IN A SANDBOX (cutbox-rows.mjs): the forced cells as the released guide's own fill.sh prints them over the translation f94926e8f3fa2415… (all of the seat's roots in one cut). By AI agents, Wed Nov 11 2026. No macro, syntax, notation, axiom, sorry.
-/
import Derived.Test.YteekpdpccobkkaaChecked
import GoSem.Claim
import GoSem.ClaimJoined
import GoSem.ClaimMapViews
import Derived.JoinedTies
import Derived.KernelRfl
namespace Go.Proofs.Yteekpdpccobkkaa
/- THE CELL 'sum', in the pinned program and in every row, IS THE sha256 OF THE DUMP (.gsa) THAT YteekpdpccobkkaaProg.lean LOADS. Nothing in Lean hashes anything: it is a label: what it is worth is what the hold of that sum in a sandbox is worth. -/
noncomputable def Try.pinned : Pinned := { name := "yteekpdpccobkkaa", sum := "f94926e8f3fa24151f7eab0e413b1ceba0aa529231c6d787283a581ba0c1d911", checked := Try.checked }
namespace Rows
def none {H : Type} : Left H := { results := [], args := [] }

/-- 'laws.FnExactValidGame': WHATEVER THE INPUT: true; the input reads as it did. -/
def fnExactValidGameSpec : ChangeSpec := { name := "fnExactValidGame", fn := fun _ => fun
  | [d] => { results := [.lit (.bool true)], args := [d] }
  | _ => none }
def fnExactValidGameRow : OpenClaim := { program := "yteekpdpccobkkaa", sum := "f94926e8f3fa24151f7eab0e413b1ceba0aa529231c6d787283a581ba0c1d911", func := "loop.example/g01357/laws.FnExactValidGame", spec := "fnExactValidGame", unfollowed := true, recurses := true, apart := false }
def FnExactValidGameSaid : Prop := fnExactValidGameRow.holds Try.pinned (OpenSpec.ofChange fnExactValidGameSpec)

/-- ITS FALSE NEIGHBOUR: 'it returns false'. Refute it at one input. -/
def fnExactValidGameWrong : ChangeSpec := { name := "fnExactValidGame", fn := fun _ => fun
  | [d] => { results := [.lit (.bool false)], args := [d] }
  | _ => none }
def FnExactValidGameWrongFalsely : Prop := fnExactValidGameRow.holds Try.pinned (OpenSpec.ofChange fnExactValidGameWrong)

/-- 'laws.FnExactSameGame': WHATEVER THE INPUT: true; the input reads as it did. -/
def fnExactSameGameSpec : ChangeSpec := { name := "fnExactSameGame", fn := fun _ => fun
  | [d1, d2] => { results := [.lit (.bool true)], args := [d1, d2] }
  | _ => none }
def fnExactSameGameRow : OpenClaim := { program := "yteekpdpccobkkaa", sum := "f94926e8f3fa24151f7eab0e413b1ceba0aa529231c6d787283a581ba0c1d911", func := "loop.example/g01357/laws.FnExactSameGame", spec := "fnExactSameGame", unfollowed := true, recurses := true, apart := false }
def FnExactSameGameSaid : Prop := fnExactSameGameRow.holds Try.pinned (OpenSpec.ofChange fnExactSameGameSpec)

/-- ITS FALSE NEIGHBOUR: 'it returns false'. Refute it at one input. -/
def fnExactSameGameWrong : ChangeSpec := { name := "fnExactSameGame", fn := fun _ => fun
  | [d1, d2] => { results := [.lit (.bool false)], args := [d1, d2] }
  | _ => none }
def FnExactSameGameWrongFalsely : Prop := fnExactSameGameRow.holds Try.pinned (OpenSpec.ofChange fnExactSameGameWrong)

/-- 'laws.FnExactTurnGame': WHATEVER THE INPUT: true; the input reads as it did. -/
def fnExactTurnGameSpec : ChangeSpec := { name := "fnExactTurnGame", fn := fun _ => fun
  | [d] => { results := [.lit (.bool true)], args := [d] }
  | _ => none }
def fnExactTurnGameRow : OpenClaim := { program := "yteekpdpccobkkaa", sum := "f94926e8f3fa24151f7eab0e413b1ceba0aa529231c6d787283a581ba0c1d911", func := "loop.example/g01357/laws.FnExactTurnGame", spec := "fnExactTurnGame", unfollowed := true, recurses := true, apart := false }
def FnExactTurnGameSaid : Prop := fnExactTurnGameRow.holds Try.pinned (OpenSpec.ofChange fnExactTurnGameSpec)

/-- ITS FALSE NEIGHBOUR: 'it returns false'. Refute it at one input. -/
def fnExactTurnGameWrong : ChangeSpec := { name := "fnExactTurnGame", fn := fun _ => fun
  | [d] => { results := [.lit (.bool false)], args := [d] }
  | _ => none }
def FnExactTurnGameWrongFalsely : Prop := fnExactTurnGameRow.holds Try.pinned (OpenSpec.ofChange fnExactTurnGameWrong)

/-- 'laws.FnExactReachOf': WHATEVER THE INPUT: true; the input reads as it did. -/
def fnExactReachOfSpec : ChangeSpec := { name := "fnExactReachOf", fn := fun _ => fun
  | [d1, d2, d3] => { results := [.lit (.bool true)], args := [d1, d2, d3] }
  | _ => none }
def fnExactReachOfRow : OpenClaim := { program := "yteekpdpccobkkaa", sum := "f94926e8f3fa24151f7eab0e413b1ceba0aa529231c6d787283a581ba0c1d911", func := "loop.example/g01357/laws.FnExactReachOf", spec := "fnExactReachOf", inPlace := ["maps.clone"], unfollowed := true, recurses := true, apart := false }
def FnExactReachOfSaid : Prop := fnExactReachOfRow.holds Try.pinned (OpenSpec.ofChange fnExactReachOfSpec)

/-- ITS FALSE NEIGHBOUR: 'it returns false'. Refute it at one input. -/
def fnExactReachOfWrong : ChangeSpec := { name := "fnExactReachOf", fn := fun _ => fun
  | [d1, d2, d3] => { results := [.lit (.bool false)], args := [d1, d2, d3] }
  | _ => none }
def FnExactReachOfWrongFalsely : Prop := fnExactReachOfRow.holds Try.pinned (OpenSpec.ofChange fnExactReachOfWrong)

/-- 'laws.FnExactSolveGame': WHATEVER THE INPUT: true; the input reads as it did. -/
def fnExactSolveGameSpec : ChangeSpec := { name := "fnExactSolveGame", fn := fun _ => fun
  | [d] => { results := [.lit (.bool true)], args := [d] }
  | _ => none }
def fnExactSolveGameRow : OpenClaim := { program := "yteekpdpccobkkaa", sum := "f94926e8f3fa24151f7eab0e413b1ceba0aa529231c6d787283a581ba0c1d911", func := "loop.example/g01357/laws.FnExactSolveGame", spec := "fnExactSolveGame", inPlace := ["maps.clone"], unfollowed := true, recurses := true, apart := false }
def FnExactSolveGameSaid : Prop := fnExactSolveGameRow.holds Try.pinned (OpenSpec.ofChange fnExactSolveGameSpec)

/-- ITS FALSE NEIGHBOUR: 'it returns false'. Refute it at one input. -/
def fnExactSolveGameWrong : ChangeSpec := { name := "fnExactSolveGame", fn := fun _ => fun
  | [d] => { results := [.lit (.bool false)], args := [d] }
  | _ => none }
def FnExactSolveGameWrongFalsely : Prop := fnExactSolveGameRow.holds Try.pinned (OpenSpec.ofChange fnExactSolveGameWrong)

/-- 'laws.FnExactMovesOfGame': WHATEVER THE INPUT: true; the input reads as it did. -/
def fnExactMovesOfGameSpec : ChangeSpec := { name := "fnExactMovesOfGame", fn := fun _ => fun
  | [d] => { results := [.lit (.bool true)], args := [d] }
  | _ => none }
def fnExactMovesOfGameRow : OpenClaim := { program := "yteekpdpccobkkaa", sum := "f94926e8f3fa24151f7eab0e413b1ceba0aa529231c6d787283a581ba0c1d911", func := "loop.example/g01357/laws.FnExactMovesOfGame", spec := "fnExactMovesOfGame", inPlace := ["maps.clone"], unfollowed := true, recurses := true, apart := false }
def FnExactMovesOfGameSaid : Prop := fnExactMovesOfGameRow.holds Try.pinned (OpenSpec.ofChange fnExactMovesOfGameSpec)

/-- ITS FALSE NEIGHBOUR: 'it returns false'. Refute it at one input. -/
def fnExactMovesOfGameWrong : ChangeSpec := { name := "fnExactMovesOfGame", fn := fun _ => fun
  | [d] => { results := [.lit (.bool false)], args := [d] }
  | _ => none }
def FnExactMovesOfGameWrongFalsely : Prop := fnExactMovesOfGameRow.holds Try.pinned (OpenSpec.ofChange fnExactMovesOfGameWrong)

/-- 'laws.FnExactIsWinning': WHATEVER THE INPUT: true; the input reads as it did. -/
def fnExactIsWinningSpec : ChangeSpec := { name := "fnExactIsWinning", fn := fun _ => fun
  | [d1, d2, d3] => { results := [.lit (.bool true)], args := [d1, d2, d3] }
  | _ => none }
def fnExactIsWinningRow : OpenClaim := { program := "yteekpdpccobkkaa", sum := "f94926e8f3fa24151f7eab0e413b1ceba0aa529231c6d787283a581ba0c1d911", func := "loop.example/g01357/laws.FnExactIsWinning", spec := "fnExactIsWinning", inPlace := ["maps.clone"], unfollowed := true, recurses := true, apart := false }
def FnExactIsWinningSaid : Prop := fnExactIsWinningRow.holds Try.pinned (OpenSpec.ofChange fnExactIsWinningSpec)

/-- ITS FALSE NEIGHBOUR: 'it returns false'. Refute it at one input. -/
def fnExactIsWinningWrong : ChangeSpec := { name := "fnExactIsWinning", fn := fun _ => fun
  | [d1, d2, d3] => { results := [.lit (.bool false)], args := [d1, d2, d3] }
  | _ => none }
def FnExactIsWinningWrongFalsely : Prop := fnExactIsWinningRow.holds Try.pinned (OpenSpec.ofChange fnExactIsWinningWrong)

/-- 'laws.FnExactPartnersOf': WHATEVER THE INPUT: true; the input reads as it did. -/
def fnExactPartnersOfSpec : ChangeSpec := { name := "fnExactPartnersOf", fn := fun _ => fun
  | [d1, d2] => { results := [.lit (.bool true)], args := [d1, d2] }
  | _ => none }
def fnExactPartnersOfRow : OpenClaim := { program := "yteekpdpccobkkaa", sum := "f94926e8f3fa24151f7eab0e413b1ceba0aa529231c6d787283a581ba0c1d911", func := "loop.example/g01357/laws.FnExactPartnersOf", spec := "fnExactPartnersOf", unfollowed := true, recurses := true, apart := false }
def FnExactPartnersOfSaid : Prop := fnExactPartnersOfRow.holds Try.pinned (OpenSpec.ofChange fnExactPartnersOfSpec)

/-- ITS FALSE NEIGHBOUR: 'it returns false'. Refute it at one input. -/
def fnExactPartnersOfWrong : ChangeSpec := { name := "fnExactPartnersOf", fn := fun _ => fun
  | [d1, d2] => { results := [.lit (.bool false)], args := [d1, d2] }
  | _ => none }
def FnExactPartnersOfWrongFalsely : Prop := fnExactPartnersOfRow.holds Try.pinned (OpenSpec.ofChange fnExactPartnersOfWrong)

/-- 'laws.FnExactDepthsOf': WHATEVER THE INPUT: true; the input reads as it did. -/
def fnExactDepthsOfSpec : ChangeSpec := { name := "fnExactDepthsOf", fn := fun _ => fun
  | [d1, d2] => { results := [.lit (.bool true)], args := [d1, d2] }
  | _ => none }
def fnExactDepthsOfRow : OpenClaim := { program := "yteekpdpccobkkaa", sum := "f94926e8f3fa24151f7eab0e413b1ceba0aa529231c6d787283a581ba0c1d911", func := "loop.example/g01357/laws.FnExactDepthsOf", spec := "fnExactDepthsOf", unfollowed := true, recurses := true, apart := false }
def FnExactDepthsOfSaid : Prop := fnExactDepthsOfRow.holds Try.pinned (OpenSpec.ofChange fnExactDepthsOfSpec)

/-- ITS FALSE NEIGHBOUR: 'it returns false'. Refute it at one input. -/
def fnExactDepthsOfWrong : ChangeSpec := { name := "fnExactDepthsOf", fn := fun _ => fun
  | [d1, d2] => { results := [.lit (.bool false)], args := [d1, d2] }
  | _ => none }
def FnExactDepthsOfWrongFalsely : Prop := fnExactDepthsOfRow.holds Try.pinned (OpenSpec.ofChange fnExactDepthsOfWrong)

/-- 'laws.FnExactStatesOfLoop': WHATEVER THE INPUT: true; the input reads as it did. -/
def fnExactStatesOfLoopSpec : ChangeSpec := { name := "fnExactStatesOfLoop", fn := fun _ => fun
  | [d1, d2] => { results := [.lit (.bool true)], args := [d1, d2] }
  | _ => none }
def fnExactStatesOfLoopRow : OpenClaim := { program := "yteekpdpccobkkaa", sum := "f94926e8f3fa24151f7eab0e413b1ceba0aa529231c6d787283a581ba0c1d911", func := "loop.example/g01357/laws.FnExactStatesOfLoop", spec := "fnExactStatesOfLoop", unfollowed := true, recurses := true, apart := false }
def FnExactStatesOfLoopSaid : Prop := fnExactStatesOfLoopRow.holds Try.pinned (OpenSpec.ofChange fnExactStatesOfLoopSpec)

/-- ITS FALSE NEIGHBOUR: 'it returns false'. Refute it at one input. -/
def fnExactStatesOfLoopWrong : ChangeSpec := { name := "fnExactStatesOfLoop", fn := fun _ => fun
  | [d1, d2] => { results := [.lit (.bool false)], args := [d1, d2] }
  | _ => none }
def FnExactStatesOfLoopWrongFalsely : Prop := fnExactStatesOfLoopRow.holds Try.pinned (OpenSpec.ofChange fnExactStatesOfLoopWrong)

/-- 'laws.FnExactReadsLoop': WHATEVER THE INPUT: true; the input reads as it did. -/
def fnExactReadsLoopSpec : ChangeSpec := { name := "fnExactReadsLoop", fn := fun _ => fun
  | [d1, d2] => { results := [.lit (.bool true)], args := [d1, d2] }
  | _ => none }
def fnExactReadsLoopRow : OpenClaim := { program := "yteekpdpccobkkaa", sum := "f94926e8f3fa24151f7eab0e413b1ceba0aa529231c6d787283a581ba0c1d911", func := "loop.example/g01357/laws.FnExactReadsLoop", spec := "fnExactReadsLoop", unfollowed := true, recurses := true, apart := false }
def FnExactReadsLoopSaid : Prop := fnExactReadsLoopRow.holds Try.pinned (OpenSpec.ofChange fnExactReadsLoopSpec)

/-- ITS FALSE NEIGHBOUR: 'it returns false'. Refute it at one input. -/
def fnExactReadsLoopWrong : ChangeSpec := { name := "fnExactReadsLoop", fn := fun _ => fun
  | [d1, d2] => { results := [.lit (.bool false)], args := [d1, d2] }
  | _ => none }
def FnExactReadsLoopWrongFalsely : Prop := fnExactReadsLoopRow.holds Try.pinned (OpenSpec.ofChange fnExactReadsLoopWrong)

/-- 'laws.FnExactFirstLoop': WHATEVER THE INPUT: true; the input reads as it did. -/
def fnExactFirstLoopSpec : ChangeSpec := { name := "fnExactFirstLoop", fn := fun _ => fun
  | [d1, d2] => { results := [.lit (.bool true)], args := [d1, d2] }
  | _ => none }
def fnExactFirstLoopRow : OpenClaim := { program := "yteekpdpccobkkaa", sum := "f94926e8f3fa24151f7eab0e413b1ceba0aa529231c6d787283a581ba0c1d911", func := "loop.example/g01357/laws.FnExactFirstLoop", spec := "fnExactFirstLoop", unfollowed := true, recurses := true, apart := false }
def FnExactFirstLoopSaid : Prop := fnExactFirstLoopRow.holds Try.pinned (OpenSpec.ofChange fnExactFirstLoopSpec)

/-- ITS FALSE NEIGHBOUR: 'it returns false'. Refute it at one input. -/
def fnExactFirstLoopWrong : ChangeSpec := { name := "fnExactFirstLoop", fn := fun _ => fun
  | [d1, d2] => { results := [.lit (.bool false)], args := [d1, d2] }
  | _ => none }
def FnExactFirstLoopWrongFalsely : Prop := fnExactFirstLoopRow.holds Try.pinned (OpenSpec.ofChange fnExactFirstLoopWrong)

/- THE SECOND FORM. 'bulk': how many values and letters a reading holds, each counted each time it is reached (what is shared counts as often as it is met; a slice's spare places count too). A statement '..UptoSaid' is the law's where the arguments, and the package variables that the reading takes, are together of bulk at most 1048576: NARROWER than '..Said'. Prove '..Said' where nothing that the law and all that it calls make is longer than what came in: it says more and counts as full. Else prove '..UptoSaid'. A law counts once. -/
mutual
def uptoBulk {H : Type} : DataW H → Nat
  | .lit (.string bytes) => bytes.length + 1
  | .lit _ => 1
  | .nil => 1
  | .ptr d => uptoBulk d + 1
  | .slice elems spare => uptoBulkAll elems + uptoBulkAll spare + 1
  | .agg parts => uptoBulkAll parts + 1
  | .iface _ d => uptoBulk d + 1
  | .map entries => uptoBulkEntries entries + 1
  | .held _ => 1
def uptoBulkAll {H : Type} : List (DataW H) → Nat
  | [] => 0
  | d :: r => uptoBulk d + uptoBulkAll r
def uptoBulkEntries {H : Type} : List (Lit × DataW H) → Nat
  | [] => 0
  | x :: r => uptoBulkEntry x + uptoBulkEntries r
def uptoBulkEntry {H : Type} : Lit × DataW H → Nat
  | (.string bytes, d) => bytes.length + uptoBulk d + 1
  | (_, d) => uptoBulk d + 1
 end
def uptoSmall : (H : Type) → List (DataW H) → Bool := fun _ ds => decide (uptoBulkAll ds ≤ 1048576)
def OpenSpec.upto (s : _root_.Go.ChangeSpec) : _root_.Go.OpenSpec := { _root_.Go.OpenSpec.ofChange s with cond := some uptoSmall }

/-- 'laws.FnExactValidGame', WHERE WHAT IT READS IS OF BULK AT MOST 1048576: true; the input reads as it did. -/
def fnExactValidGameUptoRow : OpenClaim := { program := "yteekpdpccobkkaa", sum := "f94926e8f3fa24151f7eab0e413b1ceba0aa529231c6d787283a581ba0c1d911", func := "loop.example/g01357/laws.FnExactValidGame", spec := "fnExactValidGame", unfollowed := true, recurses := true, apart := false, narrowed := true }
def FnExactValidGameUptoSaid : Prop := fnExactValidGameUptoRow.holds Try.pinned (OpenSpec.upto fnExactValidGameSpec)

/-- 'laws.FnExactSameGame', WHERE WHAT IT READS IS OF BULK AT MOST 1048576: true; the input reads as it did. -/
def fnExactSameGameUptoRow : OpenClaim := { program := "yteekpdpccobkkaa", sum := "f94926e8f3fa24151f7eab0e413b1ceba0aa529231c6d787283a581ba0c1d911", func := "loop.example/g01357/laws.FnExactSameGame", spec := "fnExactSameGame", unfollowed := true, recurses := true, apart := false, narrowed := true }
def FnExactSameGameUptoSaid : Prop := fnExactSameGameUptoRow.holds Try.pinned (OpenSpec.upto fnExactSameGameSpec)

/-- 'laws.FnExactTurnGame', WHERE WHAT IT READS IS OF BULK AT MOST 1048576: true; the input reads as it did. -/
def fnExactTurnGameUptoRow : OpenClaim := { program := "yteekpdpccobkkaa", sum := "f94926e8f3fa24151f7eab0e413b1ceba0aa529231c6d787283a581ba0c1d911", func := "loop.example/g01357/laws.FnExactTurnGame", spec := "fnExactTurnGame", unfollowed := true, recurses := true, apart := false, narrowed := true }
def FnExactTurnGameUptoSaid : Prop := fnExactTurnGameUptoRow.holds Try.pinned (OpenSpec.upto fnExactTurnGameSpec)

/-- 'laws.FnExactReachOf', WHERE WHAT IT READS IS OF BULK AT MOST 1048576: true; the input reads as it did. -/
def fnExactReachOfUptoRow : OpenClaim := { program := "yteekpdpccobkkaa", sum := "f94926e8f3fa24151f7eab0e413b1ceba0aa529231c6d787283a581ba0c1d911", func := "loop.example/g01357/laws.FnExactReachOf", spec := "fnExactReachOf", inPlace := ["maps.clone"], unfollowed := true, recurses := true, apart := false, narrowed := true }
def FnExactReachOfUptoSaid : Prop := fnExactReachOfUptoRow.holds Try.pinned (OpenSpec.upto fnExactReachOfSpec)

/-- 'laws.FnExactSolveGame', WHERE WHAT IT READS IS OF BULK AT MOST 1048576: true; the input reads as it did. -/
def fnExactSolveGameUptoRow : OpenClaim := { program := "yteekpdpccobkkaa", sum := "f94926e8f3fa24151f7eab0e413b1ceba0aa529231c6d787283a581ba0c1d911", func := "loop.example/g01357/laws.FnExactSolveGame", spec := "fnExactSolveGame", inPlace := ["maps.clone"], unfollowed := true, recurses := true, apart := false, narrowed := true }
def FnExactSolveGameUptoSaid : Prop := fnExactSolveGameUptoRow.holds Try.pinned (OpenSpec.upto fnExactSolveGameSpec)

/-- 'laws.FnExactMovesOfGame', WHERE WHAT IT READS IS OF BULK AT MOST 1048576: true; the input reads as it did. -/
def fnExactMovesOfGameUptoRow : OpenClaim := { program := "yteekpdpccobkkaa", sum := "f94926e8f3fa24151f7eab0e413b1ceba0aa529231c6d787283a581ba0c1d911", func := "loop.example/g01357/laws.FnExactMovesOfGame", spec := "fnExactMovesOfGame", inPlace := ["maps.clone"], unfollowed := true, recurses := true, apart := false, narrowed := true }
def FnExactMovesOfGameUptoSaid : Prop := fnExactMovesOfGameUptoRow.holds Try.pinned (OpenSpec.upto fnExactMovesOfGameSpec)

/-- 'laws.FnExactIsWinning', WHERE WHAT IT READS IS OF BULK AT MOST 1048576: true; the input reads as it did. -/
def fnExactIsWinningUptoRow : OpenClaim := { program := "yteekpdpccobkkaa", sum := "f94926e8f3fa24151f7eab0e413b1ceba0aa529231c6d787283a581ba0c1d911", func := "loop.example/g01357/laws.FnExactIsWinning", spec := "fnExactIsWinning", inPlace := ["maps.clone"], unfollowed := true, recurses := true, apart := false, narrowed := true }
def FnExactIsWinningUptoSaid : Prop := fnExactIsWinningUptoRow.holds Try.pinned (OpenSpec.upto fnExactIsWinningSpec)

/-- 'laws.FnExactPartnersOf', WHERE WHAT IT READS IS OF BULK AT MOST 1048576: true; the input reads as it did. -/
def fnExactPartnersOfUptoRow : OpenClaim := { program := "yteekpdpccobkkaa", sum := "f94926e8f3fa24151f7eab0e413b1ceba0aa529231c6d787283a581ba0c1d911", func := "loop.example/g01357/laws.FnExactPartnersOf", spec := "fnExactPartnersOf", unfollowed := true, recurses := true, apart := false, narrowed := true }
def FnExactPartnersOfUptoSaid : Prop := fnExactPartnersOfUptoRow.holds Try.pinned (OpenSpec.upto fnExactPartnersOfSpec)

/-- 'laws.FnExactDepthsOf', WHERE WHAT IT READS IS OF BULK AT MOST 1048576: true; the input reads as it did. -/
def fnExactDepthsOfUptoRow : OpenClaim := { program := "yteekpdpccobkkaa", sum := "f94926e8f3fa24151f7eab0e413b1ceba0aa529231c6d787283a581ba0c1d911", func := "loop.example/g01357/laws.FnExactDepthsOf", spec := "fnExactDepthsOf", unfollowed := true, recurses := true, apart := false, narrowed := true }
def FnExactDepthsOfUptoSaid : Prop := fnExactDepthsOfUptoRow.holds Try.pinned (OpenSpec.upto fnExactDepthsOfSpec)

/-- 'laws.FnExactStatesOfLoop', WHERE WHAT IT READS IS OF BULK AT MOST 1048576: true; the input reads as it did. -/
def fnExactStatesOfLoopUptoRow : OpenClaim := { program := "yteekpdpccobkkaa", sum := "f94926e8f3fa24151f7eab0e413b1ceba0aa529231c6d787283a581ba0c1d911", func := "loop.example/g01357/laws.FnExactStatesOfLoop", spec := "fnExactStatesOfLoop", unfollowed := true, recurses := true, apart := false, narrowed := true }
def FnExactStatesOfLoopUptoSaid : Prop := fnExactStatesOfLoopUptoRow.holds Try.pinned (OpenSpec.upto fnExactStatesOfLoopSpec)

/-- 'laws.FnExactReadsLoop', WHERE WHAT IT READS IS OF BULK AT MOST 1048576: true; the input reads as it did. -/
def fnExactReadsLoopUptoRow : OpenClaim := { program := "yteekpdpccobkkaa", sum := "f94926e8f3fa24151f7eab0e413b1ceba0aa529231c6d787283a581ba0c1d911", func := "loop.example/g01357/laws.FnExactReadsLoop", spec := "fnExactReadsLoop", unfollowed := true, recurses := true, apart := false, narrowed := true }
def FnExactReadsLoopUptoSaid : Prop := fnExactReadsLoopUptoRow.holds Try.pinned (OpenSpec.upto fnExactReadsLoopSpec)

/-- 'laws.FnExactFirstLoop', WHERE WHAT IT READS IS OF BULK AT MOST 1048576: true; the input reads as it did. -/
def fnExactFirstLoopUptoRow : OpenClaim := { program := "yteekpdpccobkkaa", sum := "f94926e8f3fa24151f7eab0e413b1ceba0aa529231c6d787283a581ba0c1d911", func := "loop.example/g01357/laws.FnExactFirstLoop", spec := "fnExactFirstLoop", unfollowed := true, recurses := true, apart := false, narrowed := true }
def FnExactFirstLoopUptoSaid : Prop := fnExactFirstLoopUptoRow.holds Try.pinned (OpenSpec.upto fnExactFirstLoopSpec)

end Rows
end Go.Proofs.Yteekpdpccobkkaa
