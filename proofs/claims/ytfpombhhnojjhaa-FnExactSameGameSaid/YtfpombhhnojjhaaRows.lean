/-
  No cell of these rows narrows 'for every input' (looked for: loops, veiled, ifaces, maps, wideKeys, modest, calm, conditions, laid).
  DERIVED. THE GIVEN ROWS OF THIS SEAT. 12 by the template 'for every input the law returns true; each argument reads behind the call as it read before'; 0 by the template 'total and deterministic' (their statements: YtfpombhhnojjhaaTotals.lean).
  GIVEN WITH THE SEED: the statements are not yours to turn. If you find one false, say at which input.
  Laid BY PROGRAM, IN A SANDBOX (cutbox-rows.mjs): the forced cells as the released guide's own fill.sh prints them over the translation c0f243d6fe74c60e… (all of the seat's roots in one cut). By AI agents, Wed Nov 11 2026. No macro, syntax, notation, axiom, sorry.
-/
import Derived.Test.YtfpombhhnojjhaaChecked
import GoSem.Claim
import GoSem.ClaimJoined
import GoSem.ClaimMapViews
import Derived.JoinedTies
import Derived.KernelRfl
namespace Go.Proofs.Ytfpombhhnojjhaa
/- THE CELL 'sum', in the pinned program and in every row, IS THE sha256 OF THE DUMP (.gsa) THAT YtfpombhhnojjhaaProg.lean LOADS. Nothing in Lean hashes anything: it is a label: what it is worth is what the hold of that sum in a sandbox is worth. -/
noncomputable def Try.pinned : Pinned := { name := "ytfpombhhnojjhaa", sum := "c0f243d6fe74c60e3ed42a1f7af772975dde93d6dbc6ce9e8b23dd96cc440a46", checked := Try.checked }
namespace Rows
def none {H : Type} : Left H := { results := [], args := [] }

/-- 'laws.FnExactNormalLoop': WHATEVER THE INPUT: true; the input reads as it did. -/
def fnExactNormalLoopSpec : ChangeSpec := { name := "fnExactNormalLoop", fn := fun _ => fun
  | [d1, d2] => { results := [.lit (.bool true)], args := [d1, d2] }
  | _ => none }
def fnExactNormalLoopRow : OpenClaim := { program := "ytfpombhhnojjhaa", sum := "c0f243d6fe74c60e3ed42a1f7af772975dde93d6dbc6ce9e8b23dd96cc440a46", func := "loop.example/g01357/laws.FnExactNormalLoop", spec := "fnExactNormalLoop", apart := false }
def FnExactNormalLoopSaid : Prop := fnExactNormalLoopRow.holds Try.pinned (OpenSpec.ofChange fnExactNormalLoopSpec)

/-- ITS FALSE NEIGHBOUR: 'it returns false'. Refute it at one input. -/
def fnExactNormalLoopWrong : ChangeSpec := { name := "fnExactNormalLoop", fn := fun _ => fun
  | [d1, d2] => { results := [.lit (.bool false)], args := [d1, d2] }
  | _ => none }
def FnExactNormalLoopWrongFalsely : Prop := fnExactNormalLoopRow.holds Try.pinned (OpenSpec.ofChange fnExactNormalLoopWrong)

/-- 'laws.FnExactMeetZone': WHATEVER THE INPUT: true; the input reads as it did. -/
def fnExactMeetZoneSpec : ChangeSpec := { name := "fnExactMeetZone", fn := fun _ => fun
  | [d1, d2] => { results := [.lit (.bool true)], args := [d1, d2] }
  | _ => none }
def fnExactMeetZoneRow : OpenClaim := { program := "ytfpombhhnojjhaa", sum := "c0f243d6fe74c60e3ed42a1f7af772975dde93d6dbc6ce9e8b23dd96cc440a46", func := "loop.example/g01357/laws.FnExactMeetZone", spec := "fnExactMeetZone", unfollowed := true, recurses := true, apart := false }
def FnExactMeetZoneSaid : Prop := fnExactMeetZoneRow.holds Try.pinned (OpenSpec.ofChange fnExactMeetZoneSpec)

/-- ITS FALSE NEIGHBOUR: 'it returns false'. Refute it at one input. -/
def fnExactMeetZoneWrong : ChangeSpec := { name := "fnExactMeetZone", fn := fun _ => fun
  | [d1, d2] => { results := [.lit (.bool false)], args := [d1, d2] }
  | _ => none }
def FnExactMeetZoneWrongFalsely : Prop := fnExactMeetZoneRow.holds Try.pinned (OpenSpec.ofChange fnExactMeetZoneWrong)

/-- 'laws.FnExactValidGame': WHATEVER THE INPUT: true; the input reads as it did. -/
def fnExactValidGameSpec : ChangeSpec := { name := "fnExactValidGame", fn := fun _ => fun
  | [d] => { results := [.lit (.bool true)], args := [d] }
  | _ => none }
def fnExactValidGameRow : OpenClaim := { program := "ytfpombhhnojjhaa", sum := "c0f243d6fe74c60e3ed42a1f7af772975dde93d6dbc6ce9e8b23dd96cc440a46", func := "loop.example/g01357/laws.FnExactValidGame", spec := "fnExactValidGame", unfollowed := true, recurses := true, apart := false }
def FnExactValidGameSaid : Prop := fnExactValidGameRow.holds Try.pinned (OpenSpec.ofChange fnExactValidGameSpec)

/-- ITS FALSE NEIGHBOUR: 'it returns false'. Refute it at one input. -/
def fnExactValidGameWrong : ChangeSpec := { name := "fnExactValidGame", fn := fun _ => fun
  | [d] => { results := [.lit (.bool false)], args := [d] }
  | _ => none }
def FnExactValidGameWrongFalsely : Prop := fnExactValidGameRow.holds Try.pinned (OpenSpec.ofChange fnExactValidGameWrong)

/-- 'laws.FnExactSameGame': WHATEVER THE INPUT: true; the input reads as it did. -/
def fnExactSameGameSpec : ChangeSpec := { name := "fnExactSameGame", fn := fun _ => fun
  | [d1, d2] => { results := [.lit (.bool true)], args := [d1, d2] }
  | _ => none }
def fnExactSameGameRow : OpenClaim := { program := "ytfpombhhnojjhaa", sum := "c0f243d6fe74c60e3ed42a1f7af772975dde93d6dbc6ce9e8b23dd96cc440a46", func := "loop.example/g01357/laws.FnExactSameGame", spec := "fnExactSameGame", unfollowed := true, recurses := true, apart := false }
def FnExactSameGameSaid : Prop := fnExactSameGameRow.holds Try.pinned (OpenSpec.ofChange fnExactSameGameSpec)

/-- ITS FALSE NEIGHBOUR: 'it returns false'. Refute it at one input. -/
def fnExactSameGameWrong : ChangeSpec := { name := "fnExactSameGame", fn := fun _ => fun
  | [d1, d2] => { results := [.lit (.bool false)], args := [d1, d2] }
  | _ => none }
def FnExactSameGameWrongFalsely : Prop := fnExactSameGameRow.holds Try.pinned (OpenSpec.ofChange fnExactSameGameWrong)

/-- 'laws.FnExactTurnGame': WHATEVER THE INPUT: true; the input reads as it did. -/
def fnExactTurnGameSpec : ChangeSpec := { name := "fnExactTurnGame", fn := fun _ => fun
  | [d] => { results := [.lit (.bool true)], args := [d] }
  | _ => none }
def fnExactTurnGameRow : OpenClaim := { program := "ytfpombhhnojjhaa", sum := "c0f243d6fe74c60e3ed42a1f7af772975dde93d6dbc6ce9e8b23dd96cc440a46", func := "loop.example/g01357/laws.FnExactTurnGame", spec := "fnExactTurnGame", unfollowed := true, recurses := true, apart := false }
def FnExactTurnGameSaid : Prop := fnExactTurnGameRow.holds Try.pinned (OpenSpec.ofChange fnExactTurnGameSpec)

/-- ITS FALSE NEIGHBOUR: 'it returns false'. Refute it at one input. -/
def fnExactTurnGameWrong : ChangeSpec := { name := "fnExactTurnGame", fn := fun _ => fun
  | [d] => { results := [.lit (.bool false)], args := [d] }
  | _ => none }
def FnExactTurnGameWrongFalsely : Prop := fnExactTurnGameRow.holds Try.pinned (OpenSpec.ofChange fnExactTurnGameWrong)

/-- 'laws.FnExactValidKept': WHATEVER THE INPUT: true; the input reads as it did. -/
def fnExactValidKeptSpec : ChangeSpec := { name := "fnExactValidKept", fn := fun _ => fun
  | [d] => { results := [.lit (.bool true)], args := [d] }
  | _ => none }
def fnExactValidKeptRow : OpenClaim := { program := "ytfpombhhnojjhaa", sum := "c0f243d6fe74c60e3ed42a1f7af772975dde93d6dbc6ce9e8b23dd96cc440a46", func := "loop.example/g01357/laws.FnExactValidKept", spec := "fnExactValidKept", apart := false }
def FnExactValidKeptSaid : Prop := fnExactValidKeptRow.holds Try.pinned (OpenSpec.ofChange fnExactValidKeptSpec)

/-- ITS FALSE NEIGHBOUR: 'it returns false'. Refute it at one input. -/
def fnExactValidKeptWrong : ChangeSpec := { name := "fnExactValidKept", fn := fun _ => fun
  | [d] => { results := [.lit (.bool false)], args := [d] }
  | _ => none }
def FnExactValidKeptWrongFalsely : Prop := fnExactValidKeptRow.holds Try.pinned (OpenSpec.ofChange fnExactValidKeptWrong)

/-- 'laws.FnExactSameKept': WHATEVER THE INPUT: true; the input reads as it did. -/
def fnExactSameKeptSpec : ChangeSpec := { name := "fnExactSameKept", fn := fun _ => fun
  | [d1, d2] => { results := [.lit (.bool true)], args := [d1, d2] }
  | _ => none }
def fnExactSameKeptRow : OpenClaim := { program := "ytfpombhhnojjhaa", sum := "c0f243d6fe74c60e3ed42a1f7af772975dde93d6dbc6ce9e8b23dd96cc440a46", func := "loop.example/g01357/laws.FnExactSameKept", spec := "fnExactSameKept", unfollowed := true, recurses := true, apart := false }
def FnExactSameKeptSaid : Prop := fnExactSameKeptRow.holds Try.pinned (OpenSpec.ofChange fnExactSameKeptSpec)

/-- ITS FALSE NEIGHBOUR: 'it returns false'. Refute it at one input. -/
def fnExactSameKeptWrong : ChangeSpec := { name := "fnExactSameKept", fn := fun _ => fun
  | [d1, d2] => { results := [.lit (.bool false)], args := [d1, d2] }
  | _ => none }
def FnExactSameKeptWrongFalsely : Prop := fnExactSameKeptRow.holds Try.pinned (OpenSpec.ofChange fnExactSameKeptWrong)

/-- 'laws.FnExactStoreKept': WHATEVER THE INPUT: true; the input reads as it did. -/
def fnExactStoreKeptSpec : ChangeSpec := { name := "fnExactStoreKept", fn := fun _ => fun
  | [d] => { results := [.lit (.bool true)], args := [d] }
  | _ => none }
def fnExactStoreKeptRow : OpenClaim := { program := "ytfpombhhnojjhaa", sum := "c0f243d6fe74c60e3ed42a1f7af772975dde93d6dbc6ce9e8b23dd96cc440a46", func := "loop.example/g01357/laws.FnExactStoreKept", spec := "fnExactStoreKept", apart := false }
def FnExactStoreKeptSaid : Prop := fnExactStoreKeptRow.holds Try.pinned (OpenSpec.ofChange fnExactStoreKeptSpec)

/-- ITS FALSE NEIGHBOUR: 'it returns false'. Refute it at one input. -/
def fnExactStoreKeptWrong : ChangeSpec := { name := "fnExactStoreKept", fn := fun _ => fun
  | [d] => { results := [.lit (.bool false)], args := [d] }
  | _ => none }
def FnExactStoreKeptWrongFalsely : Prop := fnExactStoreKeptRow.holds Try.pinned (OpenSpec.ofChange fnExactStoreKeptWrong)

/-- 'laws.FnExactStoreKepts': WHATEVER THE INPUT: true; the input reads as it did. -/
def fnExactStoreKeptsSpec : ChangeSpec := { name := "fnExactStoreKepts", fn := fun _ => fun
  | [d] => { results := [.lit (.bool true)], args := [d] }
  | _ => none }
def fnExactStoreKeptsRow : OpenClaim := { program := "ytfpombhhnojjhaa", sum := "c0f243d6fe74c60e3ed42a1f7af772975dde93d6dbc6ce9e8b23dd96cc440a46", func := "loop.example/g01357/laws.FnExactStoreKepts", spec := "fnExactStoreKepts", apart := false }
def FnExactStoreKeptsSaid : Prop := fnExactStoreKeptsRow.holds Try.pinned (OpenSpec.ofChange fnExactStoreKeptsSpec)

/-- ITS FALSE NEIGHBOUR: 'it returns false'. Refute it at one input. -/
def fnExactStoreKeptsWrong : ChangeSpec := { name := "fnExactStoreKepts", fn := fun _ => fun
  | [d] => { results := [.lit (.bool false)], args := [d] }
  | _ => none }
def FnExactStoreKeptsWrongFalsely : Prop := fnExactStoreKeptsRow.holds Try.pinned (OpenSpec.ofChange fnExactStoreKeptsWrong)

/-- 'laws.FnCalls': WHATEVER THE INPUT: true; the input reads as it did. -/
def fnCallsSpec : ChangeSpec := { name := "fnCalls", fn := fun _ => fun
  | [d1, d2] => { results := [.lit (.bool true)], args := [d1, d2] }
  | _ => none }
def fnCallsRow : OpenClaim := { program := "ytfpombhhnojjhaa", sum := "c0f243d6fe74c60e3ed42a1f7af772975dde93d6dbc6ce9e8b23dd96cc440a46", func := "loop.example/g01357/laws.FnCalls", spec := "fnCalls", unfollowed := true, recurses := true, apart := false }
def FnCallsSaid : Prop := fnCallsRow.holds Try.pinned (OpenSpec.ofChange fnCallsSpec)

/-- ITS FALSE NEIGHBOUR: 'it returns false'. Refute it at one input. -/
def fnCallsWrong : ChangeSpec := { name := "fnCalls", fn := fun _ => fun
  | [d1, d2] => { results := [.lit (.bool false)], args := [d1, d2] }
  | _ => none }
def FnCallsWrongFalsely : Prop := fnCallsRow.holds Try.pinned (OpenSpec.ofChange fnCallsWrong)

/-- 'laws.FnZones': WHATEVER THE INPUT: true; the input reads as it did. -/
def fnZonesSpec : ChangeSpec := { name := "fnZones", fn := fun _ => fun
  | [d1, d2] => { results := [.lit (.bool true)], args := [d1, d2] }
  | _ => none }
def fnZonesRow : OpenClaim := { program := "ytfpombhhnojjhaa", sum := "c0f243d6fe74c60e3ed42a1f7af772975dde93d6dbc6ce9e8b23dd96cc440a46", func := "loop.example/g01357/laws.FnZones", spec := "fnZones", unfollowed := true, recurses := true, apart := false }
def FnZonesSaid : Prop := fnZonesRow.holds Try.pinned (OpenSpec.ofChange fnZonesSpec)

/-- ITS FALSE NEIGHBOUR: 'it returns false'. Refute it at one input. -/
def fnZonesWrong : ChangeSpec := { name := "fnZones", fn := fun _ => fun
  | [d1, d2] => { results := [.lit (.bool false)], args := [d1, d2] }
  | _ => none }
def FnZonesWrongFalsely : Prop := fnZonesRow.holds Try.pinned (OpenSpec.ofChange fnZonesWrong)

/-- 'laws.FnLoops': WHATEVER THE INPUT: true; the input reads as it did. -/
def fnLoopsSpec : ChangeSpec := { name := "fnLoops", fn := fun _ => fun
  | [d1, d2] => { results := [.lit (.bool true)], args := [d1, d2] }
  | _ => none }
def fnLoopsRow : OpenClaim := { program := "ytfpombhhnojjhaa", sum := "c0f243d6fe74c60e3ed42a1f7af772975dde93d6dbc6ce9e8b23dd96cc440a46", func := "loop.example/g01357/laws.FnLoops", spec := "fnLoops", unfollowed := true, recurses := true, apart := false }
def FnLoopsSaid : Prop := fnLoopsRow.holds Try.pinned (OpenSpec.ofChange fnLoopsSpec)

/-- ITS FALSE NEIGHBOUR: 'it returns false'. Refute it at one input. -/
def fnLoopsWrong : ChangeSpec := { name := "fnLoops", fn := fun _ => fun
  | [d1, d2] => { results := [.lit (.bool false)], args := [d1, d2] }
  | _ => none }
def FnLoopsWrongFalsely : Prop := fnLoopsRow.holds Try.pinned (OpenSpec.ofChange fnLoopsWrong)

/- THE SECOND FORM. 'bulk': how many values and letters a reading holds, each counted each time it is reached (what is shared counts as often as it is met; a slice's spare places count too). A statement '..UptoSaid' is the law's where the arguments, and the package variables that the reading takes, are together of bulk at most 1048576: NARROWER than '..Said'. Prove '..Said' where nothing that the law and all that it calls make is longer than what came in: it says more and counts as full. Else prove '..UptoSaid'. A law counts once. -/
mutual
def uptoBulk {H : Type} : DataW H → Nat
  | .lit (.string bytes) => bytes.length + 1
  | .lit _ => 1
  | .nil => 1
  | .ptr d => uptoBulk d + 1
  | .slice elems spare => uptoBulkAll elems + uptoBulkAll spare + 1
  | .agg parts => uptoBulkAll parts + 1
  | .iface _ d => uptoBulk d + 1
  | .map entries => uptoBulkEntries entries + 1
  | .held _ => 1
def uptoBulkAll {H : Type} : List (DataW H) → Nat
  | [] => 0
  | d :: r => uptoBulk d + uptoBulkAll r
def uptoBulkEntries {H : Type} : List (Lit × DataW H) → Nat
  | [] => 0
  | x :: r => uptoBulkEntry x + uptoBulkEntries r
def uptoBulkEntry {H : Type} : Lit × DataW H → Nat
  | (.string bytes, d) => bytes.length + uptoBulk d + 1
  | (_, d) => uptoBulk d + 1
 end
def uptoSmall : (H : Type) → List (DataW H) → Bool := fun _ ds => decide (uptoBulkAll ds ≤ 1048576)
def OpenSpec.upto (s : _root_.Go.ChangeSpec) : _root_.Go.OpenSpec := { _root_.Go.OpenSpec.ofChange s with cond := some uptoSmall }

/-- 'laws.FnExactNormalLoop', WHERE WHAT IT READS IS OF BULK AT MOST 1048576: true; the input reads as it did. -/
def fnExactNormalLoopUptoRow : OpenClaim := { program := "ytfpombhhnojjhaa", sum := "c0f243d6fe74c60e3ed42a1f7af772975dde93d6dbc6ce9e8b23dd96cc440a46", func := "loop.example/g01357/laws.FnExactNormalLoop", spec := "fnExactNormalLoop", apart := false, narrowed := true }
def FnExactNormalLoopUptoSaid : Prop := fnExactNormalLoopUptoRow.holds Try.pinned (OpenSpec.upto fnExactNormalLoopSpec)

/-- 'laws.FnExactMeetZone', WHERE WHAT IT READS IS OF BULK AT MOST 1048576: true; the input reads as it did. -/
def fnExactMeetZoneUptoRow : OpenClaim := { program := "ytfpombhhnojjhaa", sum := "c0f243d6fe74c60e3ed42a1f7af772975dde93d6dbc6ce9e8b23dd96cc440a46", func := "loop.example/g01357/laws.FnExactMeetZone", spec := "fnExactMeetZone", unfollowed := true, recurses := true, apart := false, narrowed := true }
def FnExactMeetZoneUptoSaid : Prop := fnExactMeetZoneUptoRow.holds Try.pinned (OpenSpec.upto fnExactMeetZoneSpec)

/-- 'laws.FnExactValidGame', WHERE WHAT IT READS IS OF BULK AT MOST 1048576: true; the input reads as it did. -/
def fnExactValidGameUptoRow : OpenClaim := { program := "ytfpombhhnojjhaa", sum := "c0f243d6fe74c60e3ed42a1f7af772975dde93d6dbc6ce9e8b23dd96cc440a46", func := "loop.example/g01357/laws.FnExactValidGame", spec := "fnExactValidGame", unfollowed := true, recurses := true, apart := false, narrowed := true }
def FnExactValidGameUptoSaid : Prop := fnExactValidGameUptoRow.holds Try.pinned (OpenSpec.upto fnExactValidGameSpec)

/-- 'laws.FnExactSameGame', WHERE WHAT IT READS IS OF BULK AT MOST 1048576: true; the input reads as it did. -/
def fnExactSameGameUptoRow : OpenClaim := { program := "ytfpombhhnojjhaa", sum := "c0f243d6fe74c60e3ed42a1f7af772975dde93d6dbc6ce9e8b23dd96cc440a46", func := "loop.example/g01357/laws.FnExactSameGame", spec := "fnExactSameGame", unfollowed := true, recurses := true, apart := false, narrowed := true }
def FnExactSameGameUptoSaid : Prop := fnExactSameGameUptoRow.holds Try.pinned (OpenSpec.upto fnExactSameGameSpec)

/-- 'laws.FnExactTurnGame', WHERE WHAT IT READS IS OF BULK AT MOST 1048576: true; the input reads as it did. -/
def fnExactTurnGameUptoRow : OpenClaim := { program := "ytfpombhhnojjhaa", sum := "c0f243d6fe74c60e3ed42a1f7af772975dde93d6dbc6ce9e8b23dd96cc440a46", func := "loop.example/g01357/laws.FnExactTurnGame", spec := "fnExactTurnGame", unfollowed := true, recurses := true, apart := false, narrowed := true }
def FnExactTurnGameUptoSaid : Prop := fnExactTurnGameUptoRow.holds Try.pinned (OpenSpec.upto fnExactTurnGameSpec)

/-- 'laws.FnExactValidKept', WHERE WHAT IT READS IS OF BULK AT MOST 1048576: true; the input reads as it did. -/
def fnExactValidKeptUptoRow : OpenClaim := { program := "ytfpombhhnojjhaa", sum := "c0f243d6fe74c60e3ed42a1f7af772975dde93d6dbc6ce9e8b23dd96cc440a46", func := "loop.example/g01357/laws.FnExactValidKept", spec := "fnExactValidKept", apart := false, narrowed := true }
def FnExactValidKeptUptoSaid : Prop := fnExactValidKeptUptoRow.holds Try.pinned (OpenSpec.upto fnExactValidKeptSpec)

/-- 'laws.FnExactSameKept', WHERE WHAT IT READS IS OF BULK AT MOST 1048576: true; the input reads as it did. -/
def fnExactSameKeptUptoRow : OpenClaim := { program := "ytfpombhhnojjhaa", sum := "c0f243d6fe74c60e3ed42a1f7af772975dde93d6dbc6ce9e8b23dd96cc440a46", func := "loop.example/g01357/laws.FnExactSameKept", spec := "fnExactSameKept", unfollowed := true, recurses := true, apart := false, narrowed := true }
def FnExactSameKeptUptoSaid : Prop := fnExactSameKeptUptoRow.holds Try.pinned (OpenSpec.upto fnExactSameKeptSpec)

/-- 'laws.FnExactStoreKept', WHERE WHAT IT READS IS OF BULK AT MOST 1048576: true; the input reads as it did. -/
def fnExactStoreKeptUptoRow : OpenClaim := { program := "ytfpombhhnojjhaa", sum := "c0f243d6fe74c60e3ed42a1f7af772975dde93d6dbc6ce9e8b23dd96cc440a46", func := "loop.example/g01357/laws.FnExactStoreKept", spec := "fnExactStoreKept", apart := false, narrowed := true }
def FnExactStoreKeptUptoSaid : Prop := fnExactStoreKeptUptoRow.holds Try.pinned (OpenSpec.upto fnExactStoreKeptSpec)

/-- 'laws.FnExactStoreKepts', WHERE WHAT IT READS IS OF BULK AT MOST 1048576: true; the input reads as it did. -/
def fnExactStoreKeptsUptoRow : OpenClaim := { program := "ytfpombhhnojjhaa", sum := "c0f243d6fe74c60e3ed42a1f7af772975dde93d6dbc6ce9e8b23dd96cc440a46", func := "loop.example/g01357/laws.FnExactStoreKepts", spec := "fnExactStoreKepts", apart := false, narrowed := true }
def FnExactStoreKeptsUptoSaid : Prop := fnExactStoreKeptsUptoRow.holds Try.pinned (OpenSpec.upto fnExactStoreKeptsSpec)

/-- 'laws.FnCalls', WHERE WHAT IT READS IS OF BULK AT MOST 1048576: true; the input reads as it did. -/
def fnCallsUptoRow : OpenClaim := { program := "ytfpombhhnojjhaa", sum := "c0f243d6fe74c60e3ed42a1f7af772975dde93d6dbc6ce9e8b23dd96cc440a46", func := "loop.example/g01357/laws.FnCalls", spec := "fnCalls", unfollowed := true, recurses := true, apart := false, narrowed := true }
def FnCallsUptoSaid : Prop := fnCallsUptoRow.holds Try.pinned (OpenSpec.upto fnCallsSpec)

/-- 'laws.FnZones', WHERE WHAT IT READS IS OF BULK AT MOST 1048576: true; the input reads as it did. -/
def fnZonesUptoRow : OpenClaim := { program := "ytfpombhhnojjhaa", sum := "c0f243d6fe74c60e3ed42a1f7af772975dde93d6dbc6ce9e8b23dd96cc440a46", func := "loop.example/g01357/laws.FnZones", spec := "fnZones", unfollowed := true, recurses := true, apart := false, narrowed := true }
def FnZonesUptoSaid : Prop := fnZonesUptoRow.holds Try.pinned (OpenSpec.upto fnZonesSpec)

/-- 'laws.FnLoops', WHERE WHAT IT READS IS OF BULK AT MOST 1048576: true; the input reads as it did. -/
def fnLoopsUptoRow : OpenClaim := { program := "ytfpombhhnojjhaa", sum := "c0f243d6fe74c60e3ed42a1f7af772975dde93d6dbc6ce9e8b23dd96cc440a46", func := "loop.example/g01357/laws.FnLoops", spec := "fnLoops", unfollowed := true, recurses := true, apart := false, narrowed := true }
def FnLoopsUptoSaid : Prop := fnLoopsUptoRow.holds Try.pinned (OpenSpec.upto fnLoopsSpec)

end Rows
end Go.Proofs.Ytfpombhhnojjhaa
