/-
  No cell of these rows narrows 'for every input' (looked for: loops, veiled, ifaces, maps, wideKeys, modest, calm, conditions, laid).
  DERIVED. THE GIVEN ROWS OF THIS SEAT. 12 by the template 'for every input the law returns true; each argument reads behind the call as it read before'; 0 by the template 'total and deterministic' (their statements: YtpelmfanchkpeaaTotals.lean).
  GIVEN WITH THE SEED: the statements are not yours to turn. If you find one false, say at which input.
  Laid BY PROGRAM, IN A SANDBOX (cutbox-rows.mjs): the forced cells as the released guide's own fill.sh prints them over the translation 2eb11a53208063c9… (all of the seat's roots in one cut). By AI agents, Wed Nov 11 2026. No macro, syntax, notation, axiom, sorry.
-/
import Derived.Test.YtpelmfanchkpeaaChecked
import GoSem.Claim
import GoSem.ClaimJoined
import GoSem.ClaimMapViews
import Derived.JoinedTies
import Derived.KernelRfl
namespace Go.Proofs.Ytpelmfanchkpeaa
/- THE CELL 'sum', in the pinned program and in every row, IS THE sha256 OF THE DUMP (.gsa) THAT YtpelmfanchkpeaaProg.lean LOADS. Nothing in Lean hashes anything: it is a label: what it is worth is what the hold of that sum in a sandbox is worth. -/
noncomputable def Try.pinned : Pinned := { name := "ytpelmfanchkpeaa", sum := "2eb11a53208063c902be19634bc4e5807eb6a1028f825560c6f915f603b53248", checked := Try.checked }
namespace Rows
def none {H : Type} : Left H := { results := [], args := [] }

/-- 'laws.FnExactValidLoop': WHATEVER THE INPUT: true; the input reads as it did. -/
def fnExactValidLoopSpec : ChangeSpec := { name := "fnExactValidLoop", fn := fun _ => fun
  | [d1, d2] => { results := [.lit (.bool true)], args := [d1, d2] }
  | _ => none }
def fnExactValidLoopRow : OpenClaim := { program := "ytpelmfanchkpeaa", sum := "2eb11a53208063c902be19634bc4e5807eb6a1028f825560c6f915f603b53248", func := "loop.example/g01357/laws.FnExactValidLoop", spec := "fnExactValidLoop", apart := false }
def FnExactValidLoopSaid : Prop := fnExactValidLoopRow.holds Try.pinned (OpenSpec.ofChange fnExactValidLoopSpec)

/-- ITS FALSE NEIGHBOUR: 'it returns false'. Refute it at one input. -/
def fnExactValidLoopWrong : ChangeSpec := { name := "fnExactValidLoop", fn := fun _ => fun
  | [d1, d2] => { results := [.lit (.bool false)], args := [d1, d2] }
  | _ => none }
def FnExactValidLoopWrongFalsely : Prop := fnExactValidLoopRow.holds Try.pinned (OpenSpec.ofChange fnExactValidLoopWrong)

/-- 'laws.FnExactNormalLoop': WHATEVER THE INPUT: true; the input reads as it did. -/
def fnExactNormalLoopSpec : ChangeSpec := { name := "fnExactNormalLoop", fn := fun _ => fun
  | [d1, d2] => { results := [.lit (.bool true)], args := [d1, d2] }
  | _ => none }
def fnExactNormalLoopRow : OpenClaim := { program := "ytpelmfanchkpeaa", sum := "2eb11a53208063c902be19634bc4e5807eb6a1028f825560c6f915f603b53248", func := "loop.example/g01357/laws.FnExactNormalLoop", spec := "fnExactNormalLoop", apart := false }
def FnExactNormalLoopSaid : Prop := fnExactNormalLoopRow.holds Try.pinned (OpenSpec.ofChange fnExactNormalLoopSpec)

/-- ITS FALSE NEIGHBOUR: 'it returns false'. Refute it at one input. -/
def fnExactNormalLoopWrong : ChangeSpec := { name := "fnExactNormalLoop", fn := fun _ => fun
  | [d1, d2] => { results := [.lit (.bool false)], args := [d1, d2] }
  | _ => none }
def FnExactNormalLoopWrongFalsely : Prop := fnExactNormalLoopRow.holds Try.pinned (OpenSpec.ofChange fnExactNormalLoopWrong)

/-- 'laws.FnExactLetterAt': WHATEVER THE INPUT: true; the input reads as it did. -/
def fnExactLetterAtSpec : ChangeSpec := { name := "fnExactLetterAt", fn := fun _ => fun
  | [d1, d2, d3] => { results := [.lit (.bool true)], args := [d1, d2, d3] }
  | _ => none }
def fnExactLetterAtRow : OpenClaim := { program := "ytpelmfanchkpeaa", sum := "2eb11a53208063c902be19634bc4e5807eb6a1028f825560c6f915f603b53248", func := "loop.example/g01357/laws.FnExactLetterAt", spec := "fnExactLetterAt", apart := false }
def FnExactLetterAtSaid : Prop := fnExactLetterAtRow.holds Try.pinned (OpenSpec.ofChange fnExactLetterAtSpec)

/-- ITS FALSE NEIGHBOUR: 'it returns false'. Refute it at one input. -/
def fnExactLetterAtWrong : ChangeSpec := { name := "fnExactLetterAt", fn := fun _ => fun
  | [d1, d2, d3] => { results := [.lit (.bool false)], args := [d1, d2, d3] }
  | _ => none }
def FnExactLetterAtWrongFalsely : Prop := fnExactLetterAtRow.holds Try.pinned (OpenSpec.ofChange fnExactLetterAtWrong)

/-- 'laws.FnExactValidZone': WHATEVER THE INPUT: true; the input reads as it did. -/
def fnExactValidZoneSpec : ChangeSpec := { name := "fnExactValidZone", fn := fun _ => fun
  | [d] => { results := [.lit (.bool true)], args := [d] }
  | _ => none }
def fnExactValidZoneRow : OpenClaim := { program := "ytpelmfanchkpeaa", sum := "2eb11a53208063c902be19634bc4e5807eb6a1028f825560c6f915f603b53248", func := "loop.example/g01357/laws.FnExactValidZone", spec := "fnExactValidZone", unfollowed := true, recurses := true, apart := false }
def FnExactValidZoneSaid : Prop := fnExactValidZoneRow.holds Try.pinned (OpenSpec.ofChange fnExactValidZoneSpec)

/-- ITS FALSE NEIGHBOUR: 'it returns false'. Refute it at one input. -/
def fnExactValidZoneWrong : ChangeSpec := { name := "fnExactValidZone", fn := fun _ => fun
  | [d] => { results := [.lit (.bool false)], args := [d] }
  | _ => none }
def FnExactValidZoneWrongFalsely : Prop := fnExactValidZoneRow.holds Try.pinned (OpenSpec.ofChange fnExactValidZoneWrong)

/-- 'laws.FnExactSameZone': WHATEVER THE INPUT: true; the input reads as it did. -/
def fnExactSameZoneSpec : ChangeSpec := { name := "fnExactSameZone", fn := fun _ => fun
  | [d1, d2] => { results := [.lit (.bool true)], args := [d1, d2] }
  | _ => none }
def fnExactSameZoneRow : OpenClaim := { program := "ytpelmfanchkpeaa", sum := "2eb11a53208063c902be19634bc4e5807eb6a1028f825560c6f915f603b53248", func := "loop.example/g01357/laws.FnExactSameZone", spec := "fnExactSameZone", apart := false }
def FnExactSameZoneSaid : Prop := fnExactSameZoneRow.holds Try.pinned (OpenSpec.ofChange fnExactSameZoneSpec)

/-- ITS FALSE NEIGHBOUR: 'it returns false'. Refute it at one input. -/
def fnExactSameZoneWrong : ChangeSpec := { name := "fnExactSameZone", fn := fun _ => fun
  | [d1, d2] => { results := [.lit (.bool false)], args := [d1, d2] }
  | _ => none }
def FnExactSameZoneWrongFalsely : Prop := fnExactSameZoneRow.holds Try.pinned (OpenSpec.ofChange fnExactSameZoneWrong)

/-- 'laws.FnExactWholeZone': WHATEVER THE INPUT: true; the input reads as it did. -/
def fnExactWholeZoneSpec : ChangeSpec := { name := "fnExactWholeZone", fn := fun _ => fun
  | [d] => { results := [.lit (.bool true)], args := [d] }
  | _ => none }
def fnExactWholeZoneRow : OpenClaim := { program := "ytpelmfanchkpeaa", sum := "2eb11a53208063c902be19634bc4e5807eb6a1028f825560c6f915f603b53248", func := "loop.example/g01357/laws.FnExactWholeZone", spec := "fnExactWholeZone", apart := false }
def FnExactWholeZoneSaid : Prop := fnExactWholeZoneRow.holds Try.pinned (OpenSpec.ofChange fnExactWholeZoneSpec)

/-- ITS FALSE NEIGHBOUR: 'it returns false'. Refute it at one input. -/
def fnExactWholeZoneWrong : ChangeSpec := { name := "fnExactWholeZone", fn := fun _ => fun
  | [d] => { results := [.lit (.bool false)], args := [d] }
  | _ => none }
def FnExactWholeZoneWrongFalsely : Prop := fnExactWholeZoneRow.holds Try.pinned (OpenSpec.ofChange fnExactWholeZoneWrong)

/-- 'laws.FnExactTightZone': WHATEVER THE INPUT: true; the input reads as it did. -/
def fnExactTightZoneSpec : ChangeSpec := { name := "fnExactTightZone", fn := fun _ => fun
  | [d] => { results := [.lit (.bool true)], args := [d] }
  | _ => none }
def fnExactTightZoneRow : OpenClaim := { program := "ytpelmfanchkpeaa", sum := "2eb11a53208063c902be19634bc4e5807eb6a1028f825560c6f915f603b53248", func := "loop.example/g01357/laws.FnExactTightZone", spec := "fnExactTightZone", unfollowed := true, recurses := true, apart := false }
def FnExactTightZoneSaid : Prop := fnExactTightZoneRow.holds Try.pinned (OpenSpec.ofChange fnExactTightZoneSpec)

/-- ITS FALSE NEIGHBOUR: 'it returns false'. Refute it at one input. -/
def fnExactTightZoneWrong : ChangeSpec := { name := "fnExactTightZone", fn := fun _ => fun
  | [d] => { results := [.lit (.bool false)], args := [d] }
  | _ => none }
def FnExactTightZoneWrongFalsely : Prop := fnExactTightZoneRow.holds Try.pinned (OpenSpec.ofChange fnExactTightZoneWrong)

/-- 'laws.FnExactHoldsIn': WHATEVER THE INPUT: true; the input reads as it did. -/
def fnExactHoldsInSpec : ChangeSpec := { name := "fnExactHoldsIn", fn := fun _ => fun
  | [d1, d2] => { results := [.lit (.bool true)], args := [d1, d2] }
  | _ => none }
def fnExactHoldsInRow : OpenClaim := { program := "ytpelmfanchkpeaa", sum := "2eb11a53208063c902be19634bc4e5807eb6a1028f825560c6f915f603b53248", func := "loop.example/g01357/laws.FnExactHoldsIn", spec := "fnExactHoldsIn", unfollowed := true, recurses := true, apart := false }
def FnExactHoldsInSaid : Prop := fnExactHoldsInRow.holds Try.pinned (OpenSpec.ofChange fnExactHoldsInSpec)

/-- ITS FALSE NEIGHBOUR: 'it returns false'. Refute it at one input. -/
def fnExactHoldsInWrong : ChangeSpec := { name := "fnExactHoldsIn", fn := fun _ => fun
  | [d1, d2] => { results := [.lit (.bool false)], args := [d1, d2] }
  | _ => none }
def FnExactHoldsInWrongFalsely : Prop := fnExactHoldsInRow.holds Try.pinned (OpenSpec.ofChange fnExactHoldsInWrong)

/-- 'laws.FnExactMeetZone': WHATEVER THE INPUT: true; the input reads as it did. -/
def fnExactMeetZoneSpec : ChangeSpec := { name := "fnExactMeetZone", fn := fun _ => fun
  | [d1, d2] => { results := [.lit (.bool true)], args := [d1, d2] }
  | _ => none }
def fnExactMeetZoneRow : OpenClaim := { program := "ytpelmfanchkpeaa", sum := "2eb11a53208063c902be19634bc4e5807eb6a1028f825560c6f915f603b53248", func := "loop.example/g01357/laws.FnExactMeetZone", spec := "fnExactMeetZone", unfollowed := true, recurses := true, apart := false }
def FnExactMeetZoneSaid : Prop := fnExactMeetZoneRow.holds Try.pinned (OpenSpec.ofChange fnExactMeetZoneSpec)

/-- ITS FALSE NEIGHBOUR: 'it returns false'. Refute it at one input. -/
def fnExactMeetZoneWrong : ChangeSpec := { name := "fnExactMeetZone", fn := fun _ => fun
  | [d1, d2] => { results := [.lit (.bool false)], args := [d1, d2] }
  | _ => none }
def FnExactMeetZoneWrongFalsely : Prop := fnExactMeetZoneRow.holds Try.pinned (OpenSpec.ofChange fnExactMeetZoneWrong)

/-- 'laws.FnExactLaterZone': WHATEVER THE INPUT: true; the input reads as it did. -/
def fnExactLaterZoneSpec : ChangeSpec := { name := "fnExactLaterZone", fn := fun _ => fun
  | [d] => { results := [.lit (.bool true)], args := [d] }
  | _ => none }
def fnExactLaterZoneRow : OpenClaim := { program := "ytpelmfanchkpeaa", sum := "2eb11a53208063c902be19634bc4e5807eb6a1028f825560c6f915f603b53248", func := "loop.example/g01357/laws.FnExactLaterZone", spec := "fnExactLaterZone", unfollowed := true, recurses := true, apart := false }
def FnExactLaterZoneSaid : Prop := fnExactLaterZoneRow.holds Try.pinned (OpenSpec.ofChange fnExactLaterZoneSpec)

/-- ITS FALSE NEIGHBOUR: 'it returns false'. Refute it at one input. -/
def fnExactLaterZoneWrong : ChangeSpec := { name := "fnExactLaterZone", fn := fun _ => fun
  | [d] => { results := [.lit (.bool false)], args := [d] }
  | _ => none }
def FnExactLaterZoneWrongFalsely : Prop := fnExactLaterZoneRow.holds Try.pinned (OpenSpec.ofChange fnExactLaterZoneWrong)

/-- 'laws.FnExactResetZone': WHATEVER THE INPUT: true; the input reads as it did. -/
def fnExactResetZoneSpec : ChangeSpec := { name := "fnExactResetZone", fn := fun _ => fun
  | [d1, d2] => { results := [.lit (.bool true)], args := [d1, d2] }
  | _ => none }
def fnExactResetZoneRow : OpenClaim := { program := "ytpelmfanchkpeaa", sum := "2eb11a53208063c902be19634bc4e5807eb6a1028f825560c6f915f603b53248", func := "loop.example/g01357/laws.FnExactResetZone", spec := "fnExactResetZone", unfollowed := true, recurses := true, apart := false }
def FnExactResetZoneSaid : Prop := fnExactResetZoneRow.holds Try.pinned (OpenSpec.ofChange fnExactResetZoneSpec)

/-- ITS FALSE NEIGHBOUR: 'it returns false'. Refute it at one input. -/
def fnExactResetZoneWrong : ChangeSpec := { name := "fnExactResetZone", fn := fun _ => fun
  | [d1, d2] => { results := [.lit (.bool false)], args := [d1, d2] }
  | _ => none }
def FnExactResetZoneWrongFalsely : Prop := fnExactResetZoneRow.holds Try.pinned (OpenSpec.ofChange fnExactResetZoneWrong)

/-- 'laws.FnExactIsPartZone': WHATEVER THE INPUT: true; the input reads as it did. -/
def fnExactIsPartZoneSpec : ChangeSpec := { name := "fnExactIsPartZone", fn := fun _ => fun
  | [d1, d2] => { results := [.lit (.bool true)], args := [d1, d2] }
  | _ => none }
def fnExactIsPartZoneRow : OpenClaim := { program := "ytpelmfanchkpeaa", sum := "2eb11a53208063c902be19634bc4e5807eb6a1028f825560c6f915f603b53248", func := "loop.example/g01357/laws.FnExactIsPartZone", spec := "fnExactIsPartZone", unfollowed := true, recurses := true, apart := false }
def FnExactIsPartZoneSaid : Prop := fnExactIsPartZoneRow.holds Try.pinned (OpenSpec.ofChange fnExactIsPartZoneSpec)

/-- ITS FALSE NEIGHBOUR: 'it returns false'. Refute it at one input. -/
def fnExactIsPartZoneWrong : ChangeSpec := { name := "fnExactIsPartZone", fn := fun _ => fun
  | [d1, d2] => { results := [.lit (.bool false)], args := [d1, d2] }
  | _ => none }
def FnExactIsPartZoneWrongFalsely : Prop := fnExactIsPartZoneRow.holds Try.pinned (OpenSpec.ofChange fnExactIsPartZoneWrong)

/- THE SECOND FORM. 'bulk': how many values and letters a reading holds, each counted each time it is reached (what is shared counts as often as it is met; a slice's spare places count too). A statement '..UptoSaid' is the law's where the arguments, and the package variables that the reading takes, are together of bulk at most 1048576: NARROWER than '..Said'. Prove '..Said' where nothing that the law and all that it calls make is longer than what came in: it says more and counts as full. Else prove '..UptoSaid'. A law counts once. -/
mutual
def uptoBulk {H : Type} : DataW H → Nat
  | .lit (.string bytes) => bytes.length + 1
  | .lit _ => 1
  | .nil => 1
  | .ptr d => uptoBulk d + 1
  | .slice elems spare => uptoBulkAll elems + uptoBulkAll spare + 1
  | .agg parts => uptoBulkAll parts + 1
  | .iface _ d => uptoBulk d + 1
  | .map entries => uptoBulkEntries entries + 1
  | .held _ => 1
def uptoBulkAll {H : Type} : List (DataW H) → Nat
  | [] => 0
  | d :: r => uptoBulk d + uptoBulkAll r
def uptoBulkEntries {H : Type} : List (Lit × DataW H) → Nat
  | [] => 0
  | x :: r => uptoBulkEntry x + uptoBulkEntries r
def uptoBulkEntry {H : Type} : Lit × DataW H → Nat
  | (.string bytes, d) => bytes.length + uptoBulk d + 1
  | (_, d) => uptoBulk d + 1
 end
def uptoSmall : (H : Type) → List (DataW H) → Bool := fun _ ds => decide (uptoBulkAll ds ≤ 1048576)
def OpenSpec.upto (s : _root_.Go.ChangeSpec) : _root_.Go.OpenSpec := { _root_.Go.OpenSpec.ofChange s with cond := some uptoSmall }

/-- 'laws.FnExactValidLoop', WHERE WHAT IT READS IS OF BULK AT MOST 1048576: true; the input reads as it did. -/
def fnExactValidLoopUptoRow : OpenClaim := { program := "ytpelmfanchkpeaa", sum := "2eb11a53208063c902be19634bc4e5807eb6a1028f825560c6f915f603b53248", func := "loop.example/g01357/laws.FnExactValidLoop", spec := "fnExactValidLoop", apart := false, narrowed := true }
def FnExactValidLoopUptoSaid : Prop := fnExactValidLoopUptoRow.holds Try.pinned (OpenSpec.upto fnExactValidLoopSpec)

/-- 'laws.FnExactNormalLoop', WHERE WHAT IT READS IS OF BULK AT MOST 1048576: true; the input reads as it did. -/
def fnExactNormalLoopUptoRow : OpenClaim := { program := "ytpelmfanchkpeaa", sum := "2eb11a53208063c902be19634bc4e5807eb6a1028f825560c6f915f603b53248", func := "loop.example/g01357/laws.FnExactNormalLoop", spec := "fnExactNormalLoop", apart := false, narrowed := true }
def FnExactNormalLoopUptoSaid : Prop := fnExactNormalLoopUptoRow.holds Try.pinned (OpenSpec.upto fnExactNormalLoopSpec)

/-- 'laws.FnExactLetterAt', WHERE WHAT IT READS IS OF BULK AT MOST 1048576: true; the input reads as it did. -/
def fnExactLetterAtUptoRow : OpenClaim := { program := "ytpelmfanchkpeaa", sum := "2eb11a53208063c902be19634bc4e5807eb6a1028f825560c6f915f603b53248", func := "loop.example/g01357/laws.FnExactLetterAt", spec := "fnExactLetterAt", apart := false, narrowed := true }
def FnExactLetterAtUptoSaid : Prop := fnExactLetterAtUptoRow.holds Try.pinned (OpenSpec.upto fnExactLetterAtSpec)

/-- 'laws.FnExactValidZone', WHERE WHAT IT READS IS OF BULK AT MOST 1048576: true; the input reads as it did. -/
def fnExactValidZoneUptoRow : OpenClaim := { program := "ytpelmfanchkpeaa", sum := "2eb11a53208063c902be19634bc4e5807eb6a1028f825560c6f915f603b53248", func := "loop.example/g01357/laws.FnExactValidZone", spec := "fnExactValidZone", unfollowed := true, recurses := true, apart := false, narrowed := true }
def FnExactValidZoneUptoSaid : Prop := fnExactValidZoneUptoRow.holds Try.pinned (OpenSpec.upto fnExactValidZoneSpec)

/-- 'laws.FnExactSameZone', WHERE WHAT IT READS IS OF BULK AT MOST 1048576: true; the input reads as it did. -/
def fnExactSameZoneUptoRow : OpenClaim := { program := "ytpelmfanchkpeaa", sum := "2eb11a53208063c902be19634bc4e5807eb6a1028f825560c6f915f603b53248", func := "loop.example/g01357/laws.FnExactSameZone", spec := "fnExactSameZone", apart := false, narrowed := true }
def FnExactSameZoneUptoSaid : Prop := fnExactSameZoneUptoRow.holds Try.pinned (OpenSpec.upto fnExactSameZoneSpec)

/-- 'laws.FnExactWholeZone', WHERE WHAT IT READS IS OF BULK AT MOST 1048576: true; the input reads as it did. -/
def fnExactWholeZoneUptoRow : OpenClaim := { program := "ytpelmfanchkpeaa", sum := "2eb11a53208063c902be19634bc4e5807eb6a1028f825560c6f915f603b53248", func := "loop.example/g01357/laws.FnExactWholeZone", spec := "fnExactWholeZone", apart := false, narrowed := true }
def FnExactWholeZoneUptoSaid : Prop := fnExactWholeZoneUptoRow.holds Try.pinned (OpenSpec.upto fnExactWholeZoneSpec)

/-- 'laws.FnExactTightZone', WHERE WHAT IT READS IS OF BULK AT MOST 1048576: true; the input reads as it did. -/
def fnExactTightZoneUptoRow : OpenClaim := { program := "ytpelmfanchkpeaa", sum := "2eb11a53208063c902be19634bc4e5807eb6a1028f825560c6f915f603b53248", func := "loop.example/g01357/laws.FnExactTightZone", spec := "fnExactTightZone", unfollowed := true, recurses := true, apart := false, narrowed := true }
def FnExactTightZoneUptoSaid : Prop := fnExactTightZoneUptoRow.holds Try.pinned (OpenSpec.upto fnExactTightZoneSpec)

/-- 'laws.FnExactHoldsIn', WHERE WHAT IT READS IS OF BULK AT MOST 1048576: true; the input reads as it did. -/
def fnExactHoldsInUptoRow : OpenClaim := { program := "ytpelmfanchkpeaa", sum := "2eb11a53208063c902be19634bc4e5807eb6a1028f825560c6f915f603b53248", func := "loop.example/g01357/laws.FnExactHoldsIn", spec := "fnExactHoldsIn", unfollowed := true, recurses := true, apart := false, narrowed := true }
def FnExactHoldsInUptoSaid : Prop := fnExactHoldsInUptoRow.holds Try.pinned (OpenSpec.upto fnExactHoldsInSpec)

/-- 'laws.FnExactMeetZone', WHERE WHAT IT READS IS OF BULK AT MOST 1048576: true; the input reads as it did. -/
def fnExactMeetZoneUptoRow : OpenClaim := { program := "ytpelmfanchkpeaa", sum := "2eb11a53208063c902be19634bc4e5807eb6a1028f825560c6f915f603b53248", func := "loop.example/g01357/laws.FnExactMeetZone", spec := "fnExactMeetZone", unfollowed := true, recurses := true, apart := false, narrowed := true }
def FnExactMeetZoneUptoSaid : Prop := fnExactMeetZoneUptoRow.holds Try.pinned (OpenSpec.upto fnExactMeetZoneSpec)

/-- 'laws.FnExactLaterZone', WHERE WHAT IT READS IS OF BULK AT MOST 1048576: true; the input reads as it did. -/
def fnExactLaterZoneUptoRow : OpenClaim := { program := "ytpelmfanchkpeaa", sum := "2eb11a53208063c902be19634bc4e5807eb6a1028f825560c6f915f603b53248", func := "loop.example/g01357/laws.FnExactLaterZone", spec := "fnExactLaterZone", unfollowed := true, recurses := true, apart := false, narrowed := true }
def FnExactLaterZoneUptoSaid : Prop := fnExactLaterZoneUptoRow.holds Try.pinned (OpenSpec.upto fnExactLaterZoneSpec)

/-- 'laws.FnExactResetZone', WHERE WHAT IT READS IS OF BULK AT MOST 1048576: true; the input reads as it did. -/
def fnExactResetZoneUptoRow : OpenClaim := { program := "ytpelmfanchkpeaa", sum := "2eb11a53208063c902be19634bc4e5807eb6a1028f825560c6f915f603b53248", func := "loop.example/g01357/laws.FnExactResetZone", spec := "fnExactResetZone", unfollowed := true, recurses := true, apart := false, narrowed := true }
def FnExactResetZoneUptoSaid : Prop := fnExactResetZoneUptoRow.holds Try.pinned (OpenSpec.upto fnExactResetZoneSpec)

/-- 'laws.FnExactIsPartZone', WHERE WHAT IT READS IS OF BULK AT MOST 1048576: true; the input reads as it did. -/
def fnExactIsPartZoneUptoRow : OpenClaim := { program := "ytpelmfanchkpeaa", sum := "2eb11a53208063c902be19634bc4e5807eb6a1028f825560c6f915f603b53248", func := "loop.example/g01357/laws.FnExactIsPartZone", spec := "fnExactIsPartZone", unfollowed := true, recurses := true, apart := false, narrowed := true }
def FnExactIsPartZoneUptoSaid : Prop := fnExactIsPartZoneUptoRow.holds Try.pinned (OpenSpec.upto fnExactIsPartZoneSpec)

end Rows
end Go.Proofs.Ytpelmfanchkpeaa
