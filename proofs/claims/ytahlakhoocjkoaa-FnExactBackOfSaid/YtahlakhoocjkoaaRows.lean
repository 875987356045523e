/-
  No cell of these rows narrows 'for every input' (looked for: loops, veiled, ifaces, maps, wideKeys, modest, calm, conditions, laid).
  DERIVED. THE GIVEN ROWS OF THIS SEAT. 12 by the template 'for every input the law returns true; each argument reads behind the call as it read before'; 0 by the template 'total and deterministic' (their statements: YtahlakhoocjkoaaTotals.lean).
  GIVEN WITH THE SEED: the statements are not yours to turn. If you find one false, say at which input.
  Laid BY PROGRAM, IN A SANDBOX (cutbox-rows.mjs): the forced cells as the released guide's own fill.sh prints them over the translation 2a66446aab2cc41b… (all of the seat's roots in one cut). By AI agents, Wed Nov 11 2026. No macro, syntax, notation, axiom, sorry.
-/
import Derived.Test.YtahlakhoocjkoaaChecked
import GoSem.Claim
import GoSem.ClaimJoined
import GoSem.ClaimMapViews
import Derived.JoinedTies
import Derived.KernelRfl
namespace Go.Proofs.Ytahlakhoocjkoaa
/- THE CELL 'sum', in the pinned program and in every row, IS THE sha256 OF THE DUMP (.gsa) THAT YtahlakhoocjkoaaProg.lean LOADS. Nothing in Lean hashes anything: it is a label: what it is worth is what the hold of that sum in a sandbox is worth. -/
noncomputable def Try.pinned : Pinned := { name := "ytahlakhoocjkoaa", sum := "2a66446aab2cc41b39e689d9d419e7bee53ada3994abc5fd16481fd201dd84ec", checked := Try.checked }
namespace Rows
def none {H : Type} : Left H := { results := [], args := [] }

/-- 'laws.FnExactValidMachine': WHATEVER THE INPUT: true; the input reads as it did. -/
def fnExactValidMachineSpec : ChangeSpec := { name := "fnExactValidMachine", fn := fun _ => fun
  | [d] => { results := [.lit (.bool true)], args := [d] }
  | _ => none }
def fnExactValidMachineRow : OpenClaim := { program := "ytahlakhoocjkoaa", sum := "2a66446aab2cc41b39e689d9d419e7bee53ada3994abc5fd16481fd201dd84ec", func := "loop.example/g01357/laws.FnExactValidMachine", spec := "fnExactValidMachine", apart := false }
def FnExactValidMachineSaid : Prop := fnExactValidMachineRow.holds Try.pinned (OpenSpec.ofChange fnExactValidMachineSpec)

/-- ITS FALSE NEIGHBOUR: 'it returns false'. Refute it at one input. -/
def fnExactValidMachineWrong : ChangeSpec := { name := "fnExactValidMachine", fn := fun _ => fun
  | [d] => { results := [.lit (.bool false)], args := [d] }
  | _ => none }
def FnExactValidMachineWrongFalsely : Prop := fnExactValidMachineRow.holds Try.pinned (OpenSpec.ofChange fnExactValidMachineWrong)

/-- 'laws.FnExactSameMachine': WHATEVER THE INPUT: true; the input reads as it did. -/
def fnExactSameMachineSpec : ChangeSpec := { name := "fnExactSameMachine", fn := fun _ => fun
  | [d1, d2] => { results := [.lit (.bool true)], args := [d1, d2] }
  | _ => none }
def fnExactSameMachineRow : OpenClaim := { program := "ytahlakhoocjkoaa", sum := "2a66446aab2cc41b39e689d9d419e7bee53ada3994abc5fd16481fd201dd84ec", func := "loop.example/g01357/laws.FnExactSameMachine", spec := "fnExactSameMachine", apart := false }
def FnExactSameMachineSaid : Prop := fnExactSameMachineRow.holds Try.pinned (OpenSpec.ofChange fnExactSameMachineSpec)

/-- ITS FALSE NEIGHBOUR: 'it returns false'. Refute it at one input. -/
def fnExactSameMachineWrong : ChangeSpec := { name := "fnExactSameMachine", fn := fun _ => fun
  | [d1, d2] => { results := [.lit (.bool false)], args := [d1, d2] }
  | _ => none }
def FnExactSameMachineWrongFalsely : Prop := fnExactSameMachineRow.holds Try.pinned (OpenSpec.ofChange fnExactSameMachineWrong)

/-- 'laws.FnExactIsWord': WHATEVER THE INPUT: true; the input reads as it did. -/
def fnExactIsWordSpec : ChangeSpec := { name := "fnExactIsWord", fn := fun _ => fun
  | [d1, d2] => { results := [.lit (.bool true)], args := [d1, d2] }
  | _ => none }
def fnExactIsWordRow : OpenClaim := { program := "ytahlakhoocjkoaa", sum := "2a66446aab2cc41b39e689d9d419e7bee53ada3994abc5fd16481fd201dd84ec", func := "loop.example/g01357/laws.FnExactIsWord", spec := "fnExactIsWord", apart := false }
def FnExactIsWordSaid : Prop := fnExactIsWordRow.holds Try.pinned (OpenSpec.ofChange fnExactIsWordSpec)

/-- ITS FALSE NEIGHBOUR: 'it returns false'. Refute it at one input. -/
def fnExactIsWordWrong : ChangeSpec := { name := "fnExactIsWord", fn := fun _ => fun
  | [d1, d2] => { results := [.lit (.bool false)], args := [d1, d2] }
  | _ => none }
def FnExactIsWordWrongFalsely : Prop := fnExactIsWordRow.holds Try.pinned (OpenSpec.ofChange fnExactIsWordWrong)

/-- 'laws.FnExactEitherOf': WHATEVER THE INPUT: true; the input reads as it did. -/
def fnExactEitherOfSpec : ChangeSpec := { name := "fnExactEitherOf", fn := fun _ => fun
  | [d1, d2] => { results := [.lit (.bool true)], args := [d1, d2] }
  | _ => none }
def fnExactEitherOfRow : OpenClaim := { program := "ytahlakhoocjkoaa", sum := "2a66446aab2cc41b39e689d9d419e7bee53ada3994abc5fd16481fd201dd84ec", func := "loop.example/g01357/laws.FnExactEitherOf", spec := "fnExactEitherOf", apart := false }
def FnExactEitherOfSaid : Prop := fnExactEitherOfRow.holds Try.pinned (OpenSpec.ofChange fnExactEitherOfSpec)

/-- ITS FALSE NEIGHBOUR: 'it returns false'. Refute it at one input. -/
def fnExactEitherOfWrong : ChangeSpec := { name := "fnExactEitherOf", fn := fun _ => fun
  | [d1, d2] => { results := [.lit (.bool false)], args := [d1, d2] }
  | _ => none }
def FnExactEitherOfWrongFalsely : Prop := fnExactEitherOfRow.holds Try.pinned (OpenSpec.ofChange fnExactEitherOfWrong)

/-- 'laws.FnExactJoinedOf': WHATEVER THE INPUT: true; the input reads as it did. -/
def fnExactJoinedOfSpec : ChangeSpec := { name := "fnExactJoinedOf", fn := fun _ => fun
  | [d1, d2] => { results := [.lit (.bool true)], args := [d1, d2] }
  | _ => none }
def fnExactJoinedOfRow : OpenClaim := { program := "ytahlakhoocjkoaa", sum := "2a66446aab2cc41b39e689d9d419e7bee53ada3994abc5fd16481fd201dd84ec", func := "loop.example/g01357/laws.FnExactJoinedOf", spec := "fnExactJoinedOf", apart := false }
def FnExactJoinedOfSaid : Prop := fnExactJoinedOfRow.holds Try.pinned (OpenSpec.ofChange fnExactJoinedOfSpec)

/-- ITS FALSE NEIGHBOUR: 'it returns false'. Refute it at one input. -/
def fnExactJoinedOfWrong : ChangeSpec := { name := "fnExactJoinedOf", fn := fun _ => fun
  | [d1, d2] => { results := [.lit (.bool false)], args := [d1, d2] }
  | _ => none }
def FnExactJoinedOfWrongFalsely : Prop := fnExactJoinedOfRow.holds Try.pinned (OpenSpec.ofChange fnExactJoinedOfWrong)

/-- 'laws.FnExactRepeatOf': WHATEVER THE INPUT: true; the input reads as it did. -/
def fnExactRepeatOfSpec : ChangeSpec := { name := "fnExactRepeatOf", fn := fun _ => fun
  | [d] => { results := [.lit (.bool true)], args := [d] }
  | _ => none }
def fnExactRepeatOfRow : OpenClaim := { program := "ytahlakhoocjkoaa", sum := "2a66446aab2cc41b39e689d9d419e7bee53ada3994abc5fd16481fd201dd84ec", func := "loop.example/g01357/laws.FnExactRepeatOf", spec := "fnExactRepeatOf", apart := false }
def FnExactRepeatOfSaid : Prop := fnExactRepeatOfRow.holds Try.pinned (OpenSpec.ofChange fnExactRepeatOfSpec)

/-- ITS FALSE NEIGHBOUR: 'it returns false'. Refute it at one input. -/
def fnExactRepeatOfWrong : ChangeSpec := { name := "fnExactRepeatOf", fn := fun _ => fun
  | [d] => { results := [.lit (.bool false)], args := [d] }
  | _ => none }
def FnExactRepeatOfWrongFalsely : Prop := fnExactRepeatOfRow.holds Try.pinned (OpenSpec.ofChange fnExactRepeatOfWrong)

/-- 'laws.FnExactBackOf': WHATEVER THE INPUT: true; the input reads as it did. -/
def fnExactBackOfSpec : ChangeSpec := { name := "fnExactBackOf", fn := fun _ => fun
  | [d] => { results := [.lit (.bool true)], args := [d] }
  | _ => none }
def fnExactBackOfRow : OpenClaim := { program := "ytahlakhoocjkoaa", sum := "2a66446aab2cc41b39e689d9d419e7bee53ada3994abc5fd16481fd201dd84ec", func := "loop.example/g01357/laws.FnExactBackOf", spec := "fnExactBackOf", apart := false }
def FnExactBackOfSaid : Prop := fnExactBackOfRow.holds Try.pinned (OpenSpec.ofChange fnExactBackOfSpec)

/-- ITS FALSE NEIGHBOUR: 'it returns false'. Refute it at one input. -/
def fnExactBackOfWrong : ChangeSpec := { name := "fnExactBackOf", fn := fun _ => fun
  | [d] => { results := [.lit (.bool false)], args := [d] }
  | _ => none }
def FnExactBackOfWrongFalsely : Prop := fnExactBackOfRow.holds Try.pinned (OpenSpec.ofChange fnExactBackOfWrong)

/-- 'laws.FnExactMeetOf': WHATEVER THE INPUT: true; the input reads as it did. -/
def fnExactMeetOfSpec : ChangeSpec := { name := "fnExactMeetOf", fn := fun _ => fun
  | [d1, d2] => { results := [.lit (.bool true)], args := [d1, d2] }
  | _ => none }
def fnExactMeetOfRow : OpenClaim := { program := "ytahlakhoocjkoaa", sum := "2a66446aab2cc41b39e689d9d419e7bee53ada3994abc5fd16481fd201dd84ec", func := "loop.example/g01357/laws.FnExactMeetOf", spec := "fnExactMeetOf", apart := false }
def FnExactMeetOfSaid : Prop := fnExactMeetOfRow.holds Try.pinned (OpenSpec.ofChange fnExactMeetOfSpec)

/-- ITS FALSE NEIGHBOUR: 'it returns false'. Refute it at one input. -/
def fnExactMeetOfWrong : ChangeSpec := { name := "fnExactMeetOf", fn := fun _ => fun
  | [d1, d2] => { results := [.lit (.bool false)], args := [d1, d2] }
  | _ => none }
def FnExactMeetOfWrongFalsely : Prop := fnExactMeetOfRow.holds Try.pinned (OpenSpec.ofChange fnExactMeetOfWrong)

/-- 'laws.FnExactTidyOf': WHATEVER THE INPUT: true; the input reads as it did. -/
def fnExactTidyOfSpec : ChangeSpec := { name := "fnExactTidyOf", fn := fun _ => fun
  | [d] => { results := [.lit (.bool true)], args := [d] }
  | _ => none }
def fnExactTidyOfRow : OpenClaim := { program := "ytahlakhoocjkoaa", sum := "2a66446aab2cc41b39e689d9d419e7bee53ada3994abc5fd16481fd201dd84ec", func := "loop.example/g01357/laws.FnExactTidyOf", spec := "fnExactTidyOf", unfollowed := true, recurses := true, apart := false }
def FnExactTidyOfSaid : Prop := fnExactTidyOfRow.holds Try.pinned (OpenSpec.ofChange fnExactTidyOfSpec)

/-- ITS FALSE NEIGHBOUR: 'it returns false'. Refute it at one input. -/
def fnExactTidyOfWrong : ChangeSpec := { name := "fnExactTidyOf", fn := fun _ => fun
  | [d] => { results := [.lit (.bool false)], args := [d] }
  | _ => none }
def FnExactTidyOfWrongFalsely : Prop := fnExactTidyOfRow.holds Try.pinned (OpenSpec.ofChange fnExactTidyOfWrong)

/-- 'laws.FnExactCostOf': WHATEVER THE INPUT: true; the input reads as it did. -/
def fnExactCostOfSpec : ChangeSpec := { name := "fnExactCostOf", fn := fun _ => fun
  | [d1, d2] => { results := [.lit (.bool true)], args := [d1, d2] }
  | _ => none }
def fnExactCostOfRow : OpenClaim := { program := "ytahlakhoocjkoaa", sum := "2a66446aab2cc41b39e689d9d419e7bee53ada3994abc5fd16481fd201dd84ec", func := "loop.example/g01357/laws.FnExactCostOf", spec := "fnExactCostOf", apart := false }
def FnExactCostOfSaid : Prop := fnExactCostOfRow.holds Try.pinned (OpenSpec.ofChange fnExactCostOfSpec)

/-- ITS FALSE NEIGHBOUR: 'it returns false'. Refute it at one input. -/
def fnExactCostOfWrong : ChangeSpec := { name := "fnExactCostOf", fn := fun _ => fun
  | [d1, d2] => { results := [.lit (.bool false)], args := [d1, d2] }
  | _ => none }
def FnExactCostOfWrongFalsely : Prop := fnExactCostOfRow.holds Try.pinned (OpenSpec.ofChange fnExactCostOfWrong)

/-- 'laws.FnExactEndCosts': WHATEVER THE INPUT: true; the input reads as it did. -/
def fnExactEndCostsSpec : ChangeSpec := { name := "fnExactEndCosts", fn := fun _ => fun
  | [d] => { results := [.lit (.bool true)], args := [d] }
  | _ => none }
def fnExactEndCostsRow : OpenClaim := { program := "ytahlakhoocjkoaa", sum := "2a66446aab2cc41b39e689d9d419e7bee53ada3994abc5fd16481fd201dd84ec", func := "loop.example/g01357/laws.FnExactEndCosts", spec := "fnExactEndCosts", apart := false }
def FnExactEndCostsSaid : Prop := fnExactEndCostsRow.holds Try.pinned (OpenSpec.ofChange fnExactEndCostsSpec)

/-- ITS FALSE NEIGHBOUR: 'it returns false'. Refute it at one input. -/
def fnExactEndCostsWrong : ChangeSpec := { name := "fnExactEndCosts", fn := fun _ => fun
  | [d] => { results := [.lit (.bool false)], args := [d] }
  | _ => none }
def FnExactEndCostsWrongFalsely : Prop := fnExactEndCostsRow.holds Try.pinned (OpenSpec.ofChange fnExactEndCostsWrong)

/-- 'laws.FnExactTrimOf': WHATEVER THE INPUT: true; the input reads as it did. -/
def fnExactTrimOfSpec : ChangeSpec := { name := "fnExactTrimOf", fn := fun _ => fun
  | [d] => { results := [.lit (.bool true)], args := [d] }
  | _ => none }
def fnExactTrimOfRow : OpenClaim := { program := "ytahlakhoocjkoaa", sum := "2a66446aab2cc41b39e689d9d419e7bee53ada3994abc5fd16481fd201dd84ec", func := "loop.example/g01357/laws.FnExactTrimOf", spec := "fnExactTrimOf", unfollowed := true, recurses := true, apart := false }
def FnExactTrimOfSaid : Prop := fnExactTrimOfRow.holds Try.pinned (OpenSpec.ofChange fnExactTrimOfSpec)

/-- ITS FALSE NEIGHBOUR: 'it returns false'. Refute it at one input. -/
def fnExactTrimOfWrong : ChangeSpec := { name := "fnExactTrimOf", fn := fun _ => fun
  | [d] => { results := [.lit (.bool false)], args := [d] }
  | _ => none }
def FnExactTrimOfWrongFalsely : Prop := fnExactTrimOfRow.holds Try.pinned (OpenSpec.ofChange fnExactTrimOfWrong)

/- THE SECOND FORM. 'bulk': how many values and letters a reading holds, each counted each time it is reached (what is shared counts as often as it is met; a slice's spare places count too). A statement '..UptoSaid' is the law's where the arguments, and the package variables that the reading takes, are together of bulk at most 1048576: NARROWER than '..Said'. Prove '..Said' where nothing that the law and all that it calls make is longer than what came in: it says more and counts as full. Else prove '..UptoSaid'. A law counts once. -/
mutual
def uptoBulk {H : Type} : DataW H → Nat
  | .lit (.string bytes) => bytes.length + 1
  | .lit _ => 1
  | .nil => 1
  | .ptr d => uptoBulk d + 1
  | .slice elems spare => uptoBulkAll elems + uptoBulkAll spare + 1
  | .agg parts => uptoBulkAll parts + 1
  | .iface _ d => uptoBulk d + 1
  | .map entries => uptoBulkEntries entries + 1
  | .held _ => 1
def uptoBulkAll {H : Type} : List (DataW H) → Nat
  | [] => 0
  | d :: r => uptoBulk d + uptoBulkAll r
def uptoBulkEntries {H : Type} : List (Lit × DataW H) → Nat
  | [] => 0
  | x :: r => uptoBulkEntry x + uptoBulkEntries r
def uptoBulkEntry {H : Type} : Lit × DataW H → Nat
  | (.string bytes, d) => bytes.length + uptoBulk d + 1
  | (_, d) => uptoBulk d + 1
 end
def uptoSmall : (H : Type) → List (DataW H) → Bool := fun _ ds => decide (uptoBulkAll ds ≤ 1048576)
def OpenSpec.upto (s : _root_.Go.ChangeSpec) : _root_.Go.OpenSpec := { _root_.Go.OpenSpec.ofChange s with cond := some uptoSmall }

/-- 'laws.FnExactValidMachine', WHERE WHAT IT READS IS OF BULK AT MOST 1048576: true; the input reads as it did. -/
def fnExactValidMachineUptoRow : OpenClaim := { program := "ytahlakhoocjkoaa", sum := "2a66446aab2cc41b39e689d9d419e7bee53ada3994abc5fd16481fd201dd84ec", func := "loop.example/g01357/laws.FnExactValidMachine", spec := "fnExactValidMachine", apart := false, narrowed := true }
def FnExactValidMachineUptoSaid : Prop := fnExactValidMachineUptoRow.holds Try.pinned (OpenSpec.upto fnExactValidMachineSpec)

/-- 'laws.FnExactSameMachine', WHERE WHAT IT READS IS OF BULK AT MOST 1048576: true; the input reads as it did. -/
def fnExactSameMachineUptoRow : OpenClaim := { program := "ytahlakhoocjkoaa", sum := "2a66446aab2cc41b39e689d9d419e7bee53ada3994abc5fd16481fd201dd84ec", func := "loop.example/g01357/laws.FnExactSameMachine", spec := "fnExactSameMachine", apart := false, narrowed := true }
def FnExactSameMachineUptoSaid : Prop := fnExactSameMachineUptoRow.holds Try.pinned (OpenSpec.upto fnExactSameMachineSpec)

/-- 'laws.FnExactIsWord', WHERE WHAT IT READS IS OF BULK AT MOST 1048576: true; the input reads as it did. -/
def fnExactIsWordUptoRow : OpenClaim := { program := "ytahlakhoocjkoaa", sum := "2a66446aab2cc41b39e689d9d419e7bee53ada3994abc5fd16481fd201dd84ec", func := "loop.example/g01357/laws.FnExactIsWord", spec := "fnExactIsWord", apart := false, narrowed := true }
def FnExactIsWordUptoSaid : Prop := fnExactIsWordUptoRow.holds Try.pinned (OpenSpec.upto fnExactIsWordSpec)

/-- 'laws.FnExactEitherOf', WHERE WHAT IT READS IS OF BULK AT MOST 1048576: true; the input reads as it did. -/
def fnExactEitherOfUptoRow : OpenClaim := { program := "ytahlakhoocjkoaa", sum := "2a66446aab2cc41b39e689d9d419e7bee53ada3994abc5fd16481fd201dd84ec", func := "loop.example/g01357/laws.FnExactEitherOf", spec := "fnExactEitherOf", apart := false, narrowed := true }
def FnExactEitherOfUptoSaid : Prop := fnExactEitherOfUptoRow.holds Try.pinned (OpenSpec.upto fnExactEitherOfSpec)

/-- 'laws.FnExactJoinedOf', WHERE WHAT IT READS IS OF BULK AT MOST 1048576: true; the input reads as it did. -/
def fnExactJoinedOfUptoRow : OpenClaim := { program := "ytahlakhoocjkoaa", sum := "2a66446aab2cc41b39e689d9d419e7bee53ada3994abc5fd16481fd201dd84ec", func := "loop.example/g01357/laws.FnExactJoinedOf", spec := "fnExactJoinedOf", apart := false, narrowed := true }
def FnExactJoinedOfUptoSaid : Prop := fnExactJoinedOfUptoRow.holds Try.pinned (OpenSpec.upto fnExactJoinedOfSpec)

/-- 'laws.FnExactRepeatOf', WHERE WHAT IT READS IS OF BULK AT MOST 1048576: true; the input reads as it did. -/
def fnExactRepeatOfUptoRow : OpenClaim := { program := "ytahlakhoocjkoaa", sum := "2a66446aab2cc41b39e689d9d419e7bee53ada3994abc5fd16481fd201dd84ec", func := "loop.example/g01357/laws.FnExactRepeatOf", spec := "fnExactRepeatOf", apart := false, narrowed := true }
def FnExactRepeatOfUptoSaid : Prop := fnExactRepeatOfUptoRow.holds Try.pinned (OpenSpec.upto fnExactRepeatOfSpec)

/-- 'laws.FnExactBackOf', WHERE WHAT IT READS IS OF BULK AT MOST 1048576: true; the input reads as it did. -/
def fnExactBackOfUptoRow : OpenClaim := { program := "ytahlakhoocjkoaa", sum := "2a66446aab2cc41b39e689d9d419e7bee53ada3994abc5fd16481fd201dd84ec", func := "loop.example/g01357/laws.FnExactBackOf", spec := "fnExactBackOf", apart := false, narrowed := true }
def FnExactBackOfUptoSaid : Prop := fnExactBackOfUptoRow.holds Try.pinned (OpenSpec.upto fnExactBackOfSpec)

/-- 'laws.FnExactMeetOf', WHERE WHAT IT READS IS OF BULK AT MOST 1048576: true; the input reads as it did. -/
def fnExactMeetOfUptoRow : OpenClaim := { program := "ytahlakhoocjkoaa", sum := "2a66446aab2cc41b39e689d9d419e7bee53ada3994abc5fd16481fd201dd84ec", func := "loop.example/g01357/laws.FnExactMeetOf", spec := "fnExactMeetOf", apart := false, narrowed := true }
def FnExactMeetOfUptoSaid : Prop := fnExactMeetOfUptoRow.holds Try.pinned (OpenSpec.upto fnExactMeetOfSpec)

/-- 'laws.FnExactTidyOf', WHERE WHAT IT READS IS OF BULK AT MOST 1048576: true; the input reads as it did. -/
def fnExactTidyOfUptoRow : OpenClaim := { program := "ytahlakhoocjkoaa", sum := "2a66446aab2cc41b39e689d9d419e7bee53ada3994abc5fd16481fd201dd84ec", func := "loop.example/g01357/laws.FnExactTidyOf", spec := "fnExactTidyOf", unfollowed := true, recurses := true, apart := false, narrowed := true }
def FnExactTidyOfUptoSaid : Prop := fnExactTidyOfUptoRow.holds Try.pinned (OpenSpec.upto fnExactTidyOfSpec)

/-- 'laws.FnExactCostOf', WHERE WHAT IT READS IS OF BULK AT MOST 1048576: true; the input reads as it did. -/
def fnExactCostOfUptoRow : OpenClaim := { program := "ytahlakhoocjkoaa", sum := "2a66446aab2cc41b39e689d9d419e7bee53ada3994abc5fd16481fd201dd84ec", func := "loop.example/g01357/laws.FnExactCostOf", spec := "fnExactCostOf", apart := false, narrowed := true }
def FnExactCostOfUptoSaid : Prop := fnExactCostOfUptoRow.holds Try.pinned (OpenSpec.upto fnExactCostOfSpec)

/-- 'laws.FnExactEndCosts', WHERE WHAT IT READS IS OF BULK AT MOST 1048576: true; the input reads as it did. -/
def fnExactEndCostsUptoRow : OpenClaim := { program := "ytahlakhoocjkoaa", sum := "2a66446aab2cc41b39e689d9d419e7bee53ada3994abc5fd16481fd201dd84ec", func := "loop.example/g01357/laws.FnExactEndCosts", spec := "fnExactEndCosts", apart := false, narrowed := true }
def FnExactEndCostsUptoSaid : Prop := fnExactEndCostsUptoRow.holds Try.pinned (OpenSpec.upto fnExactEndCostsSpec)

/-- 'laws.FnExactTrimOf', WHERE WHAT IT READS IS OF BULK AT MOST 1048576: true; the input reads as it did. -/
def fnExactTrimOfUptoRow : OpenClaim := { program := "ytahlakhoocjkoaa", sum := "2a66446aab2cc41b39e689d9d419e7bee53ada3994abc5fd16481fd201dd84ec", func := "loop.example/g01357/laws.FnExactTrimOf", spec := "fnExactTrimOf", unfollowed := true, recurses := true, apart := false, narrowed := true }
def FnExactTrimOfUptoSaid : Prop := fnExactTrimOfUptoRow.holds Try.pinned (OpenSpec.upto fnExactTrimOfSpec)

end Rows
end Go.Proofs.Ytahlakhoocjkoaa
