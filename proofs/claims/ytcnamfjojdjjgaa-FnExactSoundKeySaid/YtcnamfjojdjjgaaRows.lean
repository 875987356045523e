/-
  No cell of these rows narrows 'for every input' (looked for: loops, veiled, ifaces, maps, wideKeys, modest, calm, conditions, laid).
  DERIVED. THE GIVEN ROWS OF THIS SEAT. 10 by the template 'for every input the law returns true; each argument reads behind the call as it read before'; 0 by the template 'total and deterministic' (their statements: YtcnamfjojdjjgaaTotals.lean).
  GIVEN WITH THE SEED: the statements are not yours to turn. If you find one false, say at which input.
  Laid BY PROGRAM, IN A SANDBOX (cutbox-rows.mjs): the forced cells as the released guide's own fill.sh prints them over the translation 6b541775c12b8fb3… (all of the seat's roots in one cut). By AI agents, Wed Nov 11 2026. No macro, syntax, notation, axiom, sorry.
-/
import Derived.Test.YtcnamfjojdjjgaaChecked
import GoSem.Claim
import GoSem.ClaimJoined
import GoSem.ClaimMapViews
import Derived.JoinedTies
import Derived.KernelRfl
namespace Go.Proofs.Ytcnamfjojdjjgaa
/- THE CELL 'sum', in the pinned program and in every row, IS THE sha256 OF THE DUMP (.gsa) THAT YtcnamfjojdjjgaaProg.lean LOADS. Nothing in Lean hashes anything: it is a label: what it is worth is what the hold of that sum in a sandbox is worth. -/
noncomputable def Try.pinned : Pinned := { name := "ytcnamfjojdjjgaa", sum := "6b541775c12b8fb3fe32b57fef7d7581f4416be02a91d7d95e040bb84ead1603", checked := Try.checked }
namespace Rows
def none {H : Type} : Left H := { results := [], args := [] }

/-- 'laws.FnExactIsText': WHATEVER THE INPUT: true; the input reads as it did. -/
def fnExactIsTextSpec : ChangeSpec := { name := "fnExactIsText", fn := fun _ => fun
  | [d] => { results := [.lit (.bool true)], args := [d] }
  | _ => none }
def fnExactIsTextRow : OpenClaim := { program := "ytcnamfjojdjjgaa", sum := "6b541775c12b8fb3fe32b57fef7d7581f4416be02a91d7d95e040bb84ead1603", func := "loop.example/g01357/laws.FnExactIsText", spec := "fnExactIsText", apart := false }
def FnExactIsTextSaid : Prop := fnExactIsTextRow.holds Try.pinned (OpenSpec.ofChange fnExactIsTextSpec)

/-- ITS FALSE NEIGHBOUR: 'it returns false'. Refute it at one input. -/
def fnExactIsTextWrong : ChangeSpec := { name := "fnExactIsText", fn := fun _ => fun
  | [d] => { results := [.lit (.bool false)], args := [d] }
  | _ => none }
def FnExactIsTextWrongFalsely : Prop := fnExactIsTextRow.holds Try.pinned (OpenSpec.ofChange fnExactIsTextWrong)

/-- 'laws.FnExactEditCost': WHATEVER THE INPUT: true; the input reads as it did. -/
def fnExactEditCostSpec : ChangeSpec := { name := "fnExactEditCost", fn := fun _ => fun
  | [d1, d2, d3, d4, d5] => { results := [.lit (.bool true)], args := [d1, d2, d3, d4, d5] }
  | _ => none }
def fnExactEditCostRow : OpenClaim := { program := "ytcnamfjojdjjgaa", sum := "6b541775c12b8fb3fe32b57fef7d7581f4416be02a91d7d95e040bb84ead1603", func := "loop.example/g01357/laws.FnExactEditCost", spec := "fnExactEditCost", unfollowed := true, recurses := true, apart := false }
def FnExactEditCostSaid : Prop := fnExactEditCostRow.holds Try.pinned (OpenSpec.ofChange fnExactEditCostSpec)

/-- ITS FALSE NEIGHBOUR: 'it returns false'. Refute it at one input. -/
def fnExactEditCostWrong : ChangeSpec := { name := "fnExactEditCost", fn := fun _ => fun
  | [d1, d2, d3, d4, d5] => { results := [.lit (.bool false)], args := [d1, d2, d3, d4, d5] }
  | _ => none }
def FnExactEditCostWrongFalsely : Prop := fnExactEditCostRow.holds Try.pinned (OpenSpec.ofChange fnExactEditCostWrong)

/-- 'laws.FnExactEditSteps': WHATEVER THE INPUT: true; the input reads as it did. -/
def fnExactEditStepsSpec : ChangeSpec := { name := "fnExactEditSteps", fn := fun _ => fun
  | [d1, d2] => { results := [.lit (.bool true)], args := [d1, d2] }
  | _ => none }
def fnExactEditStepsRow : OpenClaim := { program := "ytcnamfjojdjjgaa", sum := "6b541775c12b8fb3fe32b57fef7d7581f4416be02a91d7d95e040bb84ead1603", func := "loop.example/g01357/laws.FnExactEditSteps", spec := "fnExactEditSteps", unfollowed := true, recurses := true, apart := false }
def FnExactEditStepsSaid : Prop := fnExactEditStepsRow.holds Try.pinned (OpenSpec.ofChange fnExactEditStepsSpec)

/-- ITS FALSE NEIGHBOUR: 'it returns false'. Refute it at one input. -/
def fnExactEditStepsWrong : ChangeSpec := { name := "fnExactEditSteps", fn := fun _ => fun
  | [d1, d2] => { results := [.lit (.bool false)], args := [d1, d2] }
  | _ => none }
def FnExactEditStepsWrongFalsely : Prop := fnExactEditStepsRow.holds Try.pinned (OpenSpec.ofChange fnExactEditStepsWrong)

/-- 'laws.FnExactApplySteps': WHATEVER THE INPUT: true; the input reads as it did. -/
def fnExactApplyStepsSpec : ChangeSpec := { name := "fnExactApplySteps", fn := fun _ => fun
  | [d1, d2, d3] => { results := [.lit (.bool true)], args := [d1, d2, d3] }
  | _ => none }
def fnExactApplyStepsRow : OpenClaim := { program := "ytcnamfjojdjjgaa", sum := "6b541775c12b8fb3fe32b57fef7d7581f4416be02a91d7d95e040bb84ead1603", func := "loop.example/g01357/laws.FnExactApplySteps", spec := "fnExactApplySteps", unfollowed := true, recurses := true, apart := false }
def FnExactApplyStepsSaid : Prop := fnExactApplyStepsRow.holds Try.pinned (OpenSpec.ofChange fnExactApplyStepsSpec)

/-- ITS FALSE NEIGHBOUR: 'it returns false'. Refute it at one input. -/
def fnExactApplyStepsWrong : ChangeSpec := { name := "fnExactApplySteps", fn := fun _ => fun
  | [d1, d2, d3] => { results := [.lit (.bool false)], args := [d1, d2, d3] }
  | _ => none }
def FnExactApplyStepsWrongFalsely : Prop := fnExactApplyStepsRow.holds Try.pinned (OpenSpec.ofChange fnExactApplyStepsWrong)

/-- 'laws.FnExactSwapCost': WHATEVER THE INPUT: true; the input reads as it did. -/
def fnExactSwapCostSpec : ChangeSpec := { name := "fnExactSwapCost", fn := fun _ => fun
  | [d1, d2] => { results := [.lit (.bool true)], args := [d1, d2] }
  | _ => none }
def fnExactSwapCostRow : OpenClaim := { program := "ytcnamfjojdjjgaa", sum := "6b541775c12b8fb3fe32b57fef7d7581f4416be02a91d7d95e040bb84ead1603", func := "loop.example/g01357/laws.FnExactSwapCost", spec := "fnExactSwapCost", unfollowed := true, recurses := true, apart := false }
def FnExactSwapCostSaid : Prop := fnExactSwapCostRow.holds Try.pinned (OpenSpec.ofChange fnExactSwapCostSpec)

/-- ITS FALSE NEIGHBOUR: 'it returns false'. Refute it at one input. -/
def fnExactSwapCostWrong : ChangeSpec := { name := "fnExactSwapCost", fn := fun _ => fun
  | [d1, d2] => { results := [.lit (.bool false)], args := [d1, d2] }
  | _ => none }
def FnExactSwapCostWrongFalsely : Prop := fnExactSwapCostRow.holds Try.pinned (OpenSpec.ofChange fnExactSwapCostWrong)

/-- 'laws.FnExactAlignGain': WHATEVER THE INPUT: true; the input reads as it did. -/
def fnExactAlignGainSpec : ChangeSpec := { name := "fnExactAlignGain", fn := fun _ => fun
  | [d1, d2, d3, d4, d5, d6] => { results := [.lit (.bool true)], args := [d1, d2, d3, d4, d5, d6] }
  | _ => none }
def fnExactAlignGainRow : OpenClaim := { program := "ytcnamfjojdjjgaa", sum := "6b541775c12b8fb3fe32b57fef7d7581f4416be02a91d7d95e040bb84ead1603", func := "loop.example/g01357/laws.FnExactAlignGain", spec := "fnExactAlignGain", unfollowed := true, recurses := true, apart := false }
def FnExactAlignGainSaid : Prop := fnExactAlignGainRow.holds Try.pinned (OpenSpec.ofChange fnExactAlignGainSpec)

/-- ITS FALSE NEIGHBOUR: 'it returns false'. Refute it at one input. -/
def fnExactAlignGainWrong : ChangeSpec := { name := "fnExactAlignGain", fn := fun _ => fun
  | [d1, d2, d3, d4, d5, d6] => { results := [.lit (.bool false)], args := [d1, d2, d3, d4, d5, d6] }
  | _ => none }
def FnExactAlignGainWrongFalsely : Prop := fnExactAlignGainRow.holds Try.pinned (OpenSpec.ofChange fnExactAlignGainWrong)

/-- 'laws.FnExactLocalGain': WHATEVER THE INPUT: true; the input reads as it did. -/
def fnExactLocalGainSpec : ChangeSpec := { name := "fnExactLocalGain", fn := fun _ => fun
  | [d1, d2, d3, d4, d5] => { results := [.lit (.bool true)], args := [d1, d2, d3, d4, d5] }
  | _ => none }
def fnExactLocalGainRow : OpenClaim := { program := "ytcnamfjojdjjgaa", sum := "6b541775c12b8fb3fe32b57fef7d7581f4416be02a91d7d95e040bb84ead1603", func := "loop.example/g01357/laws.FnExactLocalGain", spec := "fnExactLocalGain", unfollowed := true, recurses := true, apart := false }
def FnExactLocalGainSaid : Prop := fnExactLocalGainRow.holds Try.pinned (OpenSpec.ofChange fnExactLocalGainSpec)

/-- ITS FALSE NEIGHBOUR: 'it returns false'. Refute it at one input. -/
def fnExactLocalGainWrong : ChangeSpec := { name := "fnExactLocalGain", fn := fun _ => fun
  | [d1, d2, d3, d4, d5] => { results := [.lit (.bool false)], args := [d1, d2, d3, d4, d5] }
  | _ => none }
def FnExactLocalGainWrongFalsely : Prop := fnExactLocalGainRow.holds Try.pinned (OpenSpec.ofChange fnExactLocalGainWrong)

/-- 'laws.FnExactCommonText': WHATEVER THE INPUT: true; the input reads as it did. -/
def fnExactCommonTextSpec : ChangeSpec := { name := "fnExactCommonText", fn := fun _ => fun
  | [d1, d2] => { results := [.lit (.bool true)], args := [d1, d2] }
  | _ => none }
def fnExactCommonTextRow : OpenClaim := { program := "ytcnamfjojdjjgaa", sum := "6b541775c12b8fb3fe32b57fef7d7581f4416be02a91d7d95e040bb84ead1603", func := "loop.example/g01357/laws.FnExactCommonText", spec := "fnExactCommonText", unfollowed := true, recurses := true, apart := false }
def FnExactCommonTextSaid : Prop := fnExactCommonTextRow.holds Try.pinned (OpenSpec.ofChange fnExactCommonTextSpec)

/-- ITS FALSE NEIGHBOUR: 'it returns false'. Refute it at one input. -/
def fnExactCommonTextWrong : ChangeSpec := { name := "fnExactCommonText", fn := fun _ => fun
  | [d1, d2] => { results := [.lit (.bool false)], args := [d1, d2] }
  | _ => none }
def FnExactCommonTextWrongFalsely : Prop := fnExactCommonTextRow.holds Try.pinned (OpenSpec.ofChange fnExactCommonTextWrong)

/-- 'laws.FnExactCommonStart': WHATEVER THE INPUT: true; the input reads as it did. -/
def fnExactCommonStartSpec : ChangeSpec := { name := "fnExactCommonStart", fn := fun _ => fun
  | [d] => { results := [.lit (.bool true)], args := [d] }
  | _ => none }
def fnExactCommonStartRow : OpenClaim := { program := "ytcnamfjojdjjgaa", sum := "6b541775c12b8fb3fe32b57fef7d7581f4416be02a91d7d95e040bb84ead1603", func := "loop.example/g01357/laws.FnExactCommonStart", spec := "fnExactCommonStart", unfollowed := true, recurses := true, apart := false }
def FnExactCommonStartSaid : Prop := fnExactCommonStartRow.holds Try.pinned (OpenSpec.ofChange fnExactCommonStartSpec)

/-- ITS FALSE NEIGHBOUR: 'it returns false'. Refute it at one input. -/
def fnExactCommonStartWrong : ChangeSpec := { name := "fnExactCommonStart", fn := fun _ => fun
  | [d] => { results := [.lit (.bool false)], args := [d] }
  | _ => none }
def FnExactCommonStartWrongFalsely : Prop := fnExactCommonStartRow.holds Try.pinned (OpenSpec.ofChange fnExactCommonStartWrong)

/-- 'laws.FnExactSoundKey': WHATEVER THE INPUT: true; the input reads as it did. -/
def fnExactSoundKeySpec : ChangeSpec := { name := "fnExactSoundKey", fn := fun _ => fun
  | [d] => { results := [.lit (.bool true)], args := [d] }
  | _ => none }
def fnExactSoundKeyRow : OpenClaim := { program := "ytcnamfjojdjjgaa", sum := "6b541775c12b8fb3fe32b57fef7d7581f4416be02a91d7d95e040bb84ead1603", func := "loop.example/g01357/laws.FnExactSoundKey", spec := "fnExactSoundKey", unfollowed := true, recurses := true, apart := false }
def FnExactSoundKeySaid : Prop := fnExactSoundKeyRow.holds Try.pinned (OpenSpec.ofChange fnExactSoundKeySpec)

/-- ITS FALSE NEIGHBOUR: 'it returns false'. Refute it at one input. -/
def fnExactSoundKeyWrong : ChangeSpec := { name := "fnExactSoundKey", fn := fun _ => fun
  | [d] => { results := [.lit (.bool false)], args := [d] }
  | _ => none }
def FnExactSoundKeyWrongFalsely : Prop := fnExactSoundKeyRow.holds Try.pinned (OpenSpec.ofChange fnExactSoundKeyWrong)

/- THE SECOND FORM. 'bulk': how many values and letters a reading holds, each counted each time it is reached (what is shared counts as often as it is met; a slice's spare places count too). A statement '..UptoSaid' is the law's where the arguments, and the package variables that the reading takes, are together of bulk at most 1048576: NARROWER than '..Said'. Prove '..Said' where nothing that the law and all that it calls make is longer than what came in: it says more and counts as full. Else prove '..UptoSaid'. A law counts once. -/
mutual
def uptoBulk {H : Type} : DataW H → Nat
  | .lit (.string bytes) => bytes.length + 1
  | .lit _ => 1
  | .nil => 1
  | .ptr d => uptoBulk d + 1
  | .slice elems spare => uptoBulkAll elems + uptoBulkAll spare + 1
  | .agg parts => uptoBulkAll parts + 1
  | .iface _ d => uptoBulk d + 1
  | .map entries => uptoBulkEntries entries + 1
  | .held _ => 1
def uptoBulkAll {H : Type} : List (DataW H) → Nat
  | [] => 0
  | d :: r => uptoBulk d + uptoBulkAll r
def uptoBulkEntries {H : Type} : List (Lit × DataW H) → Nat
  | [] => 0
  | x :: r => uptoBulkEntry x + uptoBulkEntries r
def uptoBulkEntry {H : Type} : Lit × DataW H → Nat
  | (.string bytes, d) => bytes.length + uptoBulk d + 1
  | (_, d) => uptoBulk d + 1
 end
def uptoSmall : (H : Type) → List (DataW H) → Bool := fun _ ds => decide (uptoBulkAll ds ≤ 1048576)
def OpenSpec.upto (s : _root_.Go.ChangeSpec) : _root_.Go.OpenSpec := { _root_.Go.OpenSpec.ofChange s with cond := some uptoSmall }

/-- 'laws.FnExactIsText', WHERE WHAT IT READS IS OF BULK AT MOST 1048576: true; the input reads as it did. -/
def fnExactIsTextUptoRow : OpenClaim := { program := "ytcnamfjojdjjgaa", sum := "6b541775c12b8fb3fe32b57fef7d7581f4416be02a91d7d95e040bb84ead1603", func := "loop.example/g01357/laws.FnExactIsText", spec := "fnExactIsText", apart := false, narrowed := true }
def FnExactIsTextUptoSaid : Prop := fnExactIsTextUptoRow.holds Try.pinned (OpenSpec.upto fnExactIsTextSpec)

/-- 'laws.FnExactEditCost', WHERE WHAT IT READS IS OF BULK AT MOST 1048576: true; the input reads as it did. -/
def fnExactEditCostUptoRow : OpenClaim := { program := "ytcnamfjojdjjgaa", sum := "6b541775c12b8fb3fe32b57fef7d7581f4416be02a91d7d95e040bb84ead1603", func := "loop.example/g01357/laws.FnExactEditCost", spec := "fnExactEditCost", unfollowed := true, recurses := true, apart := false, narrowed := true }
def FnExactEditCostUptoSaid : Prop := fnExactEditCostUptoRow.holds Try.pinned (OpenSpec.upto fnExactEditCostSpec)

/-- 'laws.FnExactEditSteps', WHERE WHAT IT READS IS OF BULK AT MOST 1048576: true; the input reads as it did. -/
def fnExactEditStepsUptoRow : OpenClaim := { program := "ytcnamfjojdjjgaa", sum := "6b541775c12b8fb3fe32b57fef7d7581f4416be02a91d7d95e040bb84ead1603", func := "loop.example/g01357/laws.FnExactEditSteps", spec := "fnExactEditSteps", unfollowed := true, recurses := true, apart := false, narrowed := true }
def FnExactEditStepsUptoSaid : Prop := fnExactEditStepsUptoRow.holds Try.pinned (OpenSpec.upto fnExactEditStepsSpec)

/-- 'laws.FnExactApplySteps', WHERE WHAT IT READS IS OF BULK AT MOST 1048576: true; the input reads as it did. -/
def fnExactApplyStepsUptoRow : OpenClaim := { program := "ytcnamfjojdjjgaa", sum := "6b541775c12b8fb3fe32b57fef7d7581f4416be02a91d7d95e040bb84ead1603", func := "loop.example/g01357/laws.FnExactApplySteps", spec := "fnExactApplySteps", unfollowed := true, recurses := true, apart := false, narrowed := true }
def FnExactApplyStepsUptoSaid : Prop := fnExactApplyStepsUptoRow.holds Try.pinned (OpenSpec.upto fnExactApplyStepsSpec)

/-- 'laws.FnExactSwapCost', WHERE WHAT IT READS IS OF BULK AT MOST 1048576: true; the input reads as it did. -/
def fnExactSwapCostUptoRow : OpenClaim := { program := "ytcnamfjojdjjgaa", sum := "6b541775c12b8fb3fe32b57fef7d7581f4416be02a91d7d95e040bb84ead1603", func := "loop.example/g01357/laws.FnExactSwapCost", spec := "fnExactSwapCost", unfollowed := true, recurses := true, apart := false, narrowed := true }
def FnExactSwapCostUptoSaid : Prop := fnExactSwapCostUptoRow.holds Try.pinned (OpenSpec.upto fnExactSwapCostSpec)

/-- 'laws.FnExactAlignGain', WHERE WHAT IT READS IS OF BULK AT MOST 1048576: true; the input reads as it did. -/
def fnExactAlignGainUptoRow : OpenClaim := { program := "ytcnamfjojdjjgaa", sum := "6b541775c12b8fb3fe32b57fef7d7581f4416be02a91d7d95e040bb84ead1603", func := "loop.example/g01357/laws.FnExactAlignGain", spec := "fnExactAlignGain", unfollowed := true, recurses := true, apart := false, narrowed := true }
def FnExactAlignGainUptoSaid : Prop := fnExactAlignGainUptoRow.holds Try.pinned (OpenSpec.upto fnExactAlignGainSpec)

/-- 'laws.FnExactLocalGain', WHERE WHAT IT READS IS OF BULK AT MOST 1048576: true; the input reads as it did. -/
def fnExactLocalGainUptoRow : OpenClaim := { program := "ytcnamfjojdjjgaa", sum := "6b541775c12b8fb3fe32b57fef7d7581f4416be02a91d7d95e040bb84ead1603", func := "loop.example/g01357/laws.FnExactLocalGain", spec := "fnExactLocalGain", unfollowed := true, recurses := true, apart := false, narrowed := true }
def FnExactLocalGainUptoSaid : Prop := fnExactLocalGainUptoRow.holds Try.pinned (OpenSpec.upto fnExactLocalGainSpec)

/-- 'laws.FnExactCommonText', WHERE WHAT IT READS IS OF BULK AT MOST 1048576: true; the input reads as it did. -/
def fnExactCommonTextUptoRow : OpenClaim := { program := "ytcnamfjojdjjgaa", sum := "6b541775c12b8fb3fe32b57fef7d7581f4416be02a91d7d95e040bb84ead1603", func := "loop.example/g01357/laws.FnExactCommonText", spec := "fnExactCommonText", unfollowed := true, recurses := true, apart := false, narrowed := true }
def FnExactCommonTextUptoSaid : Prop := fnExactCommonTextUptoRow.holds Try.pinned (OpenSpec.upto fnExactCommonTextSpec)

/-- 'laws.FnExactCommonStart', WHERE WHAT IT READS IS OF BULK AT MOST 1048576: true; the input reads as it did. -/
def fnExactCommonStartUptoRow : OpenClaim := { program := "ytcnamfjojdjjgaa", sum := "6b541775c12b8fb3fe32b57fef7d7581f4416be02a91d7d95e040bb84ead1603", func := "loop.example/g01357/laws.FnExactCommonStart", spec := "fnExactCommonStart", unfollowed := true, recurses := true, apart := false, narrowed := true }
def FnExactCommonStartUptoSaid : Prop := fnExactCommonStartUptoRow.holds Try.pinned (OpenSpec.upto fnExactCommonStartSpec)

/-- 'laws.FnExactSoundKey', WHERE WHAT IT READS IS OF BULK AT MOST 1048576: true; the input reads as it did. -/
def fnExactSoundKeyUptoRow : OpenClaim := { program := "ytcnamfjojdjjgaa", sum := "6b541775c12b8fb3fe32b57fef7d7581f4416be02a91d7d95e040bb84ead1603", func := "loop.example/g01357/laws.FnExactSoundKey", spec := "fnExactSoundKey", unfollowed := true, recurses := true, apart := false, narrowed := true }
def FnExactSoundKeyUptoSaid : Prop := fnExactSoundKeyUptoRow.holds Try.pinned (OpenSpec.upto fnExactSoundKeySpec)

end Rows
end Go.Proofs.Ytcnamfjojdjjgaa
