/-
  No cell of these rows narrows 'for every input' (looked for: loops, veiled, ifaces, maps, wideKeys, modest, calm, conditions, laid).
  DERIVED. THE GIVEN ROWS OF THIS SEAT. 12 by the template 'for every input the law returns true; each argument reads behind the call as it read before'; 0 by the template 'total and deterministic' (their statements: YtcpjidbinhfapaaTotals.lean).
  GIVEN WITH THE SEED: the statements are not yours to turn. If you find one false, say at which input.
  Laid BY PROGRAM, IN A SANDBOX (cutbox-rows.mjs): the forced cells as the released guide's own fill.sh prints them over the translation 61af0405b138a136… (all of the seat's roots in one cut). By AI agents, Wed Nov 11 2026. No macro, syntax, notation, axiom, sorry.
-/
import Derived.Test.YtcpjidbinhfapaaChecked
import GoSem.Claim
import GoSem.ClaimJoined
import GoSem.ClaimMapViews
import Derived.JoinedTies
import Derived.KernelRfl
namespace Go.Proofs.Ytcpjidbinhfapaa
/- THE CELL 'sum', in the pinned program and in every row, IS THE sha256 OF THE DUMP (.gsa) THAT YtcpjidbinhfapaaProg.lean LOADS. Nothing in Lean hashes anything: it is a label: what it is worth is what the hold of that sum in a sandbox is worth. -/
noncomputable def Try.pinned : Pinned := { name := "ytcpjidbinhfapaa", sum := "61af0405b138a136498685697d9cc53db765c33d0a0cf0f8330b4d110cefc280", checked := Try.checked }
namespace Rows
def none {H : Type} : Left H := { results := [], args := [] }

/-- 'laws.FnExactKeyGroup': WHATEVER THE INPUT: true; the input reads as it did. -/
def fnExactKeyGroupSpec : ChangeSpec := { name := "fnExactKeyGroup", fn := fun _ => fun
  | [d] => { results := [.lit (.bool true)], args := [d] }
  | _ => none }
def fnExactKeyGroupRow : OpenClaim := { program := "ytcpjidbinhfapaa", sum := "61af0405b138a136498685697d9cc53db765c33d0a0cf0f8330b4d110cefc280", func := "loop.example/eventstreams/laws.FnExactKeyGroup", spec := "fnExactKeyGroup", apart := false }
def FnExactKeyGroupSaid : Prop := fnExactKeyGroupRow.holds Try.pinned (OpenSpec.ofChange fnExactKeyGroupSpec)

/-- ITS FALSE NEIGHBOUR: 'it returns false'. Refute it at one input. -/
def fnExactKeyGroupWrong : ChangeSpec := { name := "fnExactKeyGroup", fn := fun _ => fun
  | [d] => { results := [.lit (.bool false)], args := [d] }
  | _ => none }
def FnExactKeyGroupWrongFalsely : Prop := fnExactKeyGroupRow.holds Try.pinned (OpenSpec.ofChange fnExactKeyGroupWrong)

/-- 'laws.FnExactGroupRange': WHATEVER THE INPUT: true; the input reads as it did. -/
def fnExactGroupRangeSpec : ChangeSpec := { name := "fnExactGroupRange", fn := fun _ => fun
  | [d1, d2] => { results := [.lit (.bool true)], args := [d1, d2] }
  | _ => none }
def fnExactGroupRangeRow : OpenClaim := { program := "ytcpjidbinhfapaa", sum := "61af0405b138a136498685697d9cc53db765c33d0a0cf0f8330b4d110cefc280", func := "loop.example/eventstreams/laws.FnExactGroupRange", spec := "fnExactGroupRange", apart := false }
def FnExactGroupRangeSaid : Prop := fnExactGroupRangeRow.holds Try.pinned (OpenSpec.ofChange fnExactGroupRangeSpec)

/-- ITS FALSE NEIGHBOUR: 'it returns false'. Refute it at one input. -/
def fnExactGroupRangeWrong : ChangeSpec := { name := "fnExactGroupRange", fn := fun _ => fun
  | [d1, d2] => { results := [.lit (.bool false)], args := [d1, d2] }
  | _ => none }
def FnExactGroupRangeWrongFalsely : Prop := fnExactGroupRangeRow.holds Try.pinned (OpenSpec.ofChange fnExactGroupRangeWrong)

/-- 'laws.FnExactSubtaskOf': WHATEVER THE INPUT: true; the input reads as it did. -/
def fnExactSubtaskOfSpec : ChangeSpec := { name := "fnExactSubtaskOf", fn := fun _ => fun
  | [d1, d2] => { results := [.lit (.bool true)], args := [d1, d2] }
  | _ => none }
def fnExactSubtaskOfRow : OpenClaim := { program := "ytcpjidbinhfapaa", sum := "61af0405b138a136498685697d9cc53db765c33d0a0cf0f8330b4d110cefc280", func := "loop.example/eventstreams/laws.FnExactSubtaskOf", spec := "fnExactSubtaskOf", apart := false }
def FnExactSubtaskOfSaid : Prop := fnExactSubtaskOfRow.holds Try.pinned (OpenSpec.ofChange fnExactSubtaskOfSpec)

/-- ITS FALSE NEIGHBOUR: 'it returns false'. Refute it at one input. -/
def fnExactSubtaskOfWrong : ChangeSpec := { name := "fnExactSubtaskOf", fn := fun _ => fun
  | [d1, d2] => { results := [.lit (.bool false)], args := [d1, d2] }
  | _ => none }
def FnExactSubtaskOfWrongFalsely : Prop := fnExactSubtaskOfRow.holds Try.pinned (OpenSpec.ofChange fnExactSubtaskOfWrong)

/-- 'laws.FnExactMovedGroups': WHATEVER THE INPUT: true; the input reads as it did. -/
def fnExactMovedGroupsSpec : ChangeSpec := { name := "fnExactMovedGroups", fn := fun _ => fun
  | [d1, d2] => { results := [.lit (.bool true)], args := [d1, d2] }
  | _ => none }
def fnExactMovedGroupsRow : OpenClaim := { program := "ytcpjidbinhfapaa", sum := "61af0405b138a136498685697d9cc53db765c33d0a0cf0f8330b4d110cefc280", func := "loop.example/eventstreams/laws.FnExactMovedGroups", spec := "fnExactMovedGroups", apart := false }
def FnExactMovedGroupsSaid : Prop := fnExactMovedGroupsRow.holds Try.pinned (OpenSpec.ofChange fnExactMovedGroupsSpec)

/-- ITS FALSE NEIGHBOUR: 'it returns false'. Refute it at one input. -/
def fnExactMovedGroupsWrong : ChangeSpec := { name := "fnExactMovedGroups", fn := fun _ => fun
  | [d1, d2] => { results := [.lit (.bool false)], args := [d1, d2] }
  | _ => none }
def FnExactMovedGroupsWrongFalsely : Prop := fnExactMovedGroupsRow.holds Try.pinned (OpenSpec.ofChange fnExactMovedGroupsWrong)

/-- 'laws.FnKeyGroup': WHATEVER THE INPUT: true; the input reads as it did. -/
def fnKeyGroupSpec : ChangeSpec := { name := "fnKeyGroup", fn := fun _ => fun
  | [d] => { results := [.lit (.bool true)], args := [d] }
  | _ => none }
def fnKeyGroupRow : OpenClaim := { program := "ytcpjidbinhfapaa", sum := "61af0405b138a136498685697d9cc53db765c33d0a0cf0f8330b4d110cefc280", func := "loop.example/eventstreams/laws.FnKeyGroup", spec := "fnKeyGroup", apart := false }
def FnKeyGroupSaid : Prop := fnKeyGroupRow.holds Try.pinned (OpenSpec.ofChange fnKeyGroupSpec)

/-- ITS FALSE NEIGHBOUR: 'it returns false'. Refute it at one input. -/
def fnKeyGroupWrong : ChangeSpec := { name := "fnKeyGroup", fn := fun _ => fun
  | [d] => { results := [.lit (.bool false)], args := [d] }
  | _ => none }
def FnKeyGroupWrongFalsely : Prop := fnKeyGroupRow.holds Try.pinned (OpenSpec.ofChange fnKeyGroupWrong)

/-- 'laws.FnGroupRange': WHATEVER THE INPUT: true; the input reads as it did. -/
def fnGroupRangeSpec : ChangeSpec := { name := "fnGroupRange", fn := fun _ => fun
  | [d] => { results := [.lit (.bool true)], args := [d] }
  | _ => none }
def fnGroupRangeRow : OpenClaim := { program := "ytcpjidbinhfapaa", sum := "61af0405b138a136498685697d9cc53db765c33d0a0cf0f8330b4d110cefc280", func := "loop.example/eventstreams/laws.FnGroupRange", spec := "fnGroupRange", apart := false }
def FnGroupRangeSaid : Prop := fnGroupRangeRow.holds Try.pinned (OpenSpec.ofChange fnGroupRangeSpec)

/-- ITS FALSE NEIGHBOUR: 'it returns false'. Refute it at one input. -/
def fnGroupRangeWrong : ChangeSpec := { name := "fnGroupRange", fn := fun _ => fun
  | [d] => { results := [.lit (.bool false)], args := [d] }
  | _ => none }
def FnGroupRangeWrongFalsely : Prop := fnGroupRangeRow.holds Try.pinned (OpenSpec.ofChange fnGroupRangeWrong)

/-- 'laws.FnSubtaskOf': WHATEVER THE INPUT: true; the input reads as it did. -/
def fnSubtaskOfSpec : ChangeSpec := { name := "fnSubtaskOf", fn := fun _ => fun
  | [d] => { results := [.lit (.bool true)], args := [d] }
  | _ => none }
def fnSubtaskOfRow : OpenClaim := { program := "ytcpjidbinhfapaa", sum := "61af0405b138a136498685697d9cc53db765c33d0a0cf0f8330b4d110cefc280", func := "loop.example/eventstreams/laws.FnSubtaskOf", spec := "fnSubtaskOf", apart := false }
def FnSubtaskOfSaid : Prop := fnSubtaskOfRow.holds Try.pinned (OpenSpec.ofChange fnSubtaskOfSpec)

/-- ITS FALSE NEIGHBOUR: 'it returns false'. Refute it at one input. -/
def fnSubtaskOfWrong : ChangeSpec := { name := "fnSubtaskOf", fn := fun _ => fun
  | [d] => { results := [.lit (.bool false)], args := [d] }
  | _ => none }
def FnSubtaskOfWrongFalsely : Prop := fnSubtaskOfRow.holds Try.pinned (OpenSpec.ofChange fnSubtaskOfWrong)

/-- 'laws.FnMovedGroups': WHATEVER THE INPUT: true; the input reads as it did. -/
def fnMovedGroupsSpec : ChangeSpec := { name := "fnMovedGroups", fn := fun _ => fun
  | [d] => { results := [.lit (.bool true)], args := [d] }
  | _ => none }
def fnMovedGroupsRow : OpenClaim := { program := "ytcpjidbinhfapaa", sum := "61af0405b138a136498685697d9cc53db765c33d0a0cf0f8330b4d110cefc280", func := "loop.example/eventstreams/laws.FnMovedGroups", spec := "fnMovedGroups", apart := false }
def FnMovedGroupsSaid : Prop := fnMovedGroupsRow.holds Try.pinned (OpenSpec.ofChange fnMovedGroupsSpec)

/-- ITS FALSE NEIGHBOUR: 'it returns false'. Refute it at one input. -/
def fnMovedGroupsWrong : ChangeSpec := { name := "fnMovedGroups", fn := fun _ => fun
  | [d] => { results := [.lit (.bool false)], args := [d] }
  | _ => none }
def FnMovedGroupsWrongFalsely : Prop := fnMovedGroupsRow.holds Try.pinned (OpenSpec.ofChange fnMovedGroupsWrong)

/-- 'laws.FnExactChannelNew': WHATEVER THE INPUT: true; the input reads as it did. -/
def fnExactChannelNewSpec : ChangeSpec := { name := "fnExactChannelNew", fn := fun _ => fun
  | [d] => { results := [.lit (.bool true)], args := [d] }
  | _ => none }
def fnExactChannelNewRow : OpenClaim := { program := "ytcpjidbinhfapaa", sum := "61af0405b138a136498685697d9cc53db765c33d0a0cf0f8330b4d110cefc280", func := "loop.example/eventstreams/laws.FnExactChannelNew", spec := "fnExactChannelNew", apart := false }
def FnExactChannelNewSaid : Prop := fnExactChannelNewRow.holds Try.pinned (OpenSpec.ofChange fnExactChannelNewSpec)

/-- ITS FALSE NEIGHBOUR: 'it returns false'. Refute it at one input. -/
def fnExactChannelNewWrong : ChangeSpec := { name := "fnExactChannelNew", fn := fun _ => fun
  | [d] => { results := [.lit (.bool false)], args := [d] }
  | _ => none }
def FnExactChannelNewWrongFalsely : Prop := fnExactChannelNewRow.holds Try.pinned (OpenSpec.ofChange fnExactChannelNewWrong)

/-- 'laws.FnExactSendItem': WHATEVER THE INPUT: true; the input reads as it did. -/
def fnExactSendItemSpec : ChangeSpec := { name := "fnExactSendItem", fn := fun _ => fun
  | [d1, d2] => { results := [.lit (.bool true)], args := [d1, d2] }
  | _ => none }
def fnExactSendItemRow : OpenClaim := { program := "ytcpjidbinhfapaa", sum := "61af0405b138a136498685697d9cc53db765c33d0a0cf0f8330b4d110cefc280", func := "loop.example/eventstreams/laws.FnExactSendItem", spec := "fnExactSendItem", unfollowed := true, recurses := true, apart := false }
def FnExactSendItemSaid : Prop := fnExactSendItemRow.holds Try.pinned (OpenSpec.ofChange fnExactSendItemSpec)

/-- ITS FALSE NEIGHBOUR: 'it returns false'. Refute it at one input. -/
def fnExactSendItemWrong : ChangeSpec := { name := "fnExactSendItem", fn := fun _ => fun
  | [d1, d2] => { results := [.lit (.bool false)], args := [d1, d2] }
  | _ => none }
def FnExactSendItemWrongFalsely : Prop := fnExactSendItemRow.holds Try.pinned (OpenSpec.ofChange fnExactSendItemWrong)

/-- 'laws.FnExactTakeItem': WHATEVER THE INPUT: true; the input reads as it did. -/
def fnExactTakeItemSpec : ChangeSpec := { name := "fnExactTakeItem", fn := fun _ => fun
  | [d] => { results := [.lit (.bool true)], args := [d] }
  | _ => none }
def fnExactTakeItemRow : OpenClaim := { program := "ytcpjidbinhfapaa", sum := "61af0405b138a136498685697d9cc53db765c33d0a0cf0f8330b4d110cefc280", func := "loop.example/eventstreams/laws.FnExactTakeItem", spec := "fnExactTakeItem", unfollowed := true, recurses := true, apart := false }
def FnExactTakeItemSaid : Prop := fnExactTakeItemRow.holds Try.pinned (OpenSpec.ofChange fnExactTakeItemSpec)

/-- ITS FALSE NEIGHBOUR: 'it returns false'. Refute it at one input. -/
def fnExactTakeItemWrong : ChangeSpec := { name := "fnExactTakeItem", fn := fun _ => fun
  | [d] => { results := [.lit (.bool false)], args := [d] }
  | _ => none }
def FnExactTakeItemWrongFalsely : Prop := fnExactTakeItemRow.holds Try.pinned (OpenSpec.ofChange fnExactTakeItemWrong)

/-- 'laws.FnExactGrantCredit': WHATEVER THE INPUT: true; the input reads as it did. -/
def fnExactGrantCreditSpec : ChangeSpec := { name := "fnExactGrantCredit", fn := fun _ => fun
  | [d] => { results := [.lit (.bool true)], args := [d] }
  | _ => none }
def fnExactGrantCreditRow : OpenClaim := { program := "ytcpjidbinhfapaa", sum := "61af0405b138a136498685697d9cc53db765c33d0a0cf0f8330b4d110cefc280", func := "loop.example/eventstreams/laws.FnExactGrantCredit", spec := "fnExactGrantCredit", unfollowed := true, recurses := true, apart := false }
def FnExactGrantCreditSaid : Prop := fnExactGrantCreditRow.holds Try.pinned (OpenSpec.ofChange fnExactGrantCreditSpec)

/-- ITS FALSE NEIGHBOUR: 'it returns false'. Refute it at one input. -/
def fnExactGrantCreditWrong : ChangeSpec := { name := "fnExactGrantCredit", fn := fun _ => fun
  | [d] => { results := [.lit (.bool false)], args := [d] }
  | _ => none }
def FnExactGrantCreditWrongFalsely : Prop := fnExactGrantCreditRow.holds Try.pinned (OpenSpec.ofChange fnExactGrantCreditWrong)

/- THE SECOND FORM. 'bulk': how many values and letters a reading holds, each counted each time it is reached (what is shared counts as often as it is met; a slice's spare places count too). A statement '..UptoSaid' is the law's where the arguments, and the package variables that the reading takes, are together of bulk at most 1048576: NARROWER than '..Said'. Prove '..Said' where nothing that the law and all that it calls make is longer than what came in: it says more and counts as full. Else prove '..UptoSaid'. A law counts once. -/
mutual
def uptoBulk {H : Type} : DataW H → Nat
  | .lit (.string bytes) => bytes.length + 1
  | .lit _ => 1
  | .nil => 1
  | .ptr d => uptoBulk d + 1
  | .slice elems spare => uptoBulkAll elems + uptoBulkAll spare + 1
  | .agg parts => uptoBulkAll parts + 1
  | .iface _ d => uptoBulk d + 1
  | .map entries => uptoBulkEntries entries + 1
  | .held _ => 1
def uptoBulkAll {H : Type} : List (DataW H) → Nat
  | [] => 0
  | d :: r => uptoBulk d + uptoBulkAll r
def uptoBulkEntries {H : Type} : List (Lit × DataW H) → Nat
  | [] => 0
  | x :: r => uptoBulkEntry x + uptoBulkEntries r
def uptoBulkEntry {H : Type} : Lit × DataW H → Nat
  | (.string bytes, d) => bytes.length + uptoBulk d + 1
  | (_, d) => uptoBulk d + 1
 end
def uptoSmall : (H : Type) → List (DataW H) → Bool := fun _ ds => decide (uptoBulkAll ds ≤ 1048576)
def OpenSpec.upto (s : _root_.Go.ChangeSpec) : _root_.Go.OpenSpec := { _root_.Go.OpenSpec.ofChange s with cond := some uptoSmall }

/-- 'laws.FnExactKeyGroup', WHERE WHAT IT READS IS OF BULK AT MOST 1048576: true; the input reads as it did. -/
def fnExactKeyGroupUptoRow : OpenClaim := { program := "ytcpjidbinhfapaa", sum := "61af0405b138a136498685697d9cc53db765c33d0a0cf0f8330b4d110cefc280", func := "loop.example/eventstreams/laws.FnExactKeyGroup", spec := "fnExactKeyGroup", apart := false, narrowed := true }
def FnExactKeyGroupUptoSaid : Prop := fnExactKeyGroupUptoRow.holds Try.pinned (OpenSpec.upto fnExactKeyGroupSpec)

/-- 'laws.FnExactGroupRange', WHERE WHAT IT READS IS OF BULK AT MOST 1048576: true; the input reads as it did. -/
def fnExactGroupRangeUptoRow : OpenClaim := { program := "ytcpjidbinhfapaa", sum := "61af0405b138a136498685697d9cc53db765c33d0a0cf0f8330b4d110cefc280", func := "loop.example/eventstreams/laws.FnExactGroupRange", spec := "fnExactGroupRange", apart := false, narrowed := true }
def FnExactGroupRangeUptoSaid : Prop := fnExactGroupRangeUptoRow.holds Try.pinned (OpenSpec.upto fnExactGroupRangeSpec)

/-- 'laws.FnExactSubtaskOf', WHERE WHAT IT READS IS OF BULK AT MOST 1048576: true; the input reads as it did. -/
def fnExactSubtaskOfUptoRow : OpenClaim := { program := "ytcpjidbinhfapaa", sum := "61af0405b138a136498685697d9cc53db765c33d0a0cf0f8330b4d110cefc280", func := "loop.example/eventstreams/laws.FnExactSubtaskOf", spec := "fnExactSubtaskOf", apart := false, narrowed := true }
def FnExactSubtaskOfUptoSaid : Prop := fnExactSubtaskOfUptoRow.holds Try.pinned (OpenSpec.upto fnExactSubtaskOfSpec)

/-- 'laws.FnExactMovedGroups', WHERE WHAT IT READS IS OF BULK AT MOST 1048576: true; the input reads as it did. -/
def fnExactMovedGroupsUptoRow : OpenClaim := { program := "ytcpjidbinhfapaa", sum := "61af0405b138a136498685697d9cc53db765c33d0a0cf0f8330b4d110cefc280", func := "loop.example/eventstreams/laws.FnExactMovedGroups", spec := "fnExactMovedGroups", apart := false, narrowed := true }
def FnExactMovedGroupsUptoSaid : Prop := fnExactMovedGroupsUptoRow.holds Try.pinned (OpenSpec.upto fnExactMovedGroupsSpec)

/-- 'laws.FnKeyGroup', WHERE WHAT IT READS IS OF BULK AT MOST 1048576: true; the input reads as it did. -/
def fnKeyGroupUptoRow : OpenClaim := { program := "ytcpjidbinhfapaa", sum := "61af0405b138a136498685697d9cc53db765c33d0a0cf0f8330b4d110cefc280", func := "loop.example/eventstreams/laws.FnKeyGroup", spec := "fnKeyGroup", apart := false, narrowed := true }
def FnKeyGroupUptoSaid : Prop := fnKeyGroupUptoRow.holds Try.pinned (OpenSpec.upto fnKeyGroupSpec)

/-- 'laws.FnGroupRange', WHERE WHAT IT READS IS OF BULK AT MOST 1048576: true; the input reads as it did. -/
def fnGroupRangeUptoRow : OpenClaim := { program := "ytcpjidbinhfapaa", sum := "61af0405b138a136498685697d9cc53db765c33d0a0cf0f8330b4d110cefc280", func := "loop.example/eventstreams/laws.FnGroupRange", spec := "fnGroupRange", apart := false, narrowed := true }
def FnGroupRangeUptoSaid : Prop := fnGroupRangeUptoRow.holds Try.pinned (OpenSpec.upto fnGroupRangeSpec)

/-- 'laws.FnSubtaskOf', WHERE WHAT IT READS IS OF BULK AT MOST 1048576: true; the input reads as it did. -/
def fnSubtaskOfUptoRow : OpenClaim := { program := "ytcpjidbinhfapaa", sum := "61af0405b138a136498685697d9cc53db765c33d0a0cf0f8330b4d110cefc280", func := "loop.example/eventstreams/laws.FnSubtaskOf", spec := "fnSubtaskOf", apart := false, narrowed := true }
def FnSubtaskOfUptoSaid : Prop := fnSubtaskOfUptoRow.holds Try.pinned (OpenSpec.upto fnSubtaskOfSpec)

/-- 'laws.FnMovedGroups', WHERE WHAT IT READS IS OF BULK AT MOST 1048576: true; the input reads as it did. -/
def fnMovedGroupsUptoRow : OpenClaim := { program := "ytcpjidbinhfapaa", sum := "61af0405b138a136498685697d9cc53db765c33d0a0cf0f8330b4d110cefc280", func := "loop.example/eventstreams/laws.FnMovedGroups", spec := "fnMovedGroups", apart := false, narrowed := true }
def FnMovedGroupsUptoSaid : Prop := fnMovedGroupsUptoRow.holds Try.pinned (OpenSpec.upto fnMovedGroupsSpec)

/-- 'laws.FnExactChannelNew', WHERE WHAT IT READS IS OF BULK AT MOST 1048576: true; the input reads as it did. -/
def fnExactChannelNewUptoRow : OpenClaim := { program := "ytcpjidbinhfapaa", sum := "61af0405b138a136498685697d9cc53db765c33d0a0cf0f8330b4d110cefc280", func := "loop.example/eventstreams/laws.FnExactChannelNew", spec := "fnExactChannelNew", apart := false, narrowed := true }
def FnExactChannelNewUptoSaid : Prop := fnExactChannelNewUptoRow.holds Try.pinned (OpenSpec.upto fnExactChannelNewSpec)

/-- 'laws.FnExactSendItem', WHERE WHAT IT READS IS OF BULK AT MOST 1048576: true; the input reads as it did. -/
def fnExactSendItemUptoRow : OpenClaim := { program := "ytcpjidbinhfapaa", sum := "61af0405b138a136498685697d9cc53db765c33d0a0cf0f8330b4d110cefc280", func := "loop.example/eventstreams/laws.FnExactSendItem", spec := "fnExactSendItem", unfollowed := true, recurses := true, apart := false, narrowed := true }
def FnExactSendItemUptoSaid : Prop := fnExactSendItemUptoRow.holds Try.pinned (OpenSpec.upto fnExactSendItemSpec)

/-- 'laws.FnExactTakeItem', WHERE WHAT IT READS IS OF BULK AT MOST 1048576: true; the input reads as it did. -/
def fnExactTakeItemUptoRow : OpenClaim := { program := "ytcpjidbinhfapaa", sum := "61af0405b138a136498685697d9cc53db765c33d0a0cf0f8330b4d110cefc280", func := "loop.example/eventstreams/laws.FnExactTakeItem", spec := "fnExactTakeItem", unfollowed := true, recurses := true, apart := false, narrowed := true }
def FnExactTakeItemUptoSaid : Prop := fnExactTakeItemUptoRow.holds Try.pinned (OpenSpec.upto fnExactTakeItemSpec)

/-- 'laws.FnExactGrantCredit', WHERE WHAT IT READS IS OF BULK AT MOST 1048576: true; the input reads as it did. -/
def fnExactGrantCreditUptoRow : OpenClaim := { program := "ytcpjidbinhfapaa", sum := "61af0405b138a136498685697d9cc53db765c33d0a0cf0f8330b4d110cefc280", func := "loop.example/eventstreams/laws.FnExactGrantCredit", spec := "fnExactGrantCredit", unfollowed := true, recurses := true, apart := false, narrowed := true }
def FnExactGrantCreditUptoSaid : Prop := fnExactGrantCreditUptoRow.holds Try.pinned (OpenSpec.upto fnExactGrantCreditSpec)

end Rows
end Go.Proofs.Ytcpjidbinhfapaa
