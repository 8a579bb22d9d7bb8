/-
  No cell of these rows narrows 'for every input' (looked for: loops, veiled, ifaces, maps, wideKeys, modest, calm, conditions, laid).
  DERIVED. THE GIVEN ROWS OF THIS SEAT. 12 by the template 'for every input the law returns true; each argument reads behind the call as it read before'; 0 by the template 'total and deterministic' (their statements: YtejgdamcpfdhkaaTotals.lean).
  GIVEN WITH THE SEED: the statements are not yours to turn. If you find one false, say at which input.
  Laid BY PROGRAM, IN A SANDBOX (cutbox-rows.mjs): the forced cells as the released guide's own fill.sh prints them over the translation d25f30d3b05068c7… (all of the seat's roots in one cut). By AI agents, Wed Nov 11 2026. No macro, syntax, notation, axiom, sorry.
-/
import Derived.Test.YtejgdamcpfdhkaaChecked
import GoSem.Claim
import GoSem.ClaimJoined
import GoSem.ClaimMapViews
import Derived.JoinedTies
import Derived.KernelRfl
namespace Go.Proofs.Ytejgdamcpfdhkaa
/- THE CELL 'sum', in the pinned program and in every row, IS THE sha256 OF THE DUMP (.gsa) THAT YtejgdamcpfdhkaaProg.lean LOADS. Nothing in Lean hashes anything: it is a label: what it is worth is what the hold of that sum in a sandbox is worth. -/
noncomputable def Try.pinned : Pinned := { name := "ytejgdamcpfdhkaa", sum := "d25f30d3b05068c77b6e429bc4f5b5a90d6e10ed9d030c7414631ba331a5a49f", checked := Try.checked }
namespace Rows
def none {H : Type} : Left H := { results := [], args := [] }

/-- 'laws.FnExactFilterEvents': WHATEVER THE INPUT: true; the input reads as it did. -/
def fnExactFilterEventsSpec : ChangeSpec := { name := "fnExactFilterEvents", fn := fun _ => fun
  | [d1, d2, d3] => { results := [.lit (.bool true)], args := [d1, d2, d3] }
  | _ => none }
def fnExactFilterEventsRow : OpenClaim := { program := "ytejgdamcpfdhkaa", sum := "d25f30d3b05068c77b6e429bc4f5b5a90d6e10ed9d030c7414631ba331a5a49f", func := "loop.example/eventstreams/laws.FnExactFilterEvents", spec := "fnExactFilterEvents", unfollowed := true, recurses := true, apart := false }
def FnExactFilterEventsSaid : Prop := fnExactFilterEventsRow.holds Try.pinned (OpenSpec.ofChange fnExactFilterEventsSpec)

/-- ITS FALSE NEIGHBOUR: 'it returns false'. Refute it at one input. -/
def fnExactFilterEventsWrong : ChangeSpec := { name := "fnExactFilterEvents", fn := fun _ => fun
  | [d1, d2, d3] => { results := [.lit (.bool false)], args := [d1, d2, d3] }
  | _ => none }
def FnExactFilterEventsWrongFalsely : Prop := fnExactFilterEventsRow.holds Try.pinned (OpenSpec.ofChange fnExactFilterEventsWrong)

/-- 'laws.FnExactMarksOf': WHATEVER THE INPUT: true; the input reads as it did. -/
def fnExactMarksOfSpec : ChangeSpec := { name := "fnExactMarksOf", fn := fun _ => fun
  | [d1, d2] => { results := [.lit (.bool true)], args := [d1, d2] }
  | _ => none }
def fnExactMarksOfRow : OpenClaim := { program := "ytejgdamcpfdhkaa", sum := "d25f30d3b05068c77b6e429bc4f5b5a90d6e10ed9d030c7414631ba331a5a49f", func := "loop.example/eventstreams/laws.FnExactMarksOf", spec := "fnExactMarksOf", unfollowed := true, recurses := true, apart := false }
def FnExactMarksOfSaid : Prop := fnExactMarksOfRow.holds Try.pinned (OpenSpec.ofChange fnExactMarksOfSpec)

/-- ITS FALSE NEIGHBOUR: 'it returns false'. Refute it at one input. -/
def fnExactMarksOfWrong : ChangeSpec := { name := "fnExactMarksOf", fn := fun _ => fun
  | [d1, d2] => { results := [.lit (.bool false)], args := [d1, d2] }
  | _ => none }
def FnExactMarksOfWrongFalsely : Prop := fnExactMarksOfRow.holds Try.pinned (OpenSpec.ofChange fnExactMarksOfWrong)

/-- 'laws.FnExactLateEvents': WHATEVER THE INPUT: true; the input reads as it did. -/
def fnExactLateEventsSpec : ChangeSpec := { name := "fnExactLateEvents", fn := fun _ => fun
  | [d1, d2] => { results := [.lit (.bool true)], args := [d1, d2] }
  | _ => none }
def fnExactLateEventsRow : OpenClaim := { program := "ytejgdamcpfdhkaa", sum := "d25f30d3b05068c77b6e429bc4f5b5a90d6e10ed9d030c7414631ba331a5a49f", func := "loop.example/eventstreams/laws.FnExactLateEvents", spec := "fnExactLateEvents", unfollowed := true, recurses := true, apart := false }
def FnExactLateEventsSaid : Prop := fnExactLateEventsRow.holds Try.pinned (OpenSpec.ofChange fnExactLateEventsSpec)

/-- ITS FALSE NEIGHBOUR: 'it returns false'. Refute it at one input. -/
def fnExactLateEventsWrong : ChangeSpec := { name := "fnExactLateEvents", fn := fun _ => fun
  | [d1, d2] => { results := [.lit (.bool false)], args := [d1, d2] }
  | _ => none }
def FnExactLateEventsWrongFalsely : Prop := fnExactLateEventsRow.holds Try.pinned (OpenSpec.ofChange fnExactLateEventsWrong)

/-- 'laws.FnExactIdleInputs': WHATEVER THE INPUT: true; the input reads as it did. -/
def fnExactIdleInputsSpec : ChangeSpec := { name := "fnExactIdleInputs", fn := fun _ => fun
  | [d1, d2, d3] => { results := [.lit (.bool true)], args := [d1, d2, d3] }
  | _ => none }
def fnExactIdleInputsRow : OpenClaim := { program := "ytejgdamcpfdhkaa", sum := "d25f30d3b05068c77b6e429bc4f5b5a90d6e10ed9d030c7414631ba331a5a49f", func := "loop.example/eventstreams/laws.FnExactIdleInputs", spec := "fnExactIdleInputs", unfollowed := true, recurses := true, apart := false }
def FnExactIdleInputsSaid : Prop := fnExactIdleInputsRow.holds Try.pinned (OpenSpec.ofChange fnExactIdleInputsSpec)

/-- ITS FALSE NEIGHBOUR: 'it returns false'. Refute it at one input. -/
def fnExactIdleInputsWrong : ChangeSpec := { name := "fnExactIdleInputs", fn := fun _ => fun
  | [d1, d2, d3] => { results := [.lit (.bool false)], args := [d1, d2, d3] }
  | _ => none }
def FnExactIdleInputsWrongFalsely : Prop := fnExactIdleInputsRow.holds Try.pinned (OpenSpec.ofChange fnExactIdleInputsWrong)

/-- 'laws.FnExactUpdateInput': WHATEVER THE INPUT: true; the input reads as it did. -/
def fnExactUpdateInputSpec : ChangeSpec := { name := "fnExactUpdateInput", fn := fun _ => fun
  | [d1, d2, d3, d4] => { results := [.lit (.bool true)], args := [d1, d2, d3, d4] }
  | _ => none }
def fnExactUpdateInputRow : OpenClaim := { program := "ytejgdamcpfdhkaa", sum := "d25f30d3b05068c77b6e429bc4f5b5a90d6e10ed9d030c7414631ba331a5a49f", func := "loop.example/eventstreams/laws.FnExactUpdateInput", spec := "fnExactUpdateInput", unfollowed := true, recurses := true, apart := false }
def FnExactUpdateInputSaid : Prop := fnExactUpdateInputRow.holds Try.pinned (OpenSpec.ofChange fnExactUpdateInputSpec)

/-- ITS FALSE NEIGHBOUR: 'it returns false'. Refute it at one input. -/
def fnExactUpdateInputWrong : ChangeSpec := { name := "fnExactUpdateInput", fn := fun _ => fun
  | [d1, d2, d3, d4] => { results := [.lit (.bool false)], args := [d1, d2, d3, d4] }
  | _ => none }
def FnExactUpdateInputWrongFalsely : Prop := fnExactUpdateInputRow.holds Try.pinned (OpenSpec.ofChange fnExactUpdateInputWrong)

/-- 'laws.FnExactMergeMarks': WHATEVER THE INPUT: true; the input reads as it did. -/
def fnExactMergeMarksSpec : ChangeSpec := { name := "fnExactMergeMarks", fn := fun _ => fun
  | [d1, d2, d3] => { results := [.lit (.bool true)], args := [d1, d2, d3] }
  | _ => none }
def fnExactMergeMarksRow : OpenClaim := { program := "ytejgdamcpfdhkaa", sum := "d25f30d3b05068c77b6e429bc4f5b5a90d6e10ed9d030c7414631ba331a5a49f", func := "loop.example/eventstreams/laws.FnExactMergeMarks", spec := "fnExactMergeMarks", unfollowed := true, recurses := true, apart := false }
def FnExactMergeMarksSaid : Prop := fnExactMergeMarksRow.holds Try.pinned (OpenSpec.ofChange fnExactMergeMarksSpec)

/-- ITS FALSE NEIGHBOUR: 'it returns false'. Refute it at one input. -/
def fnExactMergeMarksWrong : ChangeSpec := { name := "fnExactMergeMarks", fn := fun _ => fun
  | [d1, d2, d3] => { results := [.lit (.bool false)], args := [d1, d2, d3] }
  | _ => none }
def FnExactMergeMarksWrongFalsely : Prop := fnExactMergeMarksRow.holds Try.pinned (OpenSpec.ofChange fnExactMergeMarksWrong)

/-- 'laws.FnExactNextMark': WHATEVER THE INPUT: true; the input reads as it did. -/
def fnExactNextMarkSpec : ChangeSpec := { name := "fnExactNextMark", fn := fun _ => fun
  | [d1, d2, d3, d4] => { results := [.lit (.bool true)], args := [d1, d2, d3, d4] }
  | _ => none }
def fnExactNextMarkRow : OpenClaim := { program := "ytejgdamcpfdhkaa", sum := "d25f30d3b05068c77b6e429bc4f5b5a90d6e10ed9d030c7414631ba331a5a49f", func := "loop.example/eventstreams/laws.FnExactNextMark", spec := "fnExactNextMark", unfollowed := true, recurses := true, apart := false }
def FnExactNextMarkSaid : Prop := fnExactNextMarkRow.holds Try.pinned (OpenSpec.ofChange fnExactNextMarkSpec)

/-- ITS FALSE NEIGHBOUR: 'it returns false'. Refute it at one input. -/
def fnExactNextMarkWrong : ChangeSpec := { name := "fnExactNextMark", fn := fun _ => fun
  | [d1, d2, d3, d4] => { results := [.lit (.bool false)], args := [d1, d2, d3, d4] }
  | _ => none }
def FnExactNextMarkWrongFalsely : Prop := fnExactNextMarkRow.holds Try.pinned (OpenSpec.ofChange fnExactNextMarkWrong)

/-- 'laws.FnExactAccOf': WHATEVER THE INPUT: true; the input reads as it did. -/
def fnExactAccOfSpec : ChangeSpec := { name := "fnExactAccOf", fn := fun _ => fun
  | [d] => { results := [.lit (.bool true)], args := [d] }
  | _ => none }
def fnExactAccOfRow : OpenClaim := { program := "ytejgdamcpfdhkaa", sum := "d25f30d3b05068c77b6e429bc4f5b5a90d6e10ed9d030c7414631ba331a5a49f", func := "loop.example/eventstreams/laws.FnExactAccOf", spec := "fnExactAccOf", unfollowed := true, recurses := true, apart := false }
def FnExactAccOfSaid : Prop := fnExactAccOfRow.holds Try.pinned (OpenSpec.ofChange fnExactAccOfSpec)

/-- ITS FALSE NEIGHBOUR: 'it returns false'. Refute it at one input. -/
def fnExactAccOfWrong : ChangeSpec := { name := "fnExactAccOf", fn := fun _ => fun
  | [d] => { results := [.lit (.bool false)], args := [d] }
  | _ => none }
def FnExactAccOfWrongFalsely : Prop := fnExactAccOfRow.holds Try.pinned (OpenSpec.ofChange fnExactAccOfWrong)

/-- 'laws.FnExactClosedWindows': WHATEVER THE INPUT: true; the input reads as it did. -/
def fnExactClosedWindowsSpec : ChangeSpec := { name := "fnExactClosedWindows", fn := fun _ => fun
  | [d1, d2] => { results := [.lit (.bool true)], args := [d1, d2] }
  | _ => none }
def fnExactClosedWindowsRow : OpenClaim := { program := "ytejgdamcpfdhkaa", sum := "d25f30d3b05068c77b6e429bc4f5b5a90d6e10ed9d030c7414631ba331a5a49f", func := "loop.example/eventstreams/laws.FnExactClosedWindows", spec := "fnExactClosedWindows", unfollowed := true, recurses := true, apart := false }
def FnExactClosedWindowsSaid : Prop := fnExactClosedWindowsRow.holds Try.pinned (OpenSpec.ofChange fnExactClosedWindowsSpec)

/-- ITS FALSE NEIGHBOUR: 'it returns false'. Refute it at one input. -/
def fnExactClosedWindowsWrong : ChangeSpec := { name := "fnExactClosedWindows", fn := fun _ => fun
  | [d1, d2] => { results := [.lit (.bool false)], args := [d1, d2] }
  | _ => none }
def FnExactClosedWindowsWrongFalsely : Prop := fnExactClosedWindowsRow.holds Try.pinned (OpenSpec.ofChange fnExactClosedWindowsWrong)

/-- 'laws.FnExactSlidingOf': WHATEVER THE INPUT: true; the input reads as it did. -/
def fnExactSlidingOfSpec : ChangeSpec := { name := "fnExactSlidingOf", fn := fun _ => fun
  | [d1, d2, d3] => { results := [.lit (.bool true)], args := [d1, d2, d3] }
  | _ => none }
def fnExactSlidingOfRow : OpenClaim := { program := "ytejgdamcpfdhkaa", sum := "d25f30d3b05068c77b6e429bc4f5b5a90d6e10ed9d030c7414631ba331a5a49f", func := "loop.example/eventstreams/laws.FnExactSlidingOf", spec := "fnExactSlidingOf", unfollowed := true, recurses := true, apart := false }
def FnExactSlidingOfSaid : Prop := fnExactSlidingOfRow.holds Try.pinned (OpenSpec.ofChange fnExactSlidingOfSpec)

/-- ITS FALSE NEIGHBOUR: 'it returns false'. Refute it at one input. -/
def fnExactSlidingOfWrong : ChangeSpec := { name := "fnExactSlidingOf", fn := fun _ => fun
  | [d1, d2, d3] => { results := [.lit (.bool false)], args := [d1, d2, d3] }
  | _ => none }
def FnExactSlidingOfWrongFalsely : Prop := fnExactSlidingOfRow.holds Try.pinned (OpenSpec.ofChange fnExactSlidingOfWrong)

/-- 'laws.FnExactSortEvents': WHATEVER THE INPUT: true; the input reads as it did. -/
def fnExactSortEventsSpec : ChangeSpec := { name := "fnExactSortEvents", fn := fun _ => fun
  | [d] => { results := [.lit (.bool true)], args := [d] }
  | _ => none }
def fnExactSortEventsRow : OpenClaim := { program := "ytejgdamcpfdhkaa", sum := "d25f30d3b05068c77b6e429bc4f5b5a90d6e10ed9d030c7414631ba331a5a49f", func := "loop.example/eventstreams/laws.FnExactSortEvents", spec := "fnExactSortEvents", unfollowed := true, recurses := true, apart := false }
def FnExactSortEventsSaid : Prop := fnExactSortEventsRow.holds Try.pinned (OpenSpec.ofChange fnExactSortEventsSpec)

/-- ITS FALSE NEIGHBOUR: 'it returns false'. Refute it at one input. -/
def fnExactSortEventsWrong : ChangeSpec := { name := "fnExactSortEvents", fn := fun _ => fun
  | [d] => { results := [.lit (.bool false)], args := [d] }
  | _ => none }
def FnExactSortEventsWrongFalsely : Prop := fnExactSortEventsRow.holds Try.pinned (OpenSpec.ofChange fnExactSortEventsWrong)

/-- 'laws.FnExactMergeEvents': WHATEVER THE INPUT: true; the input reads as it did. -/
def fnExactMergeEventsSpec : ChangeSpec := { name := "fnExactMergeEvents", fn := fun _ => fun
  | [d1, d2] => { results := [.lit (.bool true)], args := [d1, d2] }
  | _ => none }
def fnExactMergeEventsRow : OpenClaim := { program := "ytejgdamcpfdhkaa", sum := "d25f30d3b05068c77b6e429bc4f5b5a90d6e10ed9d030c7414631ba331a5a49f", func := "loop.example/eventstreams/laws.FnExactMergeEvents", spec := "fnExactMergeEvents", unfollowed := true, recurses := true, apart := false }
def FnExactMergeEventsSaid : Prop := fnExactMergeEventsRow.holds Try.pinned (OpenSpec.ofChange fnExactMergeEventsSpec)

/-- ITS FALSE NEIGHBOUR: 'it returns false'. Refute it at one input. -/
def fnExactMergeEventsWrong : ChangeSpec := { name := "fnExactMergeEvents", fn := fun _ => fun
  | [d1, d2] => { results := [.lit (.bool false)], args := [d1, d2] }
  | _ => none }
def FnExactMergeEventsWrongFalsely : Prop := fnExactMergeEventsRow.holds Try.pinned (OpenSpec.ofChange fnExactMergeEventsWrong)

/- THE SECOND FORM. 'bulk': how many values and letters a reading holds, each counted each time it is reached (what is shared counts as often as it is met; a slice's spare places count too). A statement '..UptoSaid' is the law's where the arguments, and the package variables that the reading takes, are together of bulk at most 1048576: NARROWER than '..Said'. Prove '..Said' where nothing that the law and all that it calls make is longer than what came in: it says more and counts as full. Else prove '..UptoSaid'. A law counts once. -/
mutual
def uptoBulk {H : Type} : DataW H → Nat
  | .lit (.string bytes) => bytes.length + 1
  | .lit _ => 1
  | .nil => 1
  | .ptr d => uptoBulk d + 1
  | .slice elems spare => uptoBulkAll elems + uptoBulkAll spare + 1
  | .agg parts => uptoBulkAll parts + 1
  | .iface _ d => uptoBulk d + 1
  | .map entries => uptoBulkEntries entries + 1
  | .held _ => 1
def uptoBulkAll {H : Type} : List (DataW H) → Nat
  | [] => 0
  | d :: r => uptoBulk d + uptoBulkAll r
def uptoBulkEntries {H : Type} : List (Lit × DataW H) → Nat
  | [] => 0
  | x :: r => uptoBulkEntry x + uptoBulkEntries r
def uptoBulkEntry {H : Type} : Lit × DataW H → Nat
  | (.string bytes, d) => bytes.length + uptoBulk d + 1
  | (_, d) => uptoBulk d + 1
 end
def uptoSmall : (H : Type) → List (DataW H) → Bool := fun _ ds => decide (uptoBulkAll ds ≤ 1048576)
def OpenSpec.upto (s : _root_.Go.ChangeSpec) : _root_.Go.OpenSpec := { _root_.Go.OpenSpec.ofChange s with cond := some uptoSmall }

/-- 'laws.FnExactFilterEvents', WHERE WHAT IT READS IS OF BULK AT MOST 1048576: true; the input reads as it did. -/
def fnExactFilterEventsUptoRow : OpenClaim := { program := "ytejgdamcpfdhkaa", sum := "d25f30d3b05068c77b6e429bc4f5b5a90d6e10ed9d030c7414631ba331a5a49f", func := "loop.example/eventstreams/laws.FnExactFilterEvents", spec := "fnExactFilterEvents", unfollowed := true, recurses := true, apart := false, narrowed := true }
def FnExactFilterEventsUptoSaid : Prop := fnExactFilterEventsUptoRow.holds Try.pinned (OpenSpec.upto fnExactFilterEventsSpec)

/-- 'laws.FnExactMarksOf', WHERE WHAT IT READS IS OF BULK AT MOST 1048576: true; the input reads as it did. -/
def fnExactMarksOfUptoRow : OpenClaim := { program := "ytejgdamcpfdhkaa", sum := "d25f30d3b05068c77b6e429bc4f5b5a90d6e10ed9d030c7414631ba331a5a49f", func := "loop.example/eventstreams/laws.FnExactMarksOf", spec := "fnExactMarksOf", unfollowed := true, recurses := true, apart := false, narrowed := true }
def FnExactMarksOfUptoSaid : Prop := fnExactMarksOfUptoRow.holds Try.pinned (OpenSpec.upto fnExactMarksOfSpec)

/-- 'laws.FnExactLateEvents', WHERE WHAT IT READS IS OF BULK AT MOST 1048576: true; the input reads as it did. -/
def fnExactLateEventsUptoRow : OpenClaim := { program := "ytejgdamcpfdhkaa", sum := "d25f30d3b05068c77b6e429bc4f5b5a90d6e10ed9d030c7414631ba331a5a49f", func := "loop.example/eventstreams/laws.FnExactLateEvents", spec := "fnExactLateEvents", unfollowed := true, recurses := true, apart := false, narrowed := true }
def FnExactLateEventsUptoSaid : Prop := fnExactLateEventsUptoRow.holds Try.pinned (OpenSpec.upto fnExactLateEventsSpec)

/-- 'laws.FnExactIdleInputs', WHERE WHAT IT READS IS OF BULK AT MOST 1048576: true; the input reads as it did. -/
def fnExactIdleInputsUptoRow : OpenClaim := { program := "ytejgdamcpfdhkaa", sum := "d25f30d3b05068c77b6e429bc4f5b5a90d6e10ed9d030c7414631ba331a5a49f", func := "loop.example/eventstreams/laws.FnExactIdleInputs", spec := "fnExactIdleInputs", unfollowed := true, recurses := true, apart := false, narrowed := true }
def FnExactIdleInputsUptoSaid : Prop := fnExactIdleInputsUptoRow.holds Try.pinned (OpenSpec.upto fnExactIdleInputsSpec)

/-- 'laws.FnExactUpdateInput', WHERE WHAT IT READS IS OF BULK AT MOST 1048576: true; the input reads as it did. -/
def fnExactUpdateInputUptoRow : OpenClaim := { program := "ytejgdamcpfdhkaa", sum := "d25f30d3b05068c77b6e429bc4f5b5a90d6e10ed9d030c7414631ba331a5a49f", func := "loop.example/eventstreams/laws.FnExactUpdateInput", spec := "fnExactUpdateInput", unfollowed := true, recurses := true, apart := false, narrowed := true }
def FnExactUpdateInputUptoSaid : Prop := fnExactUpdateInputUptoRow.holds Try.pinned (OpenSpec.upto fnExactUpdateInputSpec)

/-- 'laws.FnExactMergeMarks', WHERE WHAT IT READS IS OF BULK AT MOST 1048576: true; the input reads as it did. -/
def fnExactMergeMarksUptoRow : OpenClaim := { program := "ytejgdamcpfdhkaa", sum := "d25f30d3b05068c77b6e429bc4f5b5a90d6e10ed9d030c7414631ba331a5a49f", func := "loop.example/eventstreams/laws.FnExactMergeMarks", spec := "fnExactMergeMarks", unfollowed := true, recurses := true, apart := false, narrowed := true }
def FnExactMergeMarksUptoSaid : Prop := fnExactMergeMarksUptoRow.holds Try.pinned (OpenSpec.upto fnExactMergeMarksSpec)

/-- 'laws.FnExactNextMark', WHERE WHAT IT READS IS OF BULK AT MOST 1048576: true; the input reads as it did. -/
def fnExactNextMarkUptoRow : OpenClaim := { program := "ytejgdamcpfdhkaa", sum := "d25f30d3b05068c77b6e429bc4f5b5a90d6e10ed9d030c7414631ba331a5a49f", func := "loop.example/eventstreams/laws.FnExactNextMark", spec := "fnExactNextMark", unfollowed := true, recurses := true, apart := false, narrowed := true }
def FnExactNextMarkUptoSaid : Prop := fnExactNextMarkUptoRow.holds Try.pinned (OpenSpec.upto fnExactNextMarkSpec)

/-- 'laws.FnExactAccOf', WHERE WHAT IT READS IS OF BULK AT MOST 1048576: true; the input reads as it did. -/
def fnExactAccOfUptoRow : OpenClaim := { program := "ytejgdamcpfdhkaa", sum := "d25f30d3b05068c77b6e429bc4f5b5a90d6e10ed9d030c7414631ba331a5a49f", func := "loop.example/eventstreams/laws.FnExactAccOf", spec := "fnExactAccOf", unfollowed := true, recurses := true, apart := false, narrowed := true }
def FnExactAccOfUptoSaid : Prop := fnExactAccOfUptoRow.holds Try.pinned (OpenSpec.upto fnExactAccOfSpec)

/-- 'laws.FnExactClosedWindows', WHERE WHAT IT READS IS OF BULK AT MOST 1048576: true; the input reads as it did. -/
def fnExactClosedWindowsUptoRow : OpenClaim := { program := "ytejgdamcpfdhkaa", sum := "d25f30d3b05068c77b6e429bc4f5b5a90d6e10ed9d030c7414631ba331a5a49f", func := "loop.example/eventstreams/laws.FnExactClosedWindows", spec := "fnExactClosedWindows", unfollowed := true, recurses := true, apart := false, narrowed := true }
def FnExactClosedWindowsUptoSaid : Prop := fnExactClosedWindowsUptoRow.holds Try.pinned (OpenSpec.upto fnExactClosedWindowsSpec)

/-- 'laws.FnExactSlidingOf', WHERE WHAT IT READS IS OF BULK AT MOST 1048576: true; the input reads as it did. -/
def fnExactSlidingOfUptoRow : OpenClaim := { program := "ytejgdamcpfdhkaa", sum := "d25f30d3b05068c77b6e429bc4f5b5a90d6e10ed9d030c7414631ba331a5a49f", func := "loop.example/eventstreams/laws.FnExactSlidingOf", spec := "fnExactSlidingOf", unfollowed := true, recurses := true, apart := false, narrowed := true }
def FnExactSlidingOfUptoSaid : Prop := fnExactSlidingOfUptoRow.holds Try.pinned (OpenSpec.upto fnExactSlidingOfSpec)

/-- 'laws.FnExactSortEvents', WHERE WHAT IT READS IS OF BULK AT MOST 1048576: true; the input reads as it did. -/
def fnExactSortEventsUptoRow : OpenClaim := { program := "ytejgdamcpfdhkaa", sum := "d25f30d3b05068c77b6e429bc4f5b5a90d6e10ed9d030c7414631ba331a5a49f", func := "loop.example/eventstreams/laws.FnExactSortEvents", spec := "fnExactSortEvents", unfollowed := true, recurses := true, apart := false, narrowed := true }
def FnExactSortEventsUptoSaid : Prop := fnExactSortEventsUptoRow.holds Try.pinned (OpenSpec.upto fnExactSortEventsSpec)

/-- 'laws.FnExactMergeEvents', WHERE WHAT IT READS IS OF BULK AT MOST 1048576: true; the input reads as it did. -/
def fnExactMergeEventsUptoRow : OpenClaim := { program := "ytejgdamcpfdhkaa", sum := "d25f30d3b05068c77b6e429bc4f5b5a90d6e10ed9d030c7414631ba331a5a49f", func := "loop.example/eventstreams/laws.FnExactMergeEvents", spec := "fnExactMergeEvents", unfollowed := true, recurses := true, apart := false, narrowed := true }
def FnExactMergeEventsUptoSaid : Prop := fnExactMergeEventsUptoRow.holds Try.pinned (OpenSpec.upto fnExactMergeEventsSpec)

end Rows
end Go.Proofs.Ytejgdamcpfdhkaa
