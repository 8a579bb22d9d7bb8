/-
  No cell of these rows narrows 'for every input' (looked for: loops, veiled, ifaces, maps, wideKeys, modest, calm, conditions, laid).
  DERIVED. THE GIVEN ROWS OF THIS SEAT. 9 by the template 'for every input the law returns true; each argument reads behind the call as it read before'; 0 by the template 'total and deterministic' (their statements: YtmbhpnjhhhcjiadTotals.lean).
  GIVEN WITH THE SEED: the statements are not yours to turn. If you find one false, say at which input.
  Laid BY PROGRAM, IN A SANDBOX (cutbox-rows.mjs): the forced cells as the released guide's own fill.sh prints them over the translation 1e6029ef95c5a8c3… (all of the seat's roots in one cut). By AI agents, Wed Nov 11 2026. No macro, syntax, notation, axiom, sorry.
-/
import Derived.Test.YtmbhpnjhhhcjiadChecked
import GoSem.Claim
import GoSem.ClaimJoined
import GoSem.ClaimMapViews
import Derived.JoinedTies
import Derived.KernelRfl
namespace Go.Proofs.Ytmbhpnjhhhcjiad
/- THE CELL 'sum', in the pinned program and in every row, IS THE sha256 OF THE DUMP (.gsa) THAT YtmbhpnjhhhcjiadProg.lean LOADS. Nothing in Lean hashes anything: it is a label: what it is worth is what the hold of that sum in a sandbox is worth. -/
noncomputable def Try.pinned : Pinned := { name := "ytmbhpnjhhhcjiad", sum := "1e6029ef95c5a8c3ad27718c31ab3a609d5ba0fcf026d0ab1922eef57ef182c6", checked := Try.checked }
namespace Rows
def none {H : Type} : Left H := { results := [], args := [] }

/-- 'laws.FnExactSeeTime': WHATEVER THE INPUT: true; the input reads as it did. -/
def fnExactSeeTimeSpec : ChangeSpec := { name := "fnExactSeeTime", fn := fun _ => fun
  | [d1, d2] => { results := [.lit (.bool true)], args := [d1, d2] }
  | _ => none }
def fnExactSeeTimeRow : OpenClaim := { program := "ytmbhpnjhhhcjiad", sum := "1e6029ef95c5a8c3ad27718c31ab3a609d5ba0fcf026d0ab1922eef57ef182c6", func := "loop.example/eventstreams/laws.FnExactSeeTime", spec := "fnExactSeeTime", apart := false }
def FnExactSeeTimeSaid : Prop := fnExactSeeTimeRow.holds Try.pinned (OpenSpec.ofChange fnExactSeeTimeSpec)

/-- ITS FALSE NEIGHBOUR: 'it returns false'. Refute it at one input. -/
def fnExactSeeTimeWrong : ChangeSpec := { name := "fnExactSeeTime", fn := fun _ => fun
  | [d1, d2] => { results := [.lit (.bool false)], args := [d1, d2] }
  | _ => none }
def FnExactSeeTimeWrongFalsely : Prop := fnExactSeeTimeRow.holds Try.pinned (OpenSpec.ofChange fnExactSeeTimeWrong)

/-- 'laws.FnExactMarkTime': WHATEVER THE INPUT: true; the input reads as it did. -/
def fnExactMarkTimeSpec : ChangeSpec := { name := "fnExactMarkTime", fn := fun _ => fun
  | [d] => { results := [.lit (.bool true)], args := [d] }
  | _ => none }
def fnExactMarkTimeRow : OpenClaim := { program := "ytmbhpnjhhhcjiad", sum := "1e6029ef95c5a8c3ad27718c31ab3a609d5ba0fcf026d0ab1922eef57ef182c6", func := "loop.example/eventstreams/laws.FnExactMarkTime", spec := "fnExactMarkTime", apart := false }
def FnExactMarkTimeSaid : Prop := fnExactMarkTimeRow.holds Try.pinned (OpenSpec.ofChange fnExactMarkTimeSpec)

/-- ITS FALSE NEIGHBOUR: 'it returns false'. Refute it at one input. -/
def fnExactMarkTimeWrong : ChangeSpec := { name := "fnExactMarkTime", fn := fun _ => fun
  | [d] => { results := [.lit (.bool false)], args := [d] }
  | _ => none }
def FnExactMarkTimeWrongFalsely : Prop := fnExactMarkTimeRow.holds Try.pinned (OpenSpec.ofChange fnExactMarkTimeWrong)

/-- 'laws.FnExactIsLate': WHATEVER THE INPUT: true; the input reads as it did. -/
def fnExactIsLateSpec : ChangeSpec := { name := "fnExactIsLate", fn := fun _ => fun
  | [d1, d2] => { results := [.lit (.bool true)], args := [d1, d2] }
  | _ => none }
def fnExactIsLateRow : OpenClaim := { program := "ytmbhpnjhhhcjiad", sum := "1e6029ef95c5a8c3ad27718c31ab3a609d5ba0fcf026d0ab1922eef57ef182c6", func := "loop.example/eventstreams/laws.FnExactIsLate", spec := "fnExactIsLate", apart := false }
def FnExactIsLateSaid : Prop := fnExactIsLateRow.holds Try.pinned (OpenSpec.ofChange fnExactIsLateSpec)

/-- ITS FALSE NEIGHBOUR: 'it returns false'. Refute it at one input. -/
def fnExactIsLateWrong : ChangeSpec := { name := "fnExactIsLate", fn := fun _ => fun
  | [d1, d2] => { results := [.lit (.bool false)], args := [d1, d2] }
  | _ => none }
def FnExactIsLateWrongFalsely : Prop := fnExactIsLateRow.holds Try.pinned (OpenSpec.ofChange fnExactIsLateWrong)

/-- 'laws.FnExactMarksOf': WHATEVER THE INPUT: true; the input reads as it did. -/
def fnExactMarksOfSpec : ChangeSpec := { name := "fnExactMarksOf", fn := fun _ => fun
  | [d1, d2] => { results := [.lit (.bool true)], args := [d1, d2] }
  | _ => none }
def fnExactMarksOfRow : OpenClaim := { program := "ytmbhpnjhhhcjiad", sum := "1e6029ef95c5a8c3ad27718c31ab3a609d5ba0fcf026d0ab1922eef57ef182c6", func := "loop.example/eventstreams/laws.FnExactMarksOf", spec := "fnExactMarksOf", unfollowed := true, recurses := true, apart := false }
def FnExactMarksOfSaid : Prop := fnExactMarksOfRow.holds Try.pinned (OpenSpec.ofChange fnExactMarksOfSpec)

/-- ITS FALSE NEIGHBOUR: 'it returns false'. Refute it at one input. -/
def fnExactMarksOfWrong : ChangeSpec := { name := "fnExactMarksOf", fn := fun _ => fun
  | [d1, d2] => { results := [.lit (.bool false)], args := [d1, d2] }
  | _ => none }
def FnExactMarksOfWrongFalsely : Prop := fnExactMarksOfRow.holds Try.pinned (OpenSpec.ofChange fnExactMarksOfWrong)

/-- 'laws.FnExactLateEvents': WHATEVER THE INPUT: true; the input reads as it did. -/
def fnExactLateEventsSpec : ChangeSpec := { name := "fnExactLateEvents", fn := fun _ => fun
  | [d1, d2] => { results := [.lit (.bool true)], args := [d1, d2] }
  | _ => none }
def fnExactLateEventsRow : OpenClaim := { program := "ytmbhpnjhhhcjiad", sum := "1e6029ef95c5a8c3ad27718c31ab3a609d5ba0fcf026d0ab1922eef57ef182c6", func := "loop.example/eventstreams/laws.FnExactLateEvents", spec := "fnExactLateEvents", unfollowed := true, recurses := true, apart := false }
def FnExactLateEventsSaid : Prop := fnExactLateEventsRow.holds Try.pinned (OpenSpec.ofChange fnExactLateEventsSpec)

/-- ITS FALSE NEIGHBOUR: 'it returns false'. Refute it at one input. -/
def fnExactLateEventsWrong : ChangeSpec := { name := "fnExactLateEvents", fn := fun _ => fun
  | [d1, d2] => { results := [.lit (.bool false)], args := [d1, d2] }
  | _ => none }
def FnExactLateEventsWrongFalsely : Prop := fnExactLateEventsRow.holds Try.pinned (OpenSpec.ofChange fnExactLateEventsWrong)

/-- 'laws.FnExactIdleInputs': WHATEVER THE INPUT: true; the input reads as it did. -/
def fnExactIdleInputsSpec : ChangeSpec := { name := "fnExactIdleInputs", fn := fun _ => fun
  | [d1, d2, d3] => { results := [.lit (.bool true)], args := [d1, d2, d3] }
  | _ => none }
def fnExactIdleInputsRow : OpenClaim := { program := "ytmbhpnjhhhcjiad", sum := "1e6029ef95c5a8c3ad27718c31ab3a609d5ba0fcf026d0ab1922eef57ef182c6", func := "loop.example/eventstreams/laws.FnExactIdleInputs", spec := "fnExactIdleInputs", unfollowed := true, recurses := true, apart := false }
def FnExactIdleInputsSaid : Prop := fnExactIdleInputsRow.holds Try.pinned (OpenSpec.ofChange fnExactIdleInputsSpec)

/-- ITS FALSE NEIGHBOUR: 'it returns false'. Refute it at one input. -/
def fnExactIdleInputsWrong : ChangeSpec := { name := "fnExactIdleInputs", fn := fun _ => fun
  | [d1, d2, d3] => { results := [.lit (.bool false)], args := [d1, d2, d3] }
  | _ => none }
def FnExactIdleInputsWrongFalsely : Prop := fnExactIdleInputsRow.holds Try.pinned (OpenSpec.ofChange fnExactIdleInputsWrong)

/-- 'laws.FnExactMergeMarks': WHATEVER THE INPUT: true; the input reads as it did. -/
def fnExactMergeMarksSpec : ChangeSpec := { name := "fnExactMergeMarks", fn := fun _ => fun
  | [d1, d2, d3] => { results := [.lit (.bool true)], args := [d1, d2, d3] }
  | _ => none }
def fnExactMergeMarksRow : OpenClaim := { program := "ytmbhpnjhhhcjiad", sum := "1e6029ef95c5a8c3ad27718c31ab3a609d5ba0fcf026d0ab1922eef57ef182c6", func := "loop.example/eventstreams/laws.FnExactMergeMarks", spec := "fnExactMergeMarks", unfollowed := true, recurses := true, apart := false }
def FnExactMergeMarksSaid : Prop := fnExactMergeMarksRow.holds Try.pinned (OpenSpec.ofChange fnExactMergeMarksSpec)

/-- ITS FALSE NEIGHBOUR: 'it returns false'. Refute it at one input. -/
def fnExactMergeMarksWrong : ChangeSpec := { name := "fnExactMergeMarks", fn := fun _ => fun
  | [d1, d2, d3] => { results := [.lit (.bool false)], args := [d1, d2, d3] }
  | _ => none }
def FnExactMergeMarksWrongFalsely : Prop := fnExactMergeMarksRow.holds Try.pinned (OpenSpec.ofChange fnExactMergeMarksWrong)

/-- 'laws.FnExactUpdateInput': WHATEVER THE INPUT: true; the input reads as it did. -/
def fnExactUpdateInputSpec : ChangeSpec := { name := "fnExactUpdateInput", fn := fun _ => fun
  | [d1, d2, d3, d4] => { results := [.lit (.bool true)], args := [d1, d2, d3, d4] }
  | _ => none }
def fnExactUpdateInputRow : OpenClaim := { program := "ytmbhpnjhhhcjiad", sum := "1e6029ef95c5a8c3ad27718c31ab3a609d5ba0fcf026d0ab1922eef57ef182c6", func := "loop.example/eventstreams/laws.FnExactUpdateInput", spec := "fnExactUpdateInput", unfollowed := true, recurses := true, apart := false }
def FnExactUpdateInputSaid : Prop := fnExactUpdateInputRow.holds Try.pinned (OpenSpec.ofChange fnExactUpdateInputSpec)

/-- ITS FALSE NEIGHBOUR: 'it returns false'. Refute it at one input. -/
def fnExactUpdateInputWrong : ChangeSpec := { name := "fnExactUpdateInput", fn := fun _ => fun
  | [d1, d2, d3, d4] => { results := [.lit (.bool false)], args := [d1, d2, d3, d4] }
  | _ => none }
def FnExactUpdateInputWrongFalsely : Prop := fnExactUpdateInputRow.holds Try.pinned (OpenSpec.ofChange fnExactUpdateInputWrong)

/-- 'laws.FnExactNextMark': WHATEVER THE INPUT: true; the input reads as it did. -/
def fnExactNextMarkSpec : ChangeSpec := { name := "fnExactNextMark", fn := fun _ => fun
  | [d1, d2, d3, d4] => { results := [.lit (.bool true)], args := [d1, d2, d3, d4] }
  | _ => none }
def fnExactNextMarkRow : OpenClaim := { program := "ytmbhpnjhhhcjiad", sum := "1e6029ef95c5a8c3ad27718c31ab3a609d5ba0fcf026d0ab1922eef57ef182c6", func := "loop.example/eventstreams/laws.FnExactNextMark", spec := "fnExactNextMark", unfollowed := true, recurses := true, apart := false }
def FnExactNextMarkSaid : Prop := fnExactNextMarkRow.holds Try.pinned (OpenSpec.ofChange fnExactNextMarkSpec)

/-- ITS FALSE NEIGHBOUR: 'it returns false'. Refute it at one input. -/
def fnExactNextMarkWrong : ChangeSpec := { name := "fnExactNextMark", fn := fun _ => fun
  | [d1, d2, d3, d4] => { results := [.lit (.bool false)], args := [d1, d2, d3, d4] }
  | _ => none }
def FnExactNextMarkWrongFalsely : Prop := fnExactNextMarkRow.holds Try.pinned (OpenSpec.ofChange fnExactNextMarkWrong)

/- THE SECOND FORM. 'bulk': how many values and letters a reading holds, each counted each time it is reached (what is shared counts as often as it is met; a slice's spare places count too). A statement '..UptoSaid' is the law's where the arguments, and the package variables that the reading takes, are together of bulk at most 1048576: NARROWER than '..Said'. Prove '..Said' where nothing that the law and all that it calls make is longer than what came in: it says more and counts as full. Else prove '..UptoSaid'. A law counts once. -/
mutual
def uptoBulk {H : Type} : DataW H → Nat
  | .lit (.string bytes) => bytes.length + 1
  | .lit _ => 1
  | .nil => 1
  | .ptr d => uptoBulk d + 1
  | .slice elems spare => uptoBulkAll elems + uptoBulkAll spare + 1
  | .agg parts => uptoBulkAll parts + 1
  | .iface _ d => uptoBulk d + 1
  | .map entries => uptoBulkEntries entries + 1
  | .held _ => 1
def uptoBulkAll {H : Type} : List (DataW H) → Nat
  | [] => 0
  | d :: r => uptoBulk d + uptoBulkAll r
def uptoBulkEntries {H : Type} : List (Lit × DataW H) → Nat
  | [] => 0
  | x :: r => uptoBulkEntry x + uptoBulkEntries r
def uptoBulkEntry {H : Type} : Lit × DataW H → Nat
  | (.string bytes, d) => bytes.length + uptoBulk d + 1
  | (_, d) => uptoBulk d + 1
 end
def uptoSmall : (H : Type) → List (DataW H) → Bool := fun _ ds => decide (uptoBulkAll ds ≤ 1048576)
def OpenSpec.upto (s : _root_.Go.ChangeSpec) : _root_.Go.OpenSpec := { _root_.Go.OpenSpec.ofChange s with cond := some uptoSmall }

/-- 'laws.FnExactSeeTime', WHERE WHAT IT READS IS OF BULK AT MOST 1048576: true; the input reads as it did. -/
def fnExactSeeTimeUptoRow : OpenClaim := { program := "ytmbhpnjhhhcjiad", sum := "1e6029ef95c5a8c3ad27718c31ab3a609d5ba0fcf026d0ab1922eef57ef182c6", func := "loop.example/eventstreams/laws.FnExactSeeTime", spec := "fnExactSeeTime", apart := false, narrowed := true }
def FnExactSeeTimeUptoSaid : Prop := fnExactSeeTimeUptoRow.holds Try.pinned (OpenSpec.upto fnExactSeeTimeSpec)

/-- 'laws.FnExactMarkTime', WHERE WHAT IT READS IS OF BULK AT MOST 1048576: true; the input reads as it did. -/
def fnExactMarkTimeUptoRow : OpenClaim := { program := "ytmbhpnjhhhcjiad", sum := "1e6029ef95c5a8c3ad27718c31ab3a609d5ba0fcf026d0ab1922eef57ef182c6", func := "loop.example/eventstreams/laws.FnExactMarkTime", spec := "fnExactMarkTime", apart := false, narrowed := true }
def FnExactMarkTimeUptoSaid : Prop := fnExactMarkTimeUptoRow.holds Try.pinned (OpenSpec.upto fnExactMarkTimeSpec)

/-- 'laws.FnExactIsLate', WHERE WHAT IT READS IS OF BULK AT MOST 1048576: true; the input reads as it did. -/
def fnExactIsLateUptoRow : OpenClaim := { program := "ytmbhpnjhhhcjiad", sum := "1e6029ef95c5a8c3ad27718c31ab3a609d5ba0fcf026d0ab1922eef57ef182c6", func := "loop.example/eventstreams/laws.FnExactIsLate", spec := "fnExactIsLate", apart := false, narrowed := true }
def FnExactIsLateUptoSaid : Prop := fnExactIsLateUptoRow.holds Try.pinned (OpenSpec.upto fnExactIsLateSpec)

/-- 'laws.FnExactMarksOf', WHERE WHAT IT READS IS OF BULK AT MOST 1048576: true; the input reads as it did. -/
def fnExactMarksOfUptoRow : OpenClaim := { program := "ytmbhpnjhhhcjiad", sum := "1e6029ef95c5a8c3ad27718c31ab3a609d5ba0fcf026d0ab1922eef57ef182c6", func := "loop.example/eventstreams/laws.FnExactMarksOf", spec := "fnExactMarksOf", unfollowed := true, recurses := true, apart := false, narrowed := true }
def FnExactMarksOfUptoSaid : Prop := fnExactMarksOfUptoRow.holds Try.pinned (OpenSpec.upto fnExactMarksOfSpec)

/-- 'laws.FnExactLateEvents', WHERE WHAT IT READS IS OF BULK AT MOST 1048576: true; the input reads as it did. -/
def fnExactLateEventsUptoRow : OpenClaim := { program := "ytmbhpnjhhhcjiad", sum := "1e6029ef95c5a8c3ad27718c31ab3a609d5ba0fcf026d0ab1922eef57ef182c6", func := "loop.example/eventstreams/laws.FnExactLateEvents", spec := "fnExactLateEvents", unfollowed := true, recurses := true, apart := false, narrowed := true }
def FnExactLateEventsUptoSaid : Prop := fnExactLateEventsUptoRow.holds Try.pinned (OpenSpec.upto fnExactLateEventsSpec)

/-- 'laws.FnExactIdleInputs', WHERE WHAT IT READS IS OF BULK AT MOST 1048576: true; the input reads as it did. -/
def fnExactIdleInputsUptoRow : OpenClaim := { program := "ytmbhpnjhhhcjiad", sum := "1e6029ef95c5a8c3ad27718c31ab3a609d5ba0fcf026d0ab1922eef57ef182c6", func := "loop.example/eventstreams/laws.FnExactIdleInputs", spec := "fnExactIdleInputs", unfollowed := true, recurses := true, apart := false, narrowed := true }
def FnExactIdleInputsUptoSaid : Prop := fnExactIdleInputsUptoRow.holds Try.pinned (OpenSpec.upto fnExactIdleInputsSpec)

/-- 'laws.FnExactMergeMarks', WHERE WHAT IT READS IS OF BULK AT MOST 1048576: true; the input reads as it did. -/
def fnExactMergeMarksUptoRow : OpenClaim := { program := "ytmbhpnjhhhcjiad", sum := "1e6029ef95c5a8c3ad27718c31ab3a609d5ba0fcf026d0ab1922eef57ef182c6", func := "loop.example/eventstreams/laws.FnExactMergeMarks", spec := "fnExactMergeMarks", unfollowed := true, recurses := true, apart := false, narrowed := true }
def FnExactMergeMarksUptoSaid : Prop := fnExactMergeMarksUptoRow.holds Try.pinned (OpenSpec.upto fnExactMergeMarksSpec)

/-- 'laws.FnExactUpdateInput', WHERE WHAT IT READS IS OF BULK AT MOST 1048576: true; the input reads as it did. -/
def fnExactUpdateInputUptoRow : OpenClaim := { program := "ytmbhpnjhhhcjiad", sum := "1e6029ef95c5a8c3ad27718c31ab3a609d5ba0fcf026d0ab1922eef57ef182c6", func := "loop.example/eventstreams/laws.FnExactUpdateInput", spec := "fnExactUpdateInput", unfollowed := true, recurses := true, apart := false, narrowed := true }
def FnExactUpdateInputUptoSaid : Prop := fnExactUpdateInputUptoRow.holds Try.pinned (OpenSpec.upto fnExactUpdateInputSpec)

/-- 'laws.FnExactNextMark', WHERE WHAT IT READS IS OF BULK AT MOST 1048576: true; the input reads as it did. -/
def fnExactNextMarkUptoRow : OpenClaim := { program := "ytmbhpnjhhhcjiad", sum := "1e6029ef95c5a8c3ad27718c31ab3a609d5ba0fcf026d0ab1922eef57ef182c6", func := "loop.example/eventstreams/laws.FnExactNextMark", spec := "fnExactNextMark", unfollowed := true, recurses := true, apart := false, narrowed := true }
def FnExactNextMarkUptoSaid : Prop := fnExactNextMarkUptoRow.holds Try.pinned (OpenSpec.upto fnExactNextMarkSpec)

end Rows
end Go.Proofs.Ytmbhpnjhhhcjiad
