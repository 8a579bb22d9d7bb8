/-
  No cell of these rows narrows 'for every input' (looked for: loops, veiled, ifaces, maps, wideKeys, modest, calm, conditions, laid).
  DERIVED. THE GIVEN ROWS OF THIS SEAT. 12 by the template 'for every input the law returns true; each argument reads behind the call as it read before'; 0 by the template 'total and deterministic' (their statements: YtehedhkadjidpaaTotals.lean).
  GIVEN WITH THE SEED: the statements are not yours to turn. If you find one false, say at which input.
  Laid BY PROGRAM, IN A SANDBOX (cutbox-rows.mjs): the forced cells as the released guide's own fill.sh prints them over the translation aeb6416ad5b77074… (all of the seat's roots in one cut). By AI agents, Wed Nov 11 2026. No macro, syntax, notation, axiom, sorry.
-/
import Derived.Test.YtehedhkadjidpaaChecked
import GoSem.Claim
import GoSem.ClaimJoined
import GoSem.ClaimMapViews
import Derived.JoinedTies
import Derived.KernelRfl
namespace Go.Proofs.Ytehedhkadjidpaa
/- THE CELL 'sum', in the pinned program and in every row, IS THE sha256 OF THE DUMP (.gsa) THAT YtehedhkadjidpaaProg.lean LOADS. Nothing in Lean hashes anything: it is a label: what it is worth is what the hold of that sum in a sandbox is worth. -/
noncomputable def Try.pinned : Pinned := { name := "ytehedhkadjidpaa", sum := "aeb6416ad5b7707451acc22b4ae5dbb77601a29f330a9d4bcfc6995a3de2519a", checked := Try.checked }
namespace Rows
def none {H : Type} : Left H := { results := [], args := [] }

/-- 'laws.FnExactMergeEvents': WHATEVER THE INPUT: true; the input reads as it did. -/
def fnExactMergeEventsSpec : ChangeSpec := { name := "fnExactMergeEvents", fn := fun _ => fun
  | [d1, d2] => { results := [.lit (.bool true)], args := [d1, d2] }
  | _ => none }
def fnExactMergeEventsRow : OpenClaim := { program := "ytehedhkadjidpaa", sum := "aeb6416ad5b7707451acc22b4ae5dbb77601a29f330a9d4bcfc6995a3de2519a", func := "loop.example/eventstreams/laws.FnExactMergeEvents", spec := "fnExactMergeEvents", unfollowed := true, recurses := true, apart := false }
def FnExactMergeEventsSaid : Prop := fnExactMergeEventsRow.holds Try.pinned (OpenSpec.ofChange fnExactMergeEventsSpec)

/-- ITS FALSE NEIGHBOUR: 'it returns false'. Refute it at one input. -/
def fnExactMergeEventsWrong : ChangeSpec := { name := "fnExactMergeEvents", fn := fun _ => fun
  | [d1, d2] => { results := [.lit (.bool false)], args := [d1, d2] }
  | _ => none }
def FnExactMergeEventsWrongFalsely : Prop := fnExactMergeEventsRow.holds Try.pinned (OpenSpec.ofChange fnExactMergeEventsWrong)

/-- 'laws.FnValidEvent': WHATEVER THE INPUT: true; the input reads as it did. -/
def fnValidEventSpec : ChangeSpec := { name := "fnValidEvent", fn := fun _ => fun
  | [d] => { results := [.lit (.bool true)], args := [d] }
  | _ => none }
def fnValidEventRow : OpenClaim := { program := "ytehedhkadjidpaa", sum := "aeb6416ad5b7707451acc22b4ae5dbb77601a29f330a9d4bcfc6995a3de2519a", func := "loop.example/eventstreams/laws.FnValidEvent", spec := "fnValidEvent", unfollowed := true, recurses := true, apart := false }
def FnValidEventSaid : Prop := fnValidEventRow.holds Try.pinned (OpenSpec.ofChange fnValidEventSpec)

/-- ITS FALSE NEIGHBOUR: 'it returns false'. Refute it at one input. -/
def fnValidEventWrong : ChangeSpec := { name := "fnValidEvent", fn := fun _ => fun
  | [d] => { results := [.lit (.bool false)], args := [d] }
  | _ => none }
def FnValidEventWrongFalsely : Prop := fnValidEventRow.holds Try.pinned (OpenSpec.ofChange fnValidEventWrong)

/-- 'laws.FnSortEvents': WHATEVER THE INPUT: true; the input reads as it did. -/
def fnSortEventsSpec : ChangeSpec := { name := "fnSortEvents", fn := fun _ => fun
  | [d] => { results := [.lit (.bool true)], args := [d] }
  | _ => none }
def fnSortEventsRow : OpenClaim := { program := "ytehedhkadjidpaa", sum := "aeb6416ad5b7707451acc22b4ae5dbb77601a29f330a9d4bcfc6995a3de2519a", func := "loop.example/eventstreams/laws.FnSortEvents", spec := "fnSortEvents", unfollowed := true, recurses := true, apart := false }
def FnSortEventsSaid : Prop := fnSortEventsRow.holds Try.pinned (OpenSpec.ofChange fnSortEventsSpec)

/-- ITS FALSE NEIGHBOUR: 'it returns false'. Refute it at one input. -/
def fnSortEventsWrong : ChangeSpec := { name := "fnSortEvents", fn := fun _ => fun
  | [d] => { results := [.lit (.bool false)], args := [d] }
  | _ => none }
def FnSortEventsWrongFalsely : Prop := fnSortEventsRow.holds Try.pinned (OpenSpec.ofChange fnSortEventsWrong)

/-- 'laws.FnSortEventsOrder': WHATEVER THE INPUT: true; the input reads as it did. -/
def fnSortEventsOrderSpec : ChangeSpec := { name := "fnSortEventsOrder", fn := fun _ => fun
  | [d] => { results := [.lit (.bool true)], args := [d] }
  | _ => none }
def fnSortEventsOrderRow : OpenClaim := { program := "ytehedhkadjidpaa", sum := "aeb6416ad5b7707451acc22b4ae5dbb77601a29f330a9d4bcfc6995a3de2519a", func := "loop.example/eventstreams/laws.FnSortEventsOrder", spec := "fnSortEventsOrder", unfollowed := true, recurses := true, apart := false }
def FnSortEventsOrderSaid : Prop := fnSortEventsOrderRow.holds Try.pinned (OpenSpec.ofChange fnSortEventsOrderSpec)

/-- ITS FALSE NEIGHBOUR: 'it returns false'. Refute it at one input. -/
def fnSortEventsOrderWrong : ChangeSpec := { name := "fnSortEventsOrder", fn := fun _ => fun
  | [d] => { results := [.lit (.bool false)], args := [d] }
  | _ => none }
def FnSortEventsOrderWrongFalsely : Prop := fnSortEventsOrderRow.holds Try.pinned (OpenSpec.ofChange fnSortEventsOrderWrong)

/-- 'laws.FnMergeEvents': WHATEVER THE INPUT: true; the input reads as it did. -/
def fnMergeEventsSpec : ChangeSpec := { name := "fnMergeEvents", fn := fun _ => fun
  | [d] => { results := [.lit (.bool true)], args := [d] }
  | _ => none }
def fnMergeEventsRow : OpenClaim := { program := "ytehedhkadjidpaa", sum := "aeb6416ad5b7707451acc22b4ae5dbb77601a29f330a9d4bcfc6995a3de2519a", func := "loop.example/eventstreams/laws.FnMergeEvents", spec := "fnMergeEvents", unfollowed := true, recurses := true, apart := false }
def FnMergeEventsSaid : Prop := fnMergeEventsRow.holds Try.pinned (OpenSpec.ofChange fnMergeEventsSpec)

/-- ITS FALSE NEIGHBOUR: 'it returns false'. Refute it at one input. -/
def fnMergeEventsWrong : ChangeSpec := { name := "fnMergeEvents", fn := fun _ => fun
  | [d] => { results := [.lit (.bool false)], args := [d] }
  | _ => none }
def FnMergeEventsWrongFalsely : Prop := fnMergeEventsRow.holds Try.pinned (OpenSpec.ofChange fnMergeEventsWrong)

/-- 'laws.FnFilterEvents': WHATEVER THE INPUT: true; the input reads as it did. -/
def fnFilterEventsSpec : ChangeSpec := { name := "fnFilterEvents", fn := fun _ => fun
  | [d] => { results := [.lit (.bool true)], args := [d] }
  | _ => none }
def fnFilterEventsRow : OpenClaim := { program := "ytehedhkadjidpaa", sum := "aeb6416ad5b7707451acc22b4ae5dbb77601a29f330a9d4bcfc6995a3de2519a", func := "loop.example/eventstreams/laws.FnFilterEvents", spec := "fnFilterEvents", unfollowed := true, recurses := true, apart := false }
def FnFilterEventsSaid : Prop := fnFilterEventsRow.holds Try.pinned (OpenSpec.ofChange fnFilterEventsSpec)

/-- ITS FALSE NEIGHBOUR: 'it returns false'. Refute it at one input. -/
def fnFilterEventsWrong : ChangeSpec := { name := "fnFilterEvents", fn := fun _ => fun
  | [d] => { results := [.lit (.bool false)], args := [d] }
  | _ => none }
def FnFilterEventsWrongFalsely : Prop := fnFilterEventsRow.holds Try.pinned (OpenSpec.ofChange fnFilterEventsWrong)

/-- 'laws.FnFilterSorted': WHATEVER THE INPUT: true; the input reads as it did. -/
def fnFilterSortedSpec : ChangeSpec := { name := "fnFilterSorted", fn := fun _ => fun
  | [d] => { results := [.lit (.bool true)], args := [d] }
  | _ => none }
def fnFilterSortedRow : OpenClaim := { program := "ytehedhkadjidpaa", sum := "aeb6416ad5b7707451acc22b4ae5dbb77601a29f330a9d4bcfc6995a3de2519a", func := "loop.example/eventstreams/laws.FnFilterSorted", spec := "fnFilterSorted", unfollowed := true, recurses := true, apart := false }
def FnFilterSortedSaid : Prop := fnFilterSortedRow.holds Try.pinned (OpenSpec.ofChange fnFilterSortedSpec)

/-- ITS FALSE NEIGHBOUR: 'it returns false'. Refute it at one input. -/
def fnFilterSortedWrong : ChangeSpec := { name := "fnFilterSorted", fn := fun _ => fun
  | [d] => { results := [.lit (.bool false)], args := [d] }
  | _ => none }
def FnFilterSortedWrongFalsely : Prop := fnFilterSortedRow.holds Try.pinned (OpenSpec.ofChange fnFilterSortedWrong)

/-- 'laws.FnMarksOfPrefix': WHATEVER THE INPUT: true; the input reads as it did. -/
def fnMarksOfPrefixSpec : ChangeSpec := { name := "fnMarksOfPrefix", fn := fun _ => fun
  | [d] => { results := [.lit (.bool true)], args := [d] }
  | _ => none }
def fnMarksOfPrefixRow : OpenClaim := { program := "ytehedhkadjidpaa", sum := "aeb6416ad5b7707451acc22b4ae5dbb77601a29f330a9d4bcfc6995a3de2519a", func := "loop.example/eventstreams/laws.FnMarksOfPrefix", spec := "fnMarksOfPrefix", unfollowed := true, recurses := true, apart := false }
def FnMarksOfPrefixSaid : Prop := fnMarksOfPrefixRow.holds Try.pinned (OpenSpec.ofChange fnMarksOfPrefixSpec)

/-- ITS FALSE NEIGHBOUR: 'it returns false'. Refute it at one input. -/
def fnMarksOfPrefixWrong : ChangeSpec := { name := "fnMarksOfPrefix", fn := fun _ => fun
  | [d] => { results := [.lit (.bool false)], args := [d] }
  | _ => none }
def FnMarksOfPrefixWrongFalsely : Prop := fnMarksOfPrefixRow.holds Try.pinned (OpenSpec.ofChange fnMarksOfPrefixWrong)

/-- 'laws.FnLateEvents': WHATEVER THE INPUT: true; the input reads as it did. -/
def fnLateEventsSpec : ChangeSpec := { name := "fnLateEvents", fn := fun _ => fun
  | [d] => { results := [.lit (.bool true)], args := [d] }
  | _ => none }
def fnLateEventsRow : OpenClaim := { program := "ytehedhkadjidpaa", sum := "aeb6416ad5b7707451acc22b4ae5dbb77601a29f330a9d4bcfc6995a3de2519a", func := "loop.example/eventstreams/laws.FnLateEvents", spec := "fnLateEvents", unfollowed := true, recurses := true, apart := false }
def FnLateEventsSaid : Prop := fnLateEventsRow.holds Try.pinned (OpenSpec.ofChange fnLateEventsSpec)

/-- ITS FALSE NEIGHBOUR: 'it returns false'. Refute it at one input. -/
def fnLateEventsWrong : ChangeSpec := { name := "fnLateEvents", fn := fun _ => fun
  | [d] => { results := [.lit (.bool false)], args := [d] }
  | _ => none }
def FnLateEventsWrongFalsely : Prop := fnLateEventsRow.holds Try.pinned (OpenSpec.ofChange fnLateEventsWrong)

/-- 'laws.FnLateEventsMarks': WHATEVER THE INPUT: true; the input reads as it did. -/
def fnLateEventsMarksSpec : ChangeSpec := { name := "fnLateEventsMarks", fn := fun _ => fun
  | [d] => { results := [.lit (.bool true)], args := [d] }
  | _ => none }
def fnLateEventsMarksRow : OpenClaim := { program := "ytehedhkadjidpaa", sum := "aeb6416ad5b7707451acc22b4ae5dbb77601a29f330a9d4bcfc6995a3de2519a", func := "loop.example/eventstreams/laws.FnLateEventsMarks", spec := "fnLateEventsMarks", unfollowed := true, recurses := true, apart := false }
def FnLateEventsMarksSaid : Prop := fnLateEventsMarksRow.holds Try.pinned (OpenSpec.ofChange fnLateEventsMarksSpec)

/-- ITS FALSE NEIGHBOUR: 'it returns false'. Refute it at one input. -/
def fnLateEventsMarksWrong : ChangeSpec := { name := "fnLateEventsMarks", fn := fun _ => fun
  | [d] => { results := [.lit (.bool false)], args := [d] }
  | _ => none }
def FnLateEventsMarksWrongFalsely : Prop := fnLateEventsMarksRow.holds Try.pinned (OpenSpec.ofChange fnLateEventsMarksWrong)

/-- 'laws.FnAccOf': WHATEVER THE INPUT: true; the input reads as it did. -/
def fnAccOfSpec : ChangeSpec := { name := "fnAccOf", fn := fun _ => fun
  | [d] => { results := [.lit (.bool true)], args := [d] }
  | _ => none }
def fnAccOfRow : OpenClaim := { program := "ytehedhkadjidpaa", sum := "aeb6416ad5b7707451acc22b4ae5dbb77601a29f330a9d4bcfc6995a3de2519a", func := "loop.example/eventstreams/laws.FnAccOf", spec := "fnAccOf", unfollowed := true, recurses := true, apart := false }
def FnAccOfSaid : Prop := fnAccOfRow.holds Try.pinned (OpenSpec.ofChange fnAccOfSpec)

/-- ITS FALSE NEIGHBOUR: 'it returns false'. Refute it at one input. -/
def fnAccOfWrong : ChangeSpec := { name := "fnAccOf", fn := fun _ => fun
  | [d] => { results := [.lit (.bool false)], args := [d] }
  | _ => none }
def FnAccOfWrongFalsely : Prop := fnAccOfRow.holds Try.pinned (OpenSpec.ofChange fnAccOfWrong)

/-- 'laws.FnExactAccOf': WHATEVER THE INPUT: true; the input reads as it did. -/
def fnExactAccOfSpec : ChangeSpec := { name := "fnExactAccOf", fn := fun _ => fun
  | [d] => { results := [.lit (.bool true)], args := [d] }
  | _ => none }
def fnExactAccOfRow : OpenClaim := { program := "ytehedhkadjidpaa", sum := "aeb6416ad5b7707451acc22b4ae5dbb77601a29f330a9d4bcfc6995a3de2519a", func := "loop.example/eventstreams/laws.FnExactAccOf", spec := "fnExactAccOf", unfollowed := true, recurses := true, apart := false }
def FnExactAccOfSaid : Prop := fnExactAccOfRow.holds Try.pinned (OpenSpec.ofChange fnExactAccOfSpec)

/-- ITS FALSE NEIGHBOUR: 'it returns false'. Refute it at one input. -/
def fnExactAccOfWrong : ChangeSpec := { name := "fnExactAccOf", fn := fun _ => fun
  | [d] => { results := [.lit (.bool false)], args := [d] }
  | _ => none }
def FnExactAccOfWrongFalsely : Prop := fnExactAccOfRow.holds Try.pinned (OpenSpec.ofChange fnExactAccOfWrong)

/- THE SECOND FORM. 'bulk': how many values and letters a reading holds, each counted each time it is reached (what is shared counts as often as it is met; a slice's spare places count too). A statement '..UptoSaid' is the law's where the arguments, and the package variables that the reading takes, are together of bulk at most 1048576: NARROWER than '..Said'. Prove '..Said' where nothing that the law and all that it calls make is longer than what came in: it says more and counts as full. Else prove '..UptoSaid'. A law counts once. -/
mutual
def uptoBulk {H : Type} : DataW H → Nat
  | .lit (.string bytes) => bytes.length + 1
  | .lit _ => 1
  | .nil => 1
  | .ptr d => uptoBulk d + 1
  | .slice elems spare => uptoBulkAll elems + uptoBulkAll spare + 1
  | .agg parts => uptoBulkAll parts + 1
  | .iface _ d => uptoBulk d + 1
  | .map entries => uptoBulkEntries entries + 1
  | .held _ => 1
def uptoBulkAll {H : Type} : List (DataW H) → Nat
  | [] => 0
  | d :: r => uptoBulk d + uptoBulkAll r
def uptoBulkEntries {H : Type} : List (Lit × DataW H) → Nat
  | [] => 0
  | x :: r => uptoBulkEntry x + uptoBulkEntries r
def uptoBulkEntry {H : Type} : Lit × DataW H → Nat
  | (.string bytes, d) => bytes.length + uptoBulk d + 1
  | (_, d) => uptoBulk d + 1
 end
def uptoSmall : (H : Type) → List (DataW H) → Bool := fun _ ds => decide (uptoBulkAll ds ≤ 1048576)
def OpenSpec.upto (s : _root_.Go.ChangeSpec) : _root_.Go.OpenSpec := { _root_.Go.OpenSpec.ofChange s with cond := some uptoSmall }

/-- 'laws.FnExactMergeEvents', WHERE WHAT IT READS IS OF BULK AT MOST 1048576: true; the input reads as it did. -/
def fnExactMergeEventsUptoRow : OpenClaim := { program := "ytehedhkadjidpaa", sum := "aeb6416ad5b7707451acc22b4ae5dbb77601a29f330a9d4bcfc6995a3de2519a", func := "loop.example/eventstreams/laws.FnExactMergeEvents", spec := "fnExactMergeEvents", unfollowed := true, recurses := true, apart := false, narrowed := true }
def FnExactMergeEventsUptoSaid : Prop := fnExactMergeEventsUptoRow.holds Try.pinned (OpenSpec.upto fnExactMergeEventsSpec)

/-- 'laws.FnValidEvent', WHERE WHAT IT READS IS OF BULK AT MOST 1048576: true; the input reads as it did. -/
def fnValidEventUptoRow : OpenClaim := { program := "ytehedhkadjidpaa", sum := "aeb6416ad5b7707451acc22b4ae5dbb77601a29f330a9d4bcfc6995a3de2519a", func := "loop.example/eventstreams/laws.FnValidEvent", spec := "fnValidEvent", unfollowed := true, recurses := true, apart := false, narrowed := true }
def FnValidEventUptoSaid : Prop := fnValidEventUptoRow.holds Try.pinned (OpenSpec.upto fnValidEventSpec)

/-- 'laws.FnSortEvents', WHERE WHAT IT READS IS OF BULK AT MOST 1048576: true; the input reads as it did. -/
def fnSortEventsUptoRow : OpenClaim := { program := "ytehedhkadjidpaa", sum := "aeb6416ad5b7707451acc22b4ae5dbb77601a29f330a9d4bcfc6995a3de2519a", func := "loop.example/eventstreams/laws.FnSortEvents", spec := "fnSortEvents", unfollowed := true, recurses := true, apart := false, narrowed := true }
def FnSortEventsUptoSaid : Prop := fnSortEventsUptoRow.holds Try.pinned (OpenSpec.upto fnSortEventsSpec)

/-- 'laws.FnSortEventsOrder', WHERE WHAT IT READS IS OF BULK AT MOST 1048576: true; the input reads as it did. -/
def fnSortEventsOrderUptoRow : OpenClaim := { program := "ytehedhkadjidpaa", sum := "aeb6416ad5b7707451acc22b4ae5dbb77601a29f330a9d4bcfc6995a3de2519a", func := "loop.example/eventstreams/laws.FnSortEventsOrder", spec := "fnSortEventsOrder", unfollowed := true, recurses := true, apart := false, narrowed := true }
def FnSortEventsOrderUptoSaid : Prop := fnSortEventsOrderUptoRow.holds Try.pinned (OpenSpec.upto fnSortEventsOrderSpec)

/-- 'laws.FnMergeEvents', WHERE WHAT IT READS IS OF BULK AT MOST 1048576: true; the input reads as it did. -/
def fnMergeEventsUptoRow : OpenClaim := { program := "ytehedhkadjidpaa", sum := "aeb6416ad5b7707451acc22b4ae5dbb77601a29f330a9d4bcfc6995a3de2519a", func := "loop.example/eventstreams/laws.FnMergeEvents", spec := "fnMergeEvents", unfollowed := true, recurses := true, apart := false, narrowed := true }
def FnMergeEventsUptoSaid : Prop := fnMergeEventsUptoRow.holds Try.pinned (OpenSpec.upto fnMergeEventsSpec)

/-- 'laws.FnFilterEvents', WHERE WHAT IT READS IS OF BULK AT MOST 1048576: true; the input reads as it did. -/
def fnFilterEventsUptoRow : OpenClaim := { program := "ytehedhkadjidpaa", sum := "aeb6416ad5b7707451acc22b4ae5dbb77601a29f330a9d4bcfc6995a3de2519a", func := "loop.example/eventstreams/laws.FnFilterEvents", spec := "fnFilterEvents", unfollowed := true, recurses := true, apart := false, narrowed := true }
def FnFilterEventsUptoSaid : Prop := fnFilterEventsUptoRow.holds Try.pinned (OpenSpec.upto fnFilterEventsSpec)

/-- 'laws.FnFilterSorted', WHERE WHAT IT READS IS OF BULK AT MOST 1048576: true; the input reads as it did. -/
def fnFilterSortedUptoRow : OpenClaim := { program := "ytehedhkadjidpaa", sum := "aeb6416ad5b7707451acc22b4ae5dbb77601a29f330a9d4bcfc6995a3de2519a", func := "loop.example/eventstreams/laws.FnFilterSorted", spec := "fnFilterSorted", unfollowed := true, recurses := true, apart := false, narrowed := true }
def FnFilterSortedUptoSaid : Prop := fnFilterSortedUptoRow.holds Try.pinned (OpenSpec.upto fnFilterSortedSpec)

/-- 'laws.FnMarksOfPrefix', WHERE WHAT IT READS IS OF BULK AT MOST 1048576: true; the input reads as it did. -/
def fnMarksOfPrefixUptoRow : OpenClaim := { program := "ytehedhkadjidpaa", sum := "aeb6416ad5b7707451acc22b4ae5dbb77601a29f330a9d4bcfc6995a3de2519a", func := "loop.example/eventstreams/laws.FnMarksOfPrefix", spec := "fnMarksOfPrefix", unfollowed := true, recurses := true, apart := false, narrowed := true }
def FnMarksOfPrefixUptoSaid : Prop := fnMarksOfPrefixUptoRow.holds Try.pinned (OpenSpec.upto fnMarksOfPrefixSpec)

/-- 'laws.FnLateEvents', WHERE WHAT IT READS IS OF BULK AT MOST 1048576: true; the input reads as it did. -/
def fnLateEventsUptoRow : OpenClaim := { program := "ytehedhkadjidpaa", sum := "aeb6416ad5b7707451acc22b4ae5dbb77601a29f330a9d4bcfc6995a3de2519a", func := "loop.example/eventstreams/laws.FnLateEvents", spec := "fnLateEvents", unfollowed := true, recurses := true, apart := false, narrowed := true }
def FnLateEventsUptoSaid : Prop := fnLateEventsUptoRow.holds Try.pinned (OpenSpec.upto fnLateEventsSpec)

/-- 'laws.FnLateEventsMarks', WHERE WHAT IT READS IS OF BULK AT MOST 1048576: true; the input reads as it did. -/
def fnLateEventsMarksUptoRow : OpenClaim := { program := "ytehedhkadjidpaa", sum := "aeb6416ad5b7707451acc22b4ae5dbb77601a29f330a9d4bcfc6995a3de2519a", func := "loop.example/eventstreams/laws.FnLateEventsMarks", spec := "fnLateEventsMarks", unfollowed := true, recurses := true, apart := false, narrowed := true }
def FnLateEventsMarksUptoSaid : Prop := fnLateEventsMarksUptoRow.holds Try.pinned (OpenSpec.upto fnLateEventsMarksSpec)

/-- 'laws.FnAccOf', WHERE WHAT IT READS IS OF BULK AT MOST 1048576: true; the input reads as it did. -/
def fnAccOfUptoRow : OpenClaim := { program := "ytehedhkadjidpaa", sum := "aeb6416ad5b7707451acc22b4ae5dbb77601a29f330a9d4bcfc6995a3de2519a", func := "loop.example/eventstreams/laws.FnAccOf", spec := "fnAccOf", unfollowed := true, recurses := true, apart := false, narrowed := true }
def FnAccOfUptoSaid : Prop := fnAccOfUptoRow.holds Try.pinned (OpenSpec.upto fnAccOfSpec)

/-- 'laws.FnExactAccOf', WHERE WHAT IT READS IS OF BULK AT MOST 1048576: true; the input reads as it did. -/
def fnExactAccOfUptoRow : OpenClaim := { program := "ytehedhkadjidpaa", sum := "aeb6416ad5b7707451acc22b4ae5dbb77601a29f330a9d4bcfc6995a3de2519a", func := "loop.example/eventstreams/laws.FnExactAccOf", spec := "fnExactAccOf", unfollowed := true, recurses := true, apart := false, narrowed := true }
def FnExactAccOfUptoSaid : Prop := fnExactAccOfUptoRow.holds Try.pinned (OpenSpec.upto fnExactAccOfSpec)

end Rows
end Go.Proofs.Ytehedhkadjidpaa
