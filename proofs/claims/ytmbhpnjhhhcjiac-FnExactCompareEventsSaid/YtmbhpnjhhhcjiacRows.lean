/-
  No cell of these rows narrows 'for every input' (looked for: loops, veiled, ifaces, maps, wideKeys, modest, calm, conditions, laid).
  DERIVED. THE GIVEN ROWS OF THIS SEAT. 12 by the template 'for every input the law returns true; each argument reads behind the call as it read before'; 0 by the template 'total and deterministic' (their statements: YtmbhpnjhhhcjiacTotals.lean).
  GIVEN WITH THE SEED: the statements are not yours to turn. If you find one false, say at which input.
  Laid BY PROGRAM, IN A SANDBOX (cutbox-rows.mjs): the forced cells as the released guide's own fill.sh prints them over the translation c2cf6a644c4d1343… (all of the seat's roots in one cut). By AI agents, Wed Nov 11 2026. No macro, syntax, notation, axiom, sorry.
-/
import Derived.Test.YtmbhpnjhhhcjiacChecked
import GoSem.Claim
import GoSem.ClaimJoined
import GoSem.ClaimMapViews
import Derived.JoinedTies
import Derived.KernelRfl
namespace Go.Proofs.Ytmbhpnjhhhcjiac
/- THE CELL 'sum', in the pinned program and in every row, IS THE sha256 OF THE DUMP (.gsa) THAT YtmbhpnjhhhcjiacProg.lean LOADS. Nothing in Lean hashes anything: it is a label: what it is worth is what the hold of that sum in a sandbox is worth. -/
noncomputable def Try.pinned : Pinned := { name := "ytmbhpnjhhhcjiac", sum := "c2cf6a644c4d13434f84b48c93b9c03e7d223f1d394c897f2f8c10541efce7ac", checked := Try.checked }
namespace Rows
def none {H : Type} : Left H := { results := [], args := [] }

/-- 'laws.FnUpdateInputMark': WHATEVER THE INPUT: true; the input reads as it did. -/
def fnUpdateInputMarkSpec : ChangeSpec := { name := "fnUpdateInputMark", fn := fun _ => fun
  | [d] => { results := [.lit (.bool true)], args := [d] }
  | _ => none }
def fnUpdateInputMarkRow : OpenClaim := { program := "ytmbhpnjhhhcjiac", sum := "c2cf6a644c4d13434f84b48c93b9c03e7d223f1d394c897f2f8c10541efce7ac", func := "loop.example/eventstreams/laws.FnUpdateInputMark", spec := "fnUpdateInputMark", unfollowed := true, recurses := true, apart := false }
def FnUpdateInputMarkSaid : Prop := fnUpdateInputMarkRow.holds Try.pinned (OpenSpec.ofChange fnUpdateInputMarkSpec)

/-- ITS FALSE NEIGHBOUR: 'it returns false'. Refute it at one input. -/
def fnUpdateInputMarkWrong : ChangeSpec := { name := "fnUpdateInputMark", fn := fun _ => fun
  | [d] => { results := [.lit (.bool false)], args := [d] }
  | _ => none }
def FnUpdateInputMarkWrongFalsely : Prop := fnUpdateInputMarkRow.holds Try.pinned (OpenSpec.ofChange fnUpdateInputMarkWrong)

/-- 'laws.FnNextMark': WHATEVER THE INPUT: true; the input reads as it did. -/
def fnNextMarkSpec : ChangeSpec := { name := "fnNextMark", fn := fun _ => fun
  | [d] => { results := [.lit (.bool true)], args := [d] }
  | _ => none }
def fnNextMarkRow : OpenClaim := { program := "ytmbhpnjhhhcjiac", sum := "c2cf6a644c4d13434f84b48c93b9c03e7d223f1d394c897f2f8c10541efce7ac", func := "loop.example/eventstreams/laws.FnNextMark", spec := "fnNextMark", unfollowed := true, recurses := true, apart := false }
def FnNextMarkSaid : Prop := fnNextMarkRow.holds Try.pinned (OpenSpec.ofChange fnNextMarkSpec)

/-- ITS FALSE NEIGHBOUR: 'it returns false'. Refute it at one input. -/
def fnNextMarkWrong : ChangeSpec := { name := "fnNextMark", fn := fun _ => fun
  | [d] => { results := [.lit (.bool false)], args := [d] }
  | _ => none }
def FnNextMarkWrongFalsely : Prop := fnNextMarkRow.holds Try.pinned (OpenSpec.ofChange fnNextMarkWrong)

/-- 'laws.FnExactValidEvent': WHATEVER THE INPUT: true; the input reads as it did. -/
def fnExactValidEventSpec : ChangeSpec := { name := "fnExactValidEvent", fn := fun _ => fun
  | [d] => { results := [.lit (.bool true)], args := [d] }
  | _ => none }
def fnExactValidEventRow : OpenClaim := { program := "ytmbhpnjhhhcjiac", sum := "c2cf6a644c4d13434f84b48c93b9c03e7d223f1d394c897f2f8c10541efce7ac", func := "loop.example/eventstreams/laws.FnExactValidEvent", spec := "fnExactValidEvent", apart := false }
def FnExactValidEventSaid : Prop := fnExactValidEventRow.holds Try.pinned (OpenSpec.ofChange fnExactValidEventSpec)

/-- ITS FALSE NEIGHBOUR: 'it returns false'. Refute it at one input. -/
def fnExactValidEventWrong : ChangeSpec := { name := "fnExactValidEvent", fn := fun _ => fun
  | [d] => { results := [.lit (.bool false)], args := [d] }
  | _ => none }
def FnExactValidEventWrongFalsely : Prop := fnExactValidEventRow.holds Try.pinned (OpenSpec.ofChange fnExactValidEventWrong)

/-- 'laws.FnExactCompareEvents': WHATEVER THE INPUT: true; the input reads as it did. -/
def fnExactCompareEventsSpec : ChangeSpec := { name := "fnExactCompareEvents", fn := fun _ => fun
  | [d1, d2] => { results := [.lit (.bool true)], args := [d1, d2] }
  | _ => none }
def fnExactCompareEventsRow : OpenClaim := { program := "ytmbhpnjhhhcjiac", sum := "c2cf6a644c4d13434f84b48c93b9c03e7d223f1d394c897f2f8c10541efce7ac", func := "loop.example/eventstreams/laws.FnExactCompareEvents", spec := "fnExactCompareEvents", apart := false }
def FnExactCompareEventsSaid : Prop := fnExactCompareEventsRow.holds Try.pinned (OpenSpec.ofChange fnExactCompareEventsSpec)

/-- ITS FALSE NEIGHBOUR: 'it returns false'. Refute it at one input. -/
def fnExactCompareEventsWrong : ChangeSpec := { name := "fnExactCompareEvents", fn := fun _ => fun
  | [d1, d2] => { results := [.lit (.bool false)], args := [d1, d2] }
  | _ => none }
def FnExactCompareEventsWrongFalsely : Prop := fnExactCompareEventsRow.holds Try.pinned (OpenSpec.ofChange fnExactCompareEventsWrong)

/-- 'laws.FnExactSortEvents': WHATEVER THE INPUT: true; the input reads as it did. -/
def fnExactSortEventsSpec : ChangeSpec := { name := "fnExactSortEvents", fn := fun _ => fun
  | [d] => { results := [.lit (.bool true)], args := [d] }
  | _ => none }
def fnExactSortEventsRow : OpenClaim := { program := "ytmbhpnjhhhcjiac", sum := "c2cf6a644c4d13434f84b48c93b9c03e7d223f1d394c897f2f8c10541efce7ac", func := "loop.example/eventstreams/laws.FnExactSortEvents", spec := "fnExactSortEvents", unfollowed := true, recurses := true, apart := false }
def FnExactSortEventsSaid : Prop := fnExactSortEventsRow.holds Try.pinned (OpenSpec.ofChange fnExactSortEventsSpec)

/-- ITS FALSE NEIGHBOUR: 'it returns false'. Refute it at one input. -/
def fnExactSortEventsWrong : ChangeSpec := { name := "fnExactSortEvents", fn := fun _ => fun
  | [d] => { results := [.lit (.bool false)], args := [d] }
  | _ => none }
def FnExactSortEventsWrongFalsely : Prop := fnExactSortEventsRow.holds Try.pinned (OpenSpec.ofChange fnExactSortEventsWrong)

/-- 'laws.FnExactMergeEvents': WHATEVER THE INPUT: true; the input reads as it did. -/
def fnExactMergeEventsSpec : ChangeSpec := { name := "fnExactMergeEvents", fn := fun _ => fun
  | [d1, d2] => { results := [.lit (.bool true)], args := [d1, d2] }
  | _ => none }
def fnExactMergeEventsRow : OpenClaim := { program := "ytmbhpnjhhhcjiac", sum := "c2cf6a644c4d13434f84b48c93b9c03e7d223f1d394c897f2f8c10541efce7ac", func := "loop.example/eventstreams/laws.FnExactMergeEvents", spec := "fnExactMergeEvents", unfollowed := true, recurses := true, apart := false }
def FnExactMergeEventsSaid : Prop := fnExactMergeEventsRow.holds Try.pinned (OpenSpec.ofChange fnExactMergeEventsSpec)

/-- ITS FALSE NEIGHBOUR: 'it returns false'. Refute it at one input. -/
def fnExactMergeEventsWrong : ChangeSpec := { name := "fnExactMergeEvents", fn := fun _ => fun
  | [d1, d2] => { results := [.lit (.bool false)], args := [d1, d2] }
  | _ => none }
def FnExactMergeEventsWrongFalsely : Prop := fnExactMergeEventsRow.holds Try.pinned (OpenSpec.ofChange fnExactMergeEventsWrong)

/-- 'laws.FnExactFilterEvents': WHATEVER THE INPUT: true; the input reads as it did. -/
def fnExactFilterEventsSpec : ChangeSpec := { name := "fnExactFilterEvents", fn := fun _ => fun
  | [d1, d2, d3] => { results := [.lit (.bool true)], args := [d1, d2, d3] }
  | _ => none }
def fnExactFilterEventsRow : OpenClaim := { program := "ytmbhpnjhhhcjiac", sum := "c2cf6a644c4d13434f84b48c93b9c03e7d223f1d394c897f2f8c10541efce7ac", func := "loop.example/eventstreams/laws.FnExactFilterEvents", spec := "fnExactFilterEvents", unfollowed := true, recurses := true, apart := false }
def FnExactFilterEventsSaid : Prop := fnExactFilterEventsRow.holds Try.pinned (OpenSpec.ofChange fnExactFilterEventsSpec)

/-- ITS FALSE NEIGHBOUR: 'it returns false'. Refute it at one input. -/
def fnExactFilterEventsWrong : ChangeSpec := { name := "fnExactFilterEvents", fn := fun _ => fun
  | [d1, d2, d3] => { results := [.lit (.bool false)], args := [d1, d2, d3] }
  | _ => none }
def FnExactFilterEventsWrongFalsely : Prop := fnExactFilterEventsRow.holds Try.pinned (OpenSpec.ofChange fnExactFilterEventsWrong)

/-- 'laws.FnExactLogNew': WHATEVER THE INPUT: true; the input reads as it did. -/
def fnExactLogNewSpec : ChangeSpec := { name := "fnExactLogNew", fn := fun _ => fun
  | [d] => { results := [.lit (.bool true)], args := [d] }
  | _ => none }
def fnExactLogNewRow : OpenClaim := { program := "ytmbhpnjhhhcjiac", sum := "c2cf6a644c4d13434f84b48c93b9c03e7d223f1d394c897f2f8c10541efce7ac", func := "loop.example/eventstreams/laws.FnExactLogNew", spec := "fnExactLogNew", apart := false }
def FnExactLogNewSaid : Prop := fnExactLogNewRow.holds Try.pinned (OpenSpec.ofChange fnExactLogNewSpec)

/-- ITS FALSE NEIGHBOUR: 'it returns false'. Refute it at one input. -/
def fnExactLogNewWrong : ChangeSpec := { name := "fnExactLogNew", fn := fun _ => fun
  | [d] => { results := [.lit (.bool false)], args := [d] }
  | _ => none }
def FnExactLogNewWrongFalsely : Prop := fnExactLogNewRow.holds Try.pinned (OpenSpec.ofChange fnExactLogNewWrong)

/-- 'laws.FnExactPartOf': WHATEVER THE INPUT: true; the input reads as it did. -/
def fnExactPartOfSpec : ChangeSpec := { name := "fnExactPartOf", fn := fun _ => fun
  | [d1, d2] => { results := [.lit (.bool true)], args := [d1, d2] }
  | _ => none }
def fnExactPartOfRow : OpenClaim := { program := "ytmbhpnjhhhcjiac", sum := "c2cf6a644c4d13434f84b48c93b9c03e7d223f1d394c897f2f8c10541efce7ac", func := "loop.example/eventstreams/laws.FnExactPartOf", spec := "fnExactPartOf", apart := false }
def FnExactPartOfSaid : Prop := fnExactPartOfRow.holds Try.pinned (OpenSpec.ofChange fnExactPartOfSpec)

/-- ITS FALSE NEIGHBOUR: 'it returns false'. Refute it at one input. -/
def fnExactPartOfWrong : ChangeSpec := { name := "fnExactPartOf", fn := fun _ => fun
  | [d1, d2] => { results := [.lit (.bool false)], args := [d1, d2] }
  | _ => none }
def FnExactPartOfWrongFalsely : Prop := fnExactPartOfRow.holds Try.pinned (OpenSpec.ofChange fnExactPartOfWrong)

/-- 'laws.FnExactAppendLog': WHATEVER THE INPUT: true; the input reads as it did. -/
def fnExactAppendLogSpec : ChangeSpec := { name := "fnExactAppendLog", fn := fun _ => fun
  | [d1, d2] => { results := [.lit (.bool true)], args := [d1, d2] }
  | _ => none }
def fnExactAppendLogRow : OpenClaim := { program := "ytmbhpnjhhhcjiac", sum := "c2cf6a644c4d13434f84b48c93b9c03e7d223f1d394c897f2f8c10541efce7ac", func := "loop.example/eventstreams/laws.FnExactAppendLog", spec := "fnExactAppendLog", unfollowed := true, recurses := true, apart := false }
def FnExactAppendLogSaid : Prop := fnExactAppendLogRow.holds Try.pinned (OpenSpec.ofChange fnExactAppendLogSpec)

/-- ITS FALSE NEIGHBOUR: 'it returns false'. Refute it at one input. -/
def fnExactAppendLogWrong : ChangeSpec := { name := "fnExactAppendLog", fn := fun _ => fun
  | [d1, d2] => { results := [.lit (.bool false)], args := [d1, d2] }
  | _ => none }
def FnExactAppendLogWrongFalsely : Prop := fnExactAppendLogRow.holds Try.pinned (OpenSpec.ofChange fnExactAppendLogWrong)

/-- 'laws.FnExactReadLog': WHATEVER THE INPUT: true; the input reads as it did. -/
def fnExactReadLogSpec : ChangeSpec := { name := "fnExactReadLog", fn := fun _ => fun
  | [d1, d2, d3] => { results := [.lit (.bool true)], args := [d1, d2, d3] }
  | _ => none }
def fnExactReadLogRow : OpenClaim := { program := "ytmbhpnjhhhcjiac", sum := "c2cf6a644c4d13434f84b48c93b9c03e7d223f1d394c897f2f8c10541efce7ac", func := "loop.example/eventstreams/laws.FnExactReadLog", spec := "fnExactReadLog", unfollowed := true, recurses := true, apart := false }
def FnExactReadLogSaid : Prop := fnExactReadLogRow.holds Try.pinned (OpenSpec.ofChange fnExactReadLogSpec)

/-- ITS FALSE NEIGHBOUR: 'it returns false'. Refute it at one input. -/
def fnExactReadLogWrong : ChangeSpec := { name := "fnExactReadLog", fn := fun _ => fun
  | [d1, d2, d3] => { results := [.lit (.bool false)], args := [d1, d2, d3] }
  | _ => none }
def FnExactReadLogWrongFalsely : Prop := fnExactReadLogRow.holds Try.pinned (OpenSpec.ofChange fnExactReadLogWrong)

/-- 'laws.FnExactLagOf': WHATEVER THE INPUT: true; the input reads as it did. -/
def fnExactLagOfSpec : ChangeSpec := { name := "fnExactLagOf", fn := fun _ => fun
  | [d1, d2] => { results := [.lit (.bool true)], args := [d1, d2] }
  | _ => none }
def fnExactLagOfRow : OpenClaim := { program := "ytmbhpnjhhhcjiac", sum := "c2cf6a644c4d13434f84b48c93b9c03e7d223f1d394c897f2f8c10541efce7ac", func := "loop.example/eventstreams/laws.FnExactLagOf", spec := "fnExactLagOf", unfollowed := true, recurses := true, apart := false }
def FnExactLagOfSaid : Prop := fnExactLagOfRow.holds Try.pinned (OpenSpec.ofChange fnExactLagOfSpec)

/-- ITS FALSE NEIGHBOUR: 'it returns false'. Refute it at one input. -/
def fnExactLagOfWrong : ChangeSpec := { name := "fnExactLagOf", fn := fun _ => fun
  | [d1, d2] => { results := [.lit (.bool false)], args := [d1, d2] }
  | _ => none }
def FnExactLagOfWrongFalsely : Prop := fnExactLagOfRow.holds Try.pinned (OpenSpec.ofChange fnExactLagOfWrong)

/- THE SECOND FORM. 'bulk': how many values and letters a reading holds, each counted each time it is reached (what is shared counts as often as it is met; a slice's spare places count too). A statement '..UptoSaid' is the law's where the arguments, and the package variables that the reading takes, are together of bulk at most 1048576: NARROWER than '..Said'. Prove '..Said' where nothing that the law and all that it calls make is longer than what came in: it says more and counts as full. Else prove '..UptoSaid'. A law counts once. -/
mutual
def uptoBulk {H : Type} : DataW H → Nat
  | .lit (.string bytes) => bytes.length + 1
  | .lit _ => 1
  | .nil => 1
  | .ptr d => uptoBulk d + 1
  | .slice elems spare => uptoBulkAll elems + uptoBulkAll spare + 1
  | .agg parts => uptoBulkAll parts + 1
  | .iface _ d => uptoBulk d + 1
  | .map entries => uptoBulkEntries entries + 1
  | .held _ => 1
def uptoBulkAll {H : Type} : List (DataW H) → Nat
  | [] => 0
  | d :: r => uptoBulk d + uptoBulkAll r
def uptoBulkEntries {H : Type} : List (Lit × DataW H) → Nat
  | [] => 0
  | x :: r => uptoBulkEntry x + uptoBulkEntries r
def uptoBulkEntry {H : Type} : Lit × DataW H → Nat
  | (.string bytes, d) => bytes.length + uptoBulk d + 1
  | (_, d) => uptoBulk d + 1
 end
def uptoSmall : (H : Type) → List (DataW H) → Bool := fun _ ds => decide (uptoBulkAll ds ≤ 1048576)
def OpenSpec.upto (s : _root_.Go.ChangeSpec) : _root_.Go.OpenSpec := { _root_.Go.OpenSpec.ofChange s with cond := some uptoSmall }

/-- 'laws.FnUpdateInputMark', WHERE WHAT IT READS IS OF BULK AT MOST 1048576: true; the input reads as it did. -/
def fnUpdateInputMarkUptoRow : OpenClaim := { program := "ytmbhpnjhhhcjiac", sum := "c2cf6a644c4d13434f84b48c93b9c03e7d223f1d394c897f2f8c10541efce7ac", func := "loop.example/eventstreams/laws.FnUpdateInputMark", spec := "fnUpdateInputMark", unfollowed := true, recurses := true, apart := false, narrowed := true }
def FnUpdateInputMarkUptoSaid : Prop := fnUpdateInputMarkUptoRow.holds Try.pinned (OpenSpec.upto fnUpdateInputMarkSpec)

/-- 'laws.FnNextMark', WHERE WHAT IT READS IS OF BULK AT MOST 1048576: true; the input reads as it did. -/
def fnNextMarkUptoRow : OpenClaim := { program := "ytmbhpnjhhhcjiac", sum := "c2cf6a644c4d13434f84b48c93b9c03e7d223f1d394c897f2f8c10541efce7ac", func := "loop.example/eventstreams/laws.FnNextMark", spec := "fnNextMark", unfollowed := true, recurses := true, apart := false, narrowed := true }
def FnNextMarkUptoSaid : Prop := fnNextMarkUptoRow.holds Try.pinned (OpenSpec.upto fnNextMarkSpec)

/-- 'laws.FnExactValidEvent', WHERE WHAT IT READS IS OF BULK AT MOST 1048576: true; the input reads as it did. -/
def fnExactValidEventUptoRow : OpenClaim := { program := "ytmbhpnjhhhcjiac", sum := "c2cf6a644c4d13434f84b48c93b9c03e7d223f1d394c897f2f8c10541efce7ac", func := "loop.example/eventstreams/laws.FnExactValidEvent", spec := "fnExactValidEvent", apart := false, narrowed := true }
def FnExactValidEventUptoSaid : Prop := fnExactValidEventUptoRow.holds Try.pinned (OpenSpec.upto fnExactValidEventSpec)

/-- 'laws.FnExactCompareEvents', WHERE WHAT IT READS IS OF BULK AT MOST 1048576: true; the input reads as it did. -/
def fnExactCompareEventsUptoRow : OpenClaim := { program := "ytmbhpnjhhhcjiac", sum := "c2cf6a644c4d13434f84b48c93b9c03e7d223f1d394c897f2f8c10541efce7ac", func := "loop.example/eventstreams/laws.FnExactCompareEvents", spec := "fnExactCompareEvents", apart := false, narrowed := true }
def FnExactCompareEventsUptoSaid : Prop := fnExactCompareEventsUptoRow.holds Try.pinned (OpenSpec.upto fnExactCompareEventsSpec)

/-- 'laws.FnExactSortEvents', WHERE WHAT IT READS IS OF BULK AT MOST 1048576: true; the input reads as it did. -/
def fnExactSortEventsUptoRow : OpenClaim := { program := "ytmbhpnjhhhcjiac", sum := "c2cf6a644c4d13434f84b48c93b9c03e7d223f1d394c897f2f8c10541efce7ac", func := "loop.example/eventstreams/laws.FnExactSortEvents", spec := "fnExactSortEvents", unfollowed := true, recurses := true, apart := false, narrowed := true }
def FnExactSortEventsUptoSaid : Prop := fnExactSortEventsUptoRow.holds Try.pinned (OpenSpec.upto fnExactSortEventsSpec)

/-- 'laws.FnExactMergeEvents', WHERE WHAT IT READS IS OF BULK AT MOST 1048576: true; the input reads as it did. -/
def fnExactMergeEventsUptoRow : OpenClaim := { program := "ytmbhpnjhhhcjiac", sum := "c2cf6a644c4d13434f84b48c93b9c03e7d223f1d394c897f2f8c10541efce7ac", func := "loop.example/eventstreams/laws.FnExactMergeEvents", spec := "fnExactMergeEvents", unfollowed := true, recurses := true, apart := false, narrowed := true }
def FnExactMergeEventsUptoSaid : Prop := fnExactMergeEventsUptoRow.holds Try.pinned (OpenSpec.upto fnExactMergeEventsSpec)

/-- 'laws.FnExactFilterEvents', WHERE WHAT IT READS IS OF BULK AT MOST 1048576: true; the input reads as it did. -/
def fnExactFilterEventsUptoRow : OpenClaim := { program := "ytmbhpnjhhhcjiac", sum := "c2cf6a644c4d13434f84b48c93b9c03e7d223f1d394c897f2f8c10541efce7ac", func := "loop.example/eventstreams/laws.FnExactFilterEvents", spec := "fnExactFilterEvents", unfollowed := true, recurses := true, apart := false, narrowed := true }
def FnExactFilterEventsUptoSaid : Prop := fnExactFilterEventsUptoRow.holds Try.pinned (OpenSpec.upto fnExactFilterEventsSpec)

/-- 'laws.FnExactLogNew', WHERE WHAT IT READS IS OF BULK AT MOST 1048576: true; the input reads as it did. -/
def fnExactLogNewUptoRow : OpenClaim := { program := "ytmbhpnjhhhcjiac", sum := "c2cf6a644c4d13434f84b48c93b9c03e7d223f1d394c897f2f8c10541efce7ac", func := "loop.example/eventstreams/laws.FnExactLogNew", spec := "fnExactLogNew", apart := false, narrowed := true }
def FnExactLogNewUptoSaid : Prop := fnExactLogNewUptoRow.holds Try.pinned (OpenSpec.upto fnExactLogNewSpec)

/-- 'laws.FnExactPartOf', WHERE WHAT IT READS IS OF BULK AT MOST 1048576: true; the input reads as it did. -/
def fnExactPartOfUptoRow : OpenClaim := { program := "ytmbhpnjhhhcjiac", sum := "c2cf6a644c4d13434f84b48c93b9c03e7d223f1d394c897f2f8c10541efce7ac", func := "loop.example/eventstreams/laws.FnExactPartOf", spec := "fnExactPartOf", apart := false, narrowed := true }
def FnExactPartOfUptoSaid : Prop := fnExactPartOfUptoRow.holds Try.pinned (OpenSpec.upto fnExactPartOfSpec)

/-- 'laws.FnExactAppendLog', WHERE WHAT IT READS IS OF BULK AT MOST 1048576: true; the input reads as it did. -/
def fnExactAppendLogUptoRow : OpenClaim := { program := "ytmbhpnjhhhcjiac", sum := "c2cf6a644c4d13434f84b48c93b9c03e7d223f1d394c897f2f8c10541efce7ac", func := "loop.example/eventstreams/laws.FnExactAppendLog", spec := "fnExactAppendLog", unfollowed := true, recurses := true, apart := false, narrowed := true }
def FnExactAppendLogUptoSaid : Prop := fnExactAppendLogUptoRow.holds Try.pinned (OpenSpec.upto fnExactAppendLogSpec)

/-- 'laws.FnExactReadLog', WHERE WHAT IT READS IS OF BULK AT MOST 1048576: true; the input reads as it did. -/
def fnExactReadLogUptoRow : OpenClaim := { program := "ytmbhpnjhhhcjiac", sum := "c2cf6a644c4d13434f84b48c93b9c03e7d223f1d394c897f2f8c10541efce7ac", func := "loop.example/eventstreams/laws.FnExactReadLog", spec := "fnExactReadLog", unfollowed := true, recurses := true, apart := false, narrowed := true }
def FnExactReadLogUptoSaid : Prop := fnExactReadLogUptoRow.holds Try.pinned (OpenSpec.upto fnExactReadLogSpec)

/-- 'laws.FnExactLagOf', WHERE WHAT IT READS IS OF BULK AT MOST 1048576: true; the input reads as it did. -/
def fnExactLagOfUptoRow : OpenClaim := { program := "ytmbhpnjhhhcjiac", sum := "c2cf6a644c4d13434f84b48c93b9c03e7d223f1d394c897f2f8c10541efce7ac", func := "loop.example/eventstreams/laws.FnExactLagOf", spec := "fnExactLagOf", unfollowed := true, recurses := true, apart := false, narrowed := true }
def FnExactLagOfUptoSaid : Prop := fnExactLagOfUptoRow.holds Try.pinned (OpenSpec.upto fnExactLagOfSpec)

end Rows
end Go.Proofs.Ytmbhpnjhhhcjiac
