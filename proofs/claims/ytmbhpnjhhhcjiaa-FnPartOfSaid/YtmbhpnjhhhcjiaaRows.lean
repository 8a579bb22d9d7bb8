/-
  No cell of these rows narrows 'for every input' (looked for: loops, veiled, ifaces, maps, wideKeys, modest, calm, conditions, laid).
  DERIVED. THE GIVEN ROWS OF THIS SEAT. 12 by the template 'for every input the law returns true; each argument reads behind the call as it read before'; 0 by the template 'total and deterministic' (their statements: YtmbhpnjhhhcjiaaTotals.lean).
  GIVEN WITH THE SEED: the statements are not yours to turn. If you find one false, say at which input.
  Laid BY PROGRAM, IN A SANDBOX (cutbox-rows.mjs): the forced cells as the released guide's own fill.sh prints them over the translation 003e7bb5d4f60b40… (all of the seat's roots in one cut). By AI agents, Wed Nov 11 2026. No macro, syntax, notation, axiom, sorry.
-/
import Derived.Test.YtmbhpnjhhhcjiaaChecked
import GoSem.Claim
import GoSem.ClaimJoined
import GoSem.ClaimMapViews
import Derived.JoinedTies
import Derived.KernelRfl
namespace Go.Proofs.Ytmbhpnjhhhcjiaa
/- THE CELL 'sum', in the pinned program and in every row, IS THE sha256 OF THE DUMP (.gsa) THAT YtmbhpnjhhhcjiaaProg.lean LOADS. Nothing in Lean hashes anything: it is a label: what it is worth is what the hold of that sum in a sandbox is worth. -/
noncomputable def Try.pinned : Pinned := { name := "ytmbhpnjhhhcjiaa", sum := "003e7bb5d4f60b402ca03e5e1fba8d90ff46c40ef5cbdfa864d39e0abe978fb9", checked := Try.checked }
namespace Rows
def none {H : Type} : Left H := { results := [], args := [] }

/-- 'laws.FnValidEvent': WHATEVER THE INPUT: true; the input reads as it did. -/
def fnValidEventSpec : ChangeSpec := { name := "fnValidEvent", fn := fun _ => fun
  | [d] => { results := [.lit (.bool true)], args := [d] }
  | _ => none }
def fnValidEventRow : OpenClaim := { program := "ytmbhpnjhhhcjiaa", sum := "003e7bb5d4f60b402ca03e5e1fba8d90ff46c40ef5cbdfa864d39e0abe978fb9", func := "loop.example/eventstreams/laws.FnValidEvent", spec := "fnValidEvent", unfollowed := true, recurses := true, apart := false }
def FnValidEventSaid : Prop := fnValidEventRow.holds Try.pinned (OpenSpec.ofChange fnValidEventSpec)

/-- ITS FALSE NEIGHBOUR: 'it returns false'. Refute it at one input. -/
def fnValidEventWrong : ChangeSpec := { name := "fnValidEvent", fn := fun _ => fun
  | [d] => { results := [.lit (.bool false)], args := [d] }
  | _ => none }
def FnValidEventWrongFalsely : Prop := fnValidEventRow.holds Try.pinned (OpenSpec.ofChange fnValidEventWrong)

/-- 'laws.FnCompareEvents': WHATEVER THE INPUT: true; the input reads as it did. -/
def fnCompareEventsSpec : ChangeSpec := { name := "fnCompareEvents", fn := fun _ => fun
  | [d] => { results := [.lit (.bool true)], args := [d] }
  | _ => none }
def fnCompareEventsRow : OpenClaim := { program := "ytmbhpnjhhhcjiaa", sum := "003e7bb5d4f60b402ca03e5e1fba8d90ff46c40ef5cbdfa864d39e0abe978fb9", func := "loop.example/eventstreams/laws.FnCompareEvents", spec := "fnCompareEvents", apart := false }
def FnCompareEventsSaid : Prop := fnCompareEventsRow.holds Try.pinned (OpenSpec.ofChange fnCompareEventsSpec)

/-- ITS FALSE NEIGHBOUR: 'it returns false'. Refute it at one input. -/
def fnCompareEventsWrong : ChangeSpec := { name := "fnCompareEvents", fn := fun _ => fun
  | [d] => { results := [.lit (.bool false)], args := [d] }
  | _ => none }
def FnCompareEventsWrongFalsely : Prop := fnCompareEventsRow.holds Try.pinned (OpenSpec.ofChange fnCompareEventsWrong)

/-- 'laws.FnCompareEventsTime': WHATEVER THE INPUT: true; the input reads as it did. -/
def fnCompareEventsTimeSpec : ChangeSpec := { name := "fnCompareEventsTime", fn := fun _ => fun
  | [d] => { results := [.lit (.bool true)], args := [d] }
  | _ => none }
def fnCompareEventsTimeRow : OpenClaim := { program := "ytmbhpnjhhhcjiaa", sum := "003e7bb5d4f60b402ca03e5e1fba8d90ff46c40ef5cbdfa864d39e0abe978fb9", func := "loop.example/eventstreams/laws.FnCompareEventsTime", spec := "fnCompareEventsTime", apart := false }
def FnCompareEventsTimeSaid : Prop := fnCompareEventsTimeRow.holds Try.pinned (OpenSpec.ofChange fnCompareEventsTimeSpec)

/-- ITS FALSE NEIGHBOUR: 'it returns false'. Refute it at one input. -/
def fnCompareEventsTimeWrong : ChangeSpec := { name := "fnCompareEventsTime", fn := fun _ => fun
  | [d] => { results := [.lit (.bool false)], args := [d] }
  | _ => none }
def FnCompareEventsTimeWrongFalsely : Prop := fnCompareEventsTimeRow.holds Try.pinned (OpenSpec.ofChange fnCompareEventsTimeWrong)

/-- 'laws.FnSortEvents': WHATEVER THE INPUT: true; the input reads as it did. -/
def fnSortEventsSpec : ChangeSpec := { name := "fnSortEvents", fn := fun _ => fun
  | [d] => { results := [.lit (.bool true)], args := [d] }
  | _ => none }
def fnSortEventsRow : OpenClaim := { program := "ytmbhpnjhhhcjiaa", sum := "003e7bb5d4f60b402ca03e5e1fba8d90ff46c40ef5cbdfa864d39e0abe978fb9", func := "loop.example/eventstreams/laws.FnSortEvents", spec := "fnSortEvents", unfollowed := true, recurses := true, apart := false }
def FnSortEventsSaid : Prop := fnSortEventsRow.holds Try.pinned (OpenSpec.ofChange fnSortEventsSpec)

/-- ITS FALSE NEIGHBOUR: 'it returns false'. Refute it at one input. -/
def fnSortEventsWrong : ChangeSpec := { name := "fnSortEvents", fn := fun _ => fun
  | [d] => { results := [.lit (.bool false)], args := [d] }
  | _ => none }
def FnSortEventsWrongFalsely : Prop := fnSortEventsRow.holds Try.pinned (OpenSpec.ofChange fnSortEventsWrong)

/-- 'laws.FnSortEventsOrder': WHATEVER THE INPUT: true; the input reads as it did. -/
def fnSortEventsOrderSpec : ChangeSpec := { name := "fnSortEventsOrder", fn := fun _ => fun
  | [d] => { results := [.lit (.bool true)], args := [d] }
  | _ => none }
def fnSortEventsOrderRow : OpenClaim := { program := "ytmbhpnjhhhcjiaa", sum := "003e7bb5d4f60b402ca03e5e1fba8d90ff46c40ef5cbdfa864d39e0abe978fb9", func := "loop.example/eventstreams/laws.FnSortEventsOrder", spec := "fnSortEventsOrder", unfollowed := true, recurses := true, apart := false }
def FnSortEventsOrderSaid : Prop := fnSortEventsOrderRow.holds Try.pinned (OpenSpec.ofChange fnSortEventsOrderSpec)

/-- ITS FALSE NEIGHBOUR: 'it returns false'. Refute it at one input. -/
def fnSortEventsOrderWrong : ChangeSpec := { name := "fnSortEventsOrder", fn := fun _ => fun
  | [d] => { results := [.lit (.bool false)], args := [d] }
  | _ => none }
def FnSortEventsOrderWrongFalsely : Prop := fnSortEventsOrderRow.holds Try.pinned (OpenSpec.ofChange fnSortEventsOrderWrong)

/-- 'laws.FnMergeEvents': WHATEVER THE INPUT: true; the input reads as it did. -/
def fnMergeEventsSpec : ChangeSpec := { name := "fnMergeEvents", fn := fun _ => fun
  | [d] => { results := [.lit (.bool true)], args := [d] }
  | _ => none }
def fnMergeEventsRow : OpenClaim := { program := "ytmbhpnjhhhcjiaa", sum := "003e7bb5d4f60b402ca03e5e1fba8d90ff46c40ef5cbdfa864d39e0abe978fb9", func := "loop.example/eventstreams/laws.FnMergeEvents", spec := "fnMergeEvents", unfollowed := true, recurses := true, apart := false }
def FnMergeEventsSaid : Prop := fnMergeEventsRow.holds Try.pinned (OpenSpec.ofChange fnMergeEventsSpec)

/-- ITS FALSE NEIGHBOUR: 'it returns false'. Refute it at one input. -/
def fnMergeEventsWrong : ChangeSpec := { name := "fnMergeEvents", fn := fun _ => fun
  | [d] => { results := [.lit (.bool false)], args := [d] }
  | _ => none }
def FnMergeEventsWrongFalsely : Prop := fnMergeEventsRow.holds Try.pinned (OpenSpec.ofChange fnMergeEventsWrong)

/-- 'laws.FnFilterEvents': WHATEVER THE INPUT: true; the input reads as it did. -/
def fnFilterEventsSpec : ChangeSpec := { name := "fnFilterEvents", fn := fun _ => fun
  | [d] => { results := [.lit (.bool true)], args := [d] }
  | _ => none }
def fnFilterEventsRow : OpenClaim := { program := "ytmbhpnjhhhcjiaa", sum := "003e7bb5d4f60b402ca03e5e1fba8d90ff46c40ef5cbdfa864d39e0abe978fb9", func := "loop.example/eventstreams/laws.FnFilterEvents", spec := "fnFilterEvents", unfollowed := true, recurses := true, apart := false }
def FnFilterEventsSaid : Prop := fnFilterEventsRow.holds Try.pinned (OpenSpec.ofChange fnFilterEventsSpec)

/-- ITS FALSE NEIGHBOUR: 'it returns false'. Refute it at one input. -/
def fnFilterEventsWrong : ChangeSpec := { name := "fnFilterEvents", fn := fun _ => fun
  | [d] => { results := [.lit (.bool false)], args := [d] }
  | _ => none }
def FnFilterEventsWrongFalsely : Prop := fnFilterEventsRow.holds Try.pinned (OpenSpec.ofChange fnFilterEventsWrong)

/-- 'laws.FnFilterSorted': WHATEVER THE INPUT: true; the input reads as it did. -/
def fnFilterSortedSpec : ChangeSpec := { name := "fnFilterSorted", fn := fun _ => fun
  | [d] => { results := [.lit (.bool true)], args := [d] }
  | _ => none }
def fnFilterSortedRow : OpenClaim := { program := "ytmbhpnjhhhcjiaa", sum := "003e7bb5d4f60b402ca03e5e1fba8d90ff46c40ef5cbdfa864d39e0abe978fb9", func := "loop.example/eventstreams/laws.FnFilterSorted", spec := "fnFilterSorted", unfollowed := true, recurses := true, apart := false }
def FnFilterSortedSaid : Prop := fnFilterSortedRow.holds Try.pinned (OpenSpec.ofChange fnFilterSortedSpec)

/-- ITS FALSE NEIGHBOUR: 'it returns false'. Refute it at one input. -/
def fnFilterSortedWrong : ChangeSpec := { name := "fnFilterSorted", fn := fun _ => fun
  | [d] => { results := [.lit (.bool false)], args := [d] }
  | _ => none }
def FnFilterSortedWrongFalsely : Prop := fnFilterSortedRow.holds Try.pinned (OpenSpec.ofChange fnFilterSortedWrong)

/-- 'laws.FnLogNew': WHATEVER THE INPUT: true; the input reads as it did. -/
def fnLogNewSpec : ChangeSpec := { name := "fnLogNew", fn := fun _ => fun
  | [d] => { results := [.lit (.bool true)], args := [d] }
  | _ => none }
def fnLogNewRow : OpenClaim := { program := "ytmbhpnjhhhcjiaa", sum := "003e7bb5d4f60b402ca03e5e1fba8d90ff46c40ef5cbdfa864d39e0abe978fb9", func := "loop.example/eventstreams/laws.FnLogNew", spec := "fnLogNew", unfollowed := true, recurses := true, apart := false }
def FnLogNewSaid : Prop := fnLogNewRow.holds Try.pinned (OpenSpec.ofChange fnLogNewSpec)

/-- ITS FALSE NEIGHBOUR: 'it returns false'. Refute it at one input. -/
def fnLogNewWrong : ChangeSpec := { name := "fnLogNew", fn := fun _ => fun
  | [d] => { results := [.lit (.bool false)], args := [d] }
  | _ => none }
def FnLogNewWrongFalsely : Prop := fnLogNewRow.holds Try.pinned (OpenSpec.ofChange fnLogNewWrong)

/-- 'laws.FnPartOf': WHATEVER THE INPUT: true; the input reads as it did. -/
def fnPartOfSpec : ChangeSpec := { name := "fnPartOf", fn := fun _ => fun
  | [d] => { results := [.lit (.bool true)], args := [d] }
  | _ => none }
def fnPartOfRow : OpenClaim := { program := "ytmbhpnjhhhcjiaa", sum := "003e7bb5d4f60b402ca03e5e1fba8d90ff46c40ef5cbdfa864d39e0abe978fb9", func := "loop.example/eventstreams/laws.FnPartOf", spec := "fnPartOf", apart := false }
def FnPartOfSaid : Prop := fnPartOfRow.holds Try.pinned (OpenSpec.ofChange fnPartOfSpec)

/-- ITS FALSE NEIGHBOUR: 'it returns false'. Refute it at one input. -/
def fnPartOfWrong : ChangeSpec := { name := "fnPartOf", fn := fun _ => fun
  | [d] => { results := [.lit (.bool false)], args := [d] }
  | _ => none }
def FnPartOfWrongFalsely : Prop := fnPartOfRow.holds Try.pinned (OpenSpec.ofChange fnPartOfWrong)

/-- 'laws.FnAppendLog': WHATEVER THE INPUT: true; the input reads as it did. -/
def fnAppendLogSpec : ChangeSpec := { name := "fnAppendLog", fn := fun _ => fun
  | [d] => { results := [.lit (.bool true)], args := [d] }
  | _ => none }
def fnAppendLogRow : OpenClaim := { program := "ytmbhpnjhhhcjiaa", sum := "003e7bb5d4f60b402ca03e5e1fba8d90ff46c40ef5cbdfa864d39e0abe978fb9", func := "loop.example/eventstreams/laws.FnAppendLog", spec := "fnAppendLog", unfollowed := true, recurses := true, apart := false }
def FnAppendLogSaid : Prop := fnAppendLogRow.holds Try.pinned (OpenSpec.ofChange fnAppendLogSpec)

/-- ITS FALSE NEIGHBOUR: 'it returns false'. Refute it at one input. -/
def fnAppendLogWrong : ChangeSpec := { name := "fnAppendLog", fn := fun _ => fun
  | [d] => { results := [.lit (.bool false)], args := [d] }
  | _ => none }
def FnAppendLogWrongFalsely : Prop := fnAppendLogRow.holds Try.pinned (OpenSpec.ofChange fnAppendLogWrong)

/-- 'laws.FnReadLog': WHATEVER THE INPUT: true; the input reads as it did. -/
def fnReadLogSpec : ChangeSpec := { name := "fnReadLog", fn := fun _ => fun
  | [d] => { results := [.lit (.bool true)], args := [d] }
  | _ => none }
def fnReadLogRow : OpenClaim := { program := "ytmbhpnjhhhcjiaa", sum := "003e7bb5d4f60b402ca03e5e1fba8d90ff46c40ef5cbdfa864d39e0abe978fb9", func := "loop.example/eventstreams/laws.FnReadLog", spec := "fnReadLog", unfollowed := true, recurses := true, apart := false }
def FnReadLogSaid : Prop := fnReadLogRow.holds Try.pinned (OpenSpec.ofChange fnReadLogSpec)

/-- ITS FALSE NEIGHBOUR: 'it returns false'. Refute it at one input. -/
def fnReadLogWrong : ChangeSpec := { name := "fnReadLog", fn := fun _ => fun
  | [d] => { results := [.lit (.bool false)], args := [d] }
  | _ => none }
def FnReadLogWrongFalsely : Prop := fnReadLogRow.holds Try.pinned (OpenSpec.ofChange fnReadLogWrong)

/- THE SECOND FORM. 'bulk': how many values and letters a reading holds, each counted each time it is reached (what is shared counts as often as it is met; a slice's spare places count too). A statement '..UptoSaid' is the law's where the arguments, and the package variables that the reading takes, are together of bulk at most 1048576: NARROWER than '..Said'. Prove '..Said' where nothing that the law and all that it calls make is longer than what came in: it says more and counts as full. Else prove '..UptoSaid'. A law counts once. -/
mutual
def uptoBulk {H : Type} : DataW H → Nat
  | .lit (.string bytes) => bytes.length + 1
  | .lit _ => 1
  | .nil => 1
  | .ptr d => uptoBulk d + 1
  | .slice elems spare => uptoBulkAll elems + uptoBulkAll spare + 1
  | .agg parts => uptoBulkAll parts + 1
  | .iface _ d => uptoBulk d + 1
  | .map entries => uptoBulkEntries entries + 1
  | .held _ => 1
def uptoBulkAll {H : Type} : List (DataW H) → Nat
  | [] => 0
  | d :: r => uptoBulk d + uptoBulkAll r
def uptoBulkEntries {H : Type} : List (Lit × DataW H) → Nat
  | [] => 0
  | x :: r => uptoBulkEntry x + uptoBulkEntries r
def uptoBulkEntry {H : Type} : Lit × DataW H → Nat
  | (.string bytes, d) => bytes.length + uptoBulk d + 1
  | (_, d) => uptoBulk d + 1
 end
def uptoSmall : (H : Type) → List (DataW H) → Bool := fun _ ds => decide (uptoBulkAll ds ≤ 1048576)
def OpenSpec.upto (s : _root_.Go.ChangeSpec) : _root_.Go.OpenSpec := { _root_.Go.OpenSpec.ofChange s with cond := some uptoSmall }

/-- 'laws.FnValidEvent', WHERE WHAT IT READS IS OF BULK AT MOST 1048576: true; the input reads as it did. -/
def fnValidEventUptoRow : OpenClaim := { program := "ytmbhpnjhhhcjiaa", sum := "003e7bb5d4f60b402ca03e5e1fba8d90ff46c40ef5cbdfa864d39e0abe978fb9", func := "loop.example/eventstreams/laws.FnValidEvent", spec := "fnValidEvent", unfollowed := true, recurses := true, apart := false, narrowed := true }
def FnValidEventUptoSaid : Prop := fnValidEventUptoRow.holds Try.pinned (OpenSpec.upto fnValidEventSpec)

/-- 'laws.FnCompareEvents', WHERE WHAT IT READS IS OF BULK AT MOST 1048576: true; the input reads as it did. -/
def fnCompareEventsUptoRow : OpenClaim := { program := "ytmbhpnjhhhcjiaa", sum := "003e7bb5d4f60b402ca03e5e1fba8d90ff46c40ef5cbdfa864d39e0abe978fb9", func := "loop.example/eventstreams/laws.FnCompareEvents", spec := "fnCompareEvents", apart := false, narrowed := true }
def FnCompareEventsUptoSaid : Prop := fnCompareEventsUptoRow.holds Try.pinned (OpenSpec.upto fnCompareEventsSpec)

/-- 'laws.FnCompareEventsTime', WHERE WHAT IT READS IS OF BULK AT MOST 1048576: true; the input reads as it did. -/
def fnCompareEventsTimeUptoRow : OpenClaim := { program := "ytmbhpnjhhhcjiaa", sum := "003e7bb5d4f60b402ca03e5e1fba8d90ff46c40ef5cbdfa864d39e0abe978fb9", func := "loop.example/eventstreams/laws.FnCompareEventsTime", spec := "fnCompareEventsTime", apart := false, narrowed := true }
def FnCompareEventsTimeUptoSaid : Prop := fnCompareEventsTimeUptoRow.holds Try.pinned (OpenSpec.upto fnCompareEventsTimeSpec)

/-- 'laws.FnSortEvents', WHERE WHAT IT READS IS OF BULK AT MOST 1048576: true; the input reads as it did. -/
def fnSortEventsUptoRow : OpenClaim := { program := "ytmbhpnjhhhcjiaa", sum := "003e7bb5d4f60b402ca03e5e1fba8d90ff46c40ef5cbdfa864d39e0abe978fb9", func := "loop.example/eventstreams/laws.FnSortEvents", spec := "fnSortEvents", unfollowed := true, recurses := true, apart := false, narrowed := true }
def FnSortEventsUptoSaid : Prop := fnSortEventsUptoRow.holds Try.pinned (OpenSpec.upto fnSortEventsSpec)

/-- 'laws.FnSortEventsOrder', WHERE WHAT IT READS IS OF BULK AT MOST 1048576: true; the input reads as it did. -/
def fnSortEventsOrderUptoRow : OpenClaim := { program := "ytmbhpnjhhhcjiaa", sum := "003e7bb5d4f60b402ca03e5e1fba8d90ff46c40ef5cbdfa864d39e0abe978fb9", func := "loop.example/eventstreams/laws.FnSortEventsOrder", spec := "fnSortEventsOrder", unfollowed := true, recurses := true, apart := false, narrowed := true }
def FnSortEventsOrderUptoSaid : Prop := fnSortEventsOrderUptoRow.holds Try.pinned (OpenSpec.upto fnSortEventsOrderSpec)

/-- 'laws.FnMergeEvents', WHERE WHAT IT READS IS OF BULK AT MOST 1048576: true; the input reads as it did. -/
def fnMergeEventsUptoRow : OpenClaim := { program := "ytmbhpnjhhhcjiaa", sum := "003e7bb5d4f60b402ca03e5e1fba8d90ff46c40ef5cbdfa864d39e0abe978fb9", func := "loop.example/eventstreams/laws.FnMergeEvents", spec := "fnMergeEvents", unfollowed := true, recurses := true, apart := false, narrowed := true }
def FnMergeEventsUptoSaid : Prop := fnMergeEventsUptoRow.holds Try.pinned (OpenSpec.upto fnMergeEventsSpec)

/-- 'laws.FnFilterEvents', WHERE WHAT IT READS IS OF BULK AT MOST 1048576: true; the input reads as it did. -/
def fnFilterEventsUptoRow : OpenClaim := { program := "ytmbhpnjhhhcjiaa", sum := "003e7bb5d4f60b402ca03e5e1fba8d90ff46c40ef5cbdfa864d39e0abe978fb9", func := "loop.example/eventstreams/laws.FnFilterEvents", spec := "fnFilterEvents", unfollowed := true, recurses := true, apart := false, narrowed := true }
def FnFilterEventsUptoSaid : Prop := fnFilterEventsUptoRow.holds Try.pinned (OpenSpec.upto fnFilterEventsSpec)

/-- 'laws.FnFilterSorted', WHERE WHAT IT READS IS OF BULK AT MOST 1048576: true; the input reads as it did. -/
def fnFilterSortedUptoRow : OpenClaim := { program := "ytmbhpnjhhhcjiaa", sum := "003e7bb5d4f60b402ca03e5e1fba8d90ff46c40ef5cbdfa864d39e0abe978fb9", func := "loop.example/eventstreams/laws.FnFilterSorted", spec := "fnFilterSorted", unfollowed := true, recurses := true, apart := false, narrowed := true }
def FnFilterSortedUptoSaid : Prop := fnFilterSortedUptoRow.holds Try.pinned (OpenSpec.upto fnFilterSortedSpec)

/-- 'laws.FnLogNew', WHERE WHAT IT READS IS OF BULK AT MOST 1048576: true; the input reads as it did. -/
def fnLogNewUptoRow : OpenClaim := { program := "ytmbhpnjhhhcjiaa", sum := "003e7bb5d4f60b402ca03e5e1fba8d90ff46c40ef5cbdfa864d39e0abe978fb9", func := "loop.example/eventstreams/laws.FnLogNew", spec := "fnLogNew", unfollowed := true, recurses := true, apart := false, narrowed := true }
def FnLogNewUptoSaid : Prop := fnLogNewUptoRow.holds Try.pinned (OpenSpec.upto fnLogNewSpec)

/-- 'laws.FnPartOf', WHERE WHAT IT READS IS OF BULK AT MOST 1048576: true; the input reads as it did. -/
def fnPartOfUptoRow : OpenClaim := { program := "ytmbhpnjhhhcjiaa", sum := "003e7bb5d4f60b402ca03e5e1fba8d90ff46c40ef5cbdfa864d39e0abe978fb9", func := "loop.example/eventstreams/laws.FnPartOf", spec := "fnPartOf", apart := false, narrowed := true }
def FnPartOfUptoSaid : Prop := fnPartOfUptoRow.holds Try.pinned (OpenSpec.upto fnPartOfSpec)

/-- 'laws.FnAppendLog', WHERE WHAT IT READS IS OF BULK AT MOST 1048576: true; the input reads as it did. -/
def fnAppendLogUptoRow : OpenClaim := { program := "ytmbhpnjhhhcjiaa", sum := "003e7bb5d4f60b402ca03e5e1fba8d90ff46c40ef5cbdfa864d39e0abe978fb9", func := "loop.example/eventstreams/laws.FnAppendLog", spec := "fnAppendLog", unfollowed := true, recurses := true, apart := false, narrowed := true }
def FnAppendLogUptoSaid : Prop := fnAppendLogUptoRow.holds Try.pinned (OpenSpec.upto fnAppendLogSpec)

/-- 'laws.FnReadLog', WHERE WHAT IT READS IS OF BULK AT MOST 1048576: true; the input reads as it did. -/
def fnReadLogUptoRow : OpenClaim := { program := "ytmbhpnjhhhcjiaa", sum := "003e7bb5d4f60b402ca03e5e1fba8d90ff46c40ef5cbdfa864d39e0abe978fb9", func := "loop.example/eventstreams/laws.FnReadLog", spec := "fnReadLog", unfollowed := true, recurses := true, apart := false, narrowed := true }
def FnReadLogUptoSaid : Prop := fnReadLogUptoRow.holds Try.pinned (OpenSpec.upto fnReadLogSpec)

end Rows
end Go.Proofs.Ytmbhpnjhhhcjiaa
