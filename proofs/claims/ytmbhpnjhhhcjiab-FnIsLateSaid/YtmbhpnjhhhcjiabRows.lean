/-
  No cell of these rows narrows 'for every input' (looked for: loops, veiled, ifaces, maps, wideKeys, modest, calm, conditions, laid).
  DERIVED. THE GIVEN ROWS OF THIS SEAT. 12 by the template 'for every input the law returns true; each argument reads behind the call as it read before'; 0 by the template 'total and deterministic' (their statements: YtmbhpnjhhhcjiabTotals.lean).
  GIVEN WITH THE SEED: the statements are not yours to turn. If you find one false, say at which input.
  Laid BY PROGRAM, IN A SANDBOX (cutbox-rows.mjs): the forced cells as the released guide's own fill.sh prints them over the translation 3522dc283c4ec56d… (all of the seat's roots in one cut). By AI agents, Wed Nov 11 2026. No macro, syntax, notation, axiom, sorry.
-/
import Derived.Test.YtmbhpnjhhhcjiabChecked
import GoSem.Claim
import GoSem.ClaimJoined
import GoSem.ClaimMapViews
import Derived.JoinedTies
import Derived.KernelRfl
namespace Go.Proofs.Ytmbhpnjhhhcjiab
/- THE CELL 'sum', in the pinned program and in every row, IS THE sha256 OF THE DUMP (.gsa) THAT YtmbhpnjhhhcjiabProg.lean LOADS. Nothing in Lean hashes anything: it is a label: what it is worth is what the hold of that sum in a sandbox is worth. -/
noncomputable def Try.pinned : Pinned := { name := "ytmbhpnjhhhcjiab", sum := "3522dc283c4ec56d24fd946b91bd81fa3e1a1fb21b1b4ae57f774a0e26606844", checked := Try.checked }
namespace Rows
def none {H : Type} : Left H := { results := [], args := [] }

/-- 'laws.FnReadLogOrder': WHATEVER THE INPUT: true; the input reads as it did. -/
def fnReadLogOrderSpec : ChangeSpec := { name := "fnReadLogOrder", fn := fun _ => fun
  | [d] => { results := [.lit (.bool true)], args := [d] }
  | _ => none }
def fnReadLogOrderRow : OpenClaim := { program := "ytmbhpnjhhhcjiab", sum := "3522dc283c4ec56d24fd946b91bd81fa3e1a1fb21b1b4ae57f774a0e26606844", func := "loop.example/eventstreams/laws.FnReadLogOrder", spec := "fnReadLogOrder", unfollowed := true, recurses := true, apart := false }
def FnReadLogOrderSaid : Prop := fnReadLogOrderRow.holds Try.pinned (OpenSpec.ofChange fnReadLogOrderSpec)

/-- ITS FALSE NEIGHBOUR: 'it returns false'. Refute it at one input. -/
def fnReadLogOrderWrong : ChangeSpec := { name := "fnReadLogOrder", fn := fun _ => fun
  | [d] => { results := [.lit (.bool false)], args := [d] }
  | _ => none }
def FnReadLogOrderWrongFalsely : Prop := fnReadLogOrderRow.holds Try.pinned (OpenSpec.ofChange fnReadLogOrderWrong)

/-- 'laws.FnLagOf': WHATEVER THE INPUT: true; the input reads as it did. -/
def fnLagOfSpec : ChangeSpec := { name := "fnLagOf", fn := fun _ => fun
  | [d] => { results := [.lit (.bool true)], args := [d] }
  | _ => none }
def fnLagOfRow : OpenClaim := { program := "ytmbhpnjhhhcjiab", sum := "3522dc283c4ec56d24fd946b91bd81fa3e1a1fb21b1b4ae57f774a0e26606844", func := "loop.example/eventstreams/laws.FnLagOf", spec := "fnLagOf", unfollowed := true, recurses := true, apart := false }
def FnLagOfSaid : Prop := fnLagOfRow.holds Try.pinned (OpenSpec.ofChange fnLagOfSpec)

/-- ITS FALSE NEIGHBOUR: 'it returns false'. Refute it at one input. -/
def fnLagOfWrong : ChangeSpec := { name := "fnLagOf", fn := fun _ => fun
  | [d] => { results := [.lit (.bool false)], args := [d] }
  | _ => none }
def FnLagOfWrongFalsely : Prop := fnLagOfRow.holds Try.pinned (OpenSpec.ofChange fnLagOfWrong)

/-- 'laws.FnSeeTime': WHATEVER THE INPUT: true; the input reads as it did. -/
def fnSeeTimeSpec : ChangeSpec := { name := "fnSeeTime", fn := fun _ => fun
  | [d] => { results := [.lit (.bool true)], args := [d] }
  | _ => none }
def fnSeeTimeRow : OpenClaim := { program := "ytmbhpnjhhhcjiab", sum := "3522dc283c4ec56d24fd946b91bd81fa3e1a1fb21b1b4ae57f774a0e26606844", func := "loop.example/eventstreams/laws.FnSeeTime", spec := "fnSeeTime", apart := false }
def FnSeeTimeSaid : Prop := fnSeeTimeRow.holds Try.pinned (OpenSpec.ofChange fnSeeTimeSpec)

/-- ITS FALSE NEIGHBOUR: 'it returns false'. Refute it at one input. -/
def fnSeeTimeWrong : ChangeSpec := { name := "fnSeeTime", fn := fun _ => fun
  | [d] => { results := [.lit (.bool false)], args := [d] }
  | _ => none }
def FnSeeTimeWrongFalsely : Prop := fnSeeTimeRow.holds Try.pinned (OpenSpec.ofChange fnSeeTimeWrong)

/-- 'laws.FnMarkTime': WHATEVER THE INPUT: true; the input reads as it did. -/
def fnMarkTimeSpec : ChangeSpec := { name := "fnMarkTime", fn := fun _ => fun
  | [d] => { results := [.lit (.bool true)], args := [d] }
  | _ => none }
def fnMarkTimeRow : OpenClaim := { program := "ytmbhpnjhhhcjiab", sum := "3522dc283c4ec56d24fd946b91bd81fa3e1a1fb21b1b4ae57f774a0e26606844", func := "loop.example/eventstreams/laws.FnMarkTime", spec := "fnMarkTime", apart := false }
def FnMarkTimeSaid : Prop := fnMarkTimeRow.holds Try.pinned (OpenSpec.ofChange fnMarkTimeSpec)

/-- ITS FALSE NEIGHBOUR: 'it returns false'. Refute it at one input. -/
def fnMarkTimeWrong : ChangeSpec := { name := "fnMarkTime", fn := fun _ => fun
  | [d] => { results := [.lit (.bool false)], args := [d] }
  | _ => none }
def FnMarkTimeWrongFalsely : Prop := fnMarkTimeRow.holds Try.pinned (OpenSpec.ofChange fnMarkTimeWrong)

/-- 'laws.FnIsLate': WHATEVER THE INPUT: true; the input reads as it did. -/
def fnIsLateSpec : ChangeSpec := { name := "fnIsLate", fn := fun _ => fun
  | [d] => { results := [.lit (.bool true)], args := [d] }
  | _ => none }
def fnIsLateRow : OpenClaim := { program := "ytmbhpnjhhhcjiab", sum := "3522dc283c4ec56d24fd946b91bd81fa3e1a1fb21b1b4ae57f774a0e26606844", func := "loop.example/eventstreams/laws.FnIsLate", spec := "fnIsLate", apart := false }
def FnIsLateSaid : Prop := fnIsLateRow.holds Try.pinned (OpenSpec.ofChange fnIsLateSpec)

/-- ITS FALSE NEIGHBOUR: 'it returns false'. Refute it at one input. -/
def fnIsLateWrong : ChangeSpec := { name := "fnIsLate", fn := fun _ => fun
  | [d] => { results := [.lit (.bool false)], args := [d] }
  | _ => none }
def FnIsLateWrongFalsely : Prop := fnIsLateRow.holds Try.pinned (OpenSpec.ofChange fnIsLateWrong)

/-- 'laws.FnMarksOf': WHATEVER THE INPUT: true; the input reads as it did. -/
def fnMarksOfSpec : ChangeSpec := { name := "fnMarksOf", fn := fun _ => fun
  | [d] => { results := [.lit (.bool true)], args := [d] }
  | _ => none }
def fnMarksOfRow : OpenClaim := { program := "ytmbhpnjhhhcjiab", sum := "3522dc283c4ec56d24fd946b91bd81fa3e1a1fb21b1b4ae57f774a0e26606844", func := "loop.example/eventstreams/laws.FnMarksOf", spec := "fnMarksOf", unfollowed := true, recurses := true, apart := false }
def FnMarksOfSaid : Prop := fnMarksOfRow.holds Try.pinned (OpenSpec.ofChange fnMarksOfSpec)

/-- ITS FALSE NEIGHBOUR: 'it returns false'. Refute it at one input. -/
def fnMarksOfWrong : ChangeSpec := { name := "fnMarksOf", fn := fun _ => fun
  | [d] => { results := [.lit (.bool false)], args := [d] }
  | _ => none }
def FnMarksOfWrongFalsely : Prop := fnMarksOfRow.holds Try.pinned (OpenSpec.ofChange fnMarksOfWrong)

/-- 'laws.FnMarksOfPrefix': WHATEVER THE INPUT: true; the input reads as it did. -/
def fnMarksOfPrefixSpec : ChangeSpec := { name := "fnMarksOfPrefix", fn := fun _ => fun
  | [d] => { results := [.lit (.bool true)], args := [d] }
  | _ => none }
def fnMarksOfPrefixRow : OpenClaim := { program := "ytmbhpnjhhhcjiab", sum := "3522dc283c4ec56d24fd946b91bd81fa3e1a1fb21b1b4ae57f774a0e26606844", func := "loop.example/eventstreams/laws.FnMarksOfPrefix", spec := "fnMarksOfPrefix", unfollowed := true, recurses := true, apart := false }
def FnMarksOfPrefixSaid : Prop := fnMarksOfPrefixRow.holds Try.pinned (OpenSpec.ofChange fnMarksOfPrefixSpec)

/-- ITS FALSE NEIGHBOUR: 'it returns false'. Refute it at one input. -/
def fnMarksOfPrefixWrong : ChangeSpec := { name := "fnMarksOfPrefix", fn := fun _ => fun
  | [d] => { results := [.lit (.bool false)], args := [d] }
  | _ => none }
def FnMarksOfPrefixWrongFalsely : Prop := fnMarksOfPrefixRow.holds Try.pinned (OpenSpec.ofChange fnMarksOfPrefixWrong)

/-- 'laws.FnLateEvents': WHATEVER THE INPUT: true; the input reads as it did. -/
def fnLateEventsSpec : ChangeSpec := { name := "fnLateEvents", fn := fun _ => fun
  | [d] => { results := [.lit (.bool true)], args := [d] }
  | _ => none }
def fnLateEventsRow : OpenClaim := { program := "ytmbhpnjhhhcjiab", sum := "3522dc283c4ec56d24fd946b91bd81fa3e1a1fb21b1b4ae57f774a0e26606844", func := "loop.example/eventstreams/laws.FnLateEvents", spec := "fnLateEvents", unfollowed := true, recurses := true, apart := false }
def FnLateEventsSaid : Prop := fnLateEventsRow.holds Try.pinned (OpenSpec.ofChange fnLateEventsSpec)

/-- ITS FALSE NEIGHBOUR: 'it returns false'. Refute it at one input. -/
def fnLateEventsWrong : ChangeSpec := { name := "fnLateEvents", fn := fun _ => fun
  | [d] => { results := [.lit (.bool false)], args := [d] }
  | _ => none }
def FnLateEventsWrongFalsely : Prop := fnLateEventsRow.holds Try.pinned (OpenSpec.ofChange fnLateEventsWrong)

/-- 'laws.FnLateEventsMarks': WHATEVER THE INPUT: true; the input reads as it did. -/
def fnLateEventsMarksSpec : ChangeSpec := { name := "fnLateEventsMarks", fn := fun _ => fun
  | [d] => { results := [.lit (.bool true)], args := [d] }
  | _ => none }
def fnLateEventsMarksRow : OpenClaim := { program := "ytmbhpnjhhhcjiab", sum := "3522dc283c4ec56d24fd946b91bd81fa3e1a1fb21b1b4ae57f774a0e26606844", func := "loop.example/eventstreams/laws.FnLateEventsMarks", spec := "fnLateEventsMarks", unfollowed := true, recurses := true, apart := false }
def FnLateEventsMarksSaid : Prop := fnLateEventsMarksRow.holds Try.pinned (OpenSpec.ofChange fnLateEventsMarksSpec)

/-- ITS FALSE NEIGHBOUR: 'it returns false'. Refute it at one input. -/
def fnLateEventsMarksWrong : ChangeSpec := { name := "fnLateEventsMarks", fn := fun _ => fun
  | [d] => { results := [.lit (.bool false)], args := [d] }
  | _ => none }
def FnLateEventsMarksWrongFalsely : Prop := fnLateEventsMarksRow.holds Try.pinned (OpenSpec.ofChange fnLateEventsMarksWrong)

/-- 'laws.FnIdleInputs': WHATEVER THE INPUT: true; the input reads as it did. -/
def fnIdleInputsSpec : ChangeSpec := { name := "fnIdleInputs", fn := fun _ => fun
  | [d] => { results := [.lit (.bool true)], args := [d] }
  | _ => none }
def fnIdleInputsRow : OpenClaim := { program := "ytmbhpnjhhhcjiab", sum := "3522dc283c4ec56d24fd946b91bd81fa3e1a1fb21b1b4ae57f774a0e26606844", func := "loop.example/eventstreams/laws.FnIdleInputs", spec := "fnIdleInputs", unfollowed := true, recurses := true, apart := false }
def FnIdleInputsSaid : Prop := fnIdleInputsRow.holds Try.pinned (OpenSpec.ofChange fnIdleInputsSpec)

/-- ITS FALSE NEIGHBOUR: 'it returns false'. Refute it at one input. -/
def fnIdleInputsWrong : ChangeSpec := { name := "fnIdleInputs", fn := fun _ => fun
  | [d] => { results := [.lit (.bool false)], args := [d] }
  | _ => none }
def FnIdleInputsWrongFalsely : Prop := fnIdleInputsRow.holds Try.pinned (OpenSpec.ofChange fnIdleInputsWrong)

/-- 'laws.FnMergeMarks': WHATEVER THE INPUT: true; the input reads as it did. -/
def fnMergeMarksSpec : ChangeSpec := { name := "fnMergeMarks", fn := fun _ => fun
  | [d] => { results := [.lit (.bool true)], args := [d] }
  | _ => none }
def fnMergeMarksRow : OpenClaim := { program := "ytmbhpnjhhhcjiab", sum := "3522dc283c4ec56d24fd946b91bd81fa3e1a1fb21b1b4ae57f774a0e26606844", func := "loop.example/eventstreams/laws.FnMergeMarks", spec := "fnMergeMarks", unfollowed := true, recurses := true, apart := false }
def FnMergeMarksSaid : Prop := fnMergeMarksRow.holds Try.pinned (OpenSpec.ofChange fnMergeMarksSpec)

/-- ITS FALSE NEIGHBOUR: 'it returns false'. Refute it at one input. -/
def fnMergeMarksWrong : ChangeSpec := { name := "fnMergeMarks", fn := fun _ => fun
  | [d] => { results := [.lit (.bool false)], args := [d] }
  | _ => none }
def FnMergeMarksWrongFalsely : Prop := fnMergeMarksRow.holds Try.pinned (OpenSpec.ofChange fnMergeMarksWrong)

/-- 'laws.FnUpdateInput': WHATEVER THE INPUT: true; the input reads as it did. -/
def fnUpdateInputSpec : ChangeSpec := { name := "fnUpdateInput", fn := fun _ => fun
  | [d] => { results := [.lit (.bool true)], args := [d] }
  | _ => none }
def fnUpdateInputRow : OpenClaim := { program := "ytmbhpnjhhhcjiab", sum := "3522dc283c4ec56d24fd946b91bd81fa3e1a1fb21b1b4ae57f774a0e26606844", func := "loop.example/eventstreams/laws.FnUpdateInput", spec := "fnUpdateInput", unfollowed := true, recurses := true, apart := false }
def FnUpdateInputSaid : Prop := fnUpdateInputRow.holds Try.pinned (OpenSpec.ofChange fnUpdateInputSpec)

/-- ITS FALSE NEIGHBOUR: 'it returns false'. Refute it at one input. -/
def fnUpdateInputWrong : ChangeSpec := { name := "fnUpdateInput", fn := fun _ => fun
  | [d] => { results := [.lit (.bool false)], args := [d] }
  | _ => none }
def FnUpdateInputWrongFalsely : Prop := fnUpdateInputRow.holds Try.pinned (OpenSpec.ofChange fnUpdateInputWrong)

/- THE SECOND FORM. 'bulk': how many values and letters a reading holds, each counted each time it is reached (what is shared counts as often as it is met; a slice's spare places count too). A statement '..UptoSaid' is the law's where the arguments, and the package variables that the reading takes, are together of bulk at most 1048576: NARROWER than '..Said'. Prove '..Said' where nothing that the law and all that it calls make is longer than what came in: it says more and counts as full. Else prove '..UptoSaid'. A law counts once. -/
mutual
def uptoBulk {H : Type} : DataW H → Nat
  | .lit (.string bytes) => bytes.length + 1
  | .lit _ => 1
  | .nil => 1
  | .ptr d => uptoBulk d + 1
  | .slice elems spare => uptoBulkAll elems + uptoBulkAll spare + 1
  | .agg parts => uptoBulkAll parts + 1
  | .iface _ d => uptoBulk d + 1
  | .map entries => uptoBulkEntries entries + 1
  | .held _ => 1
def uptoBulkAll {H : Type} : List (DataW H) → Nat
  | [] => 0
  | d :: r => uptoBulk d + uptoBulkAll r
def uptoBulkEntries {H : Type} : List (Lit × DataW H) → Nat
  | [] => 0
  | x :: r => uptoBulkEntry x + uptoBulkEntries r
def uptoBulkEntry {H : Type} : Lit × DataW H → Nat
  | (.string bytes, d) => bytes.length + uptoBulk d + 1
  | (_, d) => uptoBulk d + 1
 end
def uptoSmall : (H : Type) → List (DataW H) → Bool := fun _ ds => decide (uptoBulkAll ds ≤ 1048576)
def OpenSpec.upto (s : _root_.Go.ChangeSpec) : _root_.Go.OpenSpec := { _root_.Go.OpenSpec.ofChange s with cond := some uptoSmall }

/-- 'laws.FnReadLogOrder', WHERE WHAT IT READS IS OF BULK AT MOST 1048576: true; the input reads as it did. -/
def fnReadLogOrderUptoRow : OpenClaim := { program := "ytmbhpnjhhhcjiab", sum := "3522dc283c4ec56d24fd946b91bd81fa3e1a1fb21b1b4ae57f774a0e26606844", func := "loop.example/eventstreams/laws.FnReadLogOrder", spec := "fnReadLogOrder", unfollowed := true, recurses := true, apart := false, narrowed := true }
def FnReadLogOrderUptoSaid : Prop := fnReadLogOrderUptoRow.holds Try.pinned (OpenSpec.upto fnReadLogOrderSpec)

/-- 'laws.FnLagOf', WHERE WHAT IT READS IS OF BULK AT MOST 1048576: true; the input reads as it did. -/
def fnLagOfUptoRow : OpenClaim := { program := "ytmbhpnjhhhcjiab", sum := "3522dc283c4ec56d24fd946b91bd81fa3e1a1fb21b1b4ae57f774a0e26606844", func := "loop.example/eventstreams/laws.FnLagOf", spec := "fnLagOf", unfollowed := true, recurses := true, apart := false, narrowed := true }
def FnLagOfUptoSaid : Prop := fnLagOfUptoRow.holds Try.pinned (OpenSpec.upto fnLagOfSpec)

/-- 'laws.FnSeeTime', WHERE WHAT IT READS IS OF BULK AT MOST 1048576: true; the input reads as it did. -/
def fnSeeTimeUptoRow : OpenClaim := { program := "ytmbhpnjhhhcjiab", sum := "3522dc283c4ec56d24fd946b91bd81fa3e1a1fb21b1b4ae57f774a0e26606844", func := "loop.example/eventstreams/laws.FnSeeTime", spec := "fnSeeTime", apart := false, narrowed := true }
def FnSeeTimeUptoSaid : Prop := fnSeeTimeUptoRow.holds Try.pinned (OpenSpec.upto fnSeeTimeSpec)

/-- 'laws.FnMarkTime', WHERE WHAT IT READS IS OF BULK AT MOST 1048576: true; the input reads as it did. -/
def fnMarkTimeUptoRow : OpenClaim := { program := "ytmbhpnjhhhcjiab", sum := "3522dc283c4ec56d24fd946b91bd81fa3e1a1fb21b1b4ae57f774a0e26606844", func := "loop.example/eventstreams/laws.FnMarkTime", spec := "fnMarkTime", apart := false, narrowed := true }
def FnMarkTimeUptoSaid : Prop := fnMarkTimeUptoRow.holds Try.pinned (OpenSpec.upto fnMarkTimeSpec)

/-- 'laws.FnIsLate', WHERE WHAT IT READS IS OF BULK AT MOST 1048576: true; the input reads as it did. -/
def fnIsLateUptoRow : OpenClaim := { program := "ytmbhpnjhhhcjiab", sum := "3522dc283c4ec56d24fd946b91bd81fa3e1a1fb21b1b4ae57f774a0e26606844", func := "loop.example/eventstreams/laws.FnIsLate", spec := "fnIsLate", apart := false, narrowed := true }
def FnIsLateUptoSaid : Prop := fnIsLateUptoRow.holds Try.pinned (OpenSpec.upto fnIsLateSpec)

/-- 'laws.FnMarksOf', WHERE WHAT IT READS IS OF BULK AT MOST 1048576: true; the input reads as it did. -/
def fnMarksOfUptoRow : OpenClaim := { program := "ytmbhpnjhhhcjiab", sum := "3522dc283c4ec56d24fd946b91bd81fa3e1a1fb21b1b4ae57f774a0e26606844", func := "loop.example/eventstreams/laws.FnMarksOf", spec := "fnMarksOf", unfollowed := true, recurses := true, apart := false, narrowed := true }
def FnMarksOfUptoSaid : Prop := fnMarksOfUptoRow.holds Try.pinned (OpenSpec.upto fnMarksOfSpec)

/-- 'laws.FnMarksOfPrefix', WHERE WHAT IT READS IS OF BULK AT MOST 1048576: true; the input reads as it did. -/
def fnMarksOfPrefixUptoRow : OpenClaim := { program := "ytmbhpnjhhhcjiab", sum := "3522dc283c4ec56d24fd946b91bd81fa3e1a1fb21b1b4ae57f774a0e26606844", func := "loop.example/eventstreams/laws.FnMarksOfPrefix", spec := "fnMarksOfPrefix", unfollowed := true, recurses := true, apart := false, narrowed := true }
def FnMarksOfPrefixUptoSaid : Prop := fnMarksOfPrefixUptoRow.holds Try.pinned (OpenSpec.upto fnMarksOfPrefixSpec)

/-- 'laws.FnLateEvents', WHERE WHAT IT READS IS OF BULK AT MOST 1048576: true; the input reads as it did. -/
def fnLateEventsUptoRow : OpenClaim := { program := "ytmbhpnjhhhcjiab", sum := "3522dc283c4ec56d24fd946b91bd81fa3e1a1fb21b1b4ae57f774a0e26606844", func := "loop.example/eventstreams/laws.FnLateEvents", spec := "fnLateEvents", unfollowed := true, recurses := true, apart := false, narrowed := true }
def FnLateEventsUptoSaid : Prop := fnLateEventsUptoRow.holds Try.pinned (OpenSpec.upto fnLateEventsSpec)

/-- 'laws.FnLateEventsMarks', WHERE WHAT IT READS IS OF BULK AT MOST 1048576: true; the input reads as it did. -/
def fnLateEventsMarksUptoRow : OpenClaim := { program := "ytmbhpnjhhhcjiab", sum := "3522dc283c4ec56d24fd946b91bd81fa3e1a1fb21b1b4ae57f774a0e26606844", func := "loop.example/eventstreams/laws.FnLateEventsMarks", spec := "fnLateEventsMarks", unfollowed := true, recurses := true, apart := false, narrowed := true }
def FnLateEventsMarksUptoSaid : Prop := fnLateEventsMarksUptoRow.holds Try.pinned (OpenSpec.upto fnLateEventsMarksSpec)

/-- 'laws.FnIdleInputs', WHERE WHAT IT READS IS OF BULK AT MOST 1048576: true; the input reads as it did. -/
def fnIdleInputsUptoRow : OpenClaim := { program := "ytmbhpnjhhhcjiab", sum := "3522dc283c4ec56d24fd946b91bd81fa3e1a1fb21b1b4ae57f774a0e26606844", func := "loop.example/eventstreams/laws.FnIdleInputs", spec := "fnIdleInputs", unfollowed := true, recurses := true, apart := false, narrowed := true }
def FnIdleInputsUptoSaid : Prop := fnIdleInputsUptoRow.holds Try.pinned (OpenSpec.upto fnIdleInputsSpec)

/-- 'laws.FnMergeMarks', WHERE WHAT IT READS IS OF BULK AT MOST 1048576: true; the input reads as it did. -/
def fnMergeMarksUptoRow : OpenClaim := { program := "ytmbhpnjhhhcjiab", sum := "3522dc283c4ec56d24fd946b91bd81fa3e1a1fb21b1b4ae57f774a0e26606844", func := "loop.example/eventstreams/laws.FnMergeMarks", spec := "fnMergeMarks", unfollowed := true, recurses := true, apart := false, narrowed := true }
def FnMergeMarksUptoSaid : Prop := fnMergeMarksUptoRow.holds Try.pinned (OpenSpec.upto fnMergeMarksSpec)

/-- 'laws.FnUpdateInput', WHERE WHAT IT READS IS OF BULK AT MOST 1048576: true; the input reads as it did. -/
def fnUpdateInputUptoRow : OpenClaim := { program := "ytmbhpnjhhhcjiab", sum := "3522dc283c4ec56d24fd946b91bd81fa3e1a1fb21b1b4ae57f774a0e26606844", func := "loop.example/eventstreams/laws.FnUpdateInput", spec := "fnUpdateInput", unfollowed := true, recurses := true, apart := false, narrowed := true }
def FnUpdateInputUptoSaid : Prop := fnUpdateInputUptoRow.holds Try.pinned (OpenSpec.upto fnUpdateInputSpec)

end Rows
end Go.Proofs.Ytmbhpnjhhhcjiab
