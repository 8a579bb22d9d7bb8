/-
  No cell of these rows narrows 'for every input' (looked for: loops, veiled, ifaces, maps, wideKeys, modest, calm, conditions, laid).
  DERIVED. THE GIVEN ROWS OF THIS SEAT. 9 by the template 'for every input the law returns true; each argument reads behind the call as it read before'; 0 by the template 'total and deterministic' (their statements: YtpfcmejcgkfjmabTotals.lean).
  GIVEN WITH THE SEED: the statements are not yours to turn. If you find one false, say at which input.
  Laid BY PROGRAM, IN A SANDBOX (cutbox-rows.mjs): the forced cells as the released guide's own fill.sh prints them over the translation f8c208d3181fe156… (all of the seat's roots in one cut). By AI agents, Wed Nov 11 2026. No macro, syntax, notation, axiom, sorry.
-/
import Derived.Test.YtpfcmejcgkfjmabChecked
import GoSem.Claim
import GoSem.ClaimJoined
import GoSem.ClaimMapViews
import Derived.JoinedTies
import Derived.KernelRfl
namespace Go.Proofs.Ytpfcmejcgkfjmab
/- THE CELL 'sum', in the pinned program and in every row, IS THE sha256 OF THE DUMP (.gsa) THAT YtpfcmejcgkfjmabProg.lean LOADS. Nothing in Lean hashes anything: it is a label: what it is worth is what the hold of that sum in a sandbox is worth. -/
noncomputable def Try.pinned : Pinned := { name := "ytpfcmejcgkfjmab", sum := "f8c208d3181fe156c70664547ca43c611a829abe20573a5e2e53bb674aa165e9", checked := Try.checked }
namespace Rows
def none {H : Type} : Left H := { results := [], args := [] }

/-- 'laws.FnWindowHas': WHATEVER THE INPUT: true; the input reads as it did. -/
def fnWindowHasSpec : ChangeSpec := { name := "fnWindowHas", fn := fun _ => fun
  | [d] => { results := [.lit (.bool true)], args := [d] }
  | _ => none }
def fnWindowHasRow : OpenClaim := { program := "ytpfcmejcgkfjmab", sum := "f8c208d3181fe156c70664547ca43c611a829abe20573a5e2e53bb674aa165e9", func := "loop.example/eventstreams/laws.FnWindowHas", spec := "fnWindowHas", apart := false }
def FnWindowHasSaid : Prop := fnWindowHasRow.holds Try.pinned (OpenSpec.ofChange fnWindowHasSpec)

/-- ITS FALSE NEIGHBOUR: 'it returns false'. Refute it at one input. -/
def fnWindowHasWrong : ChangeSpec := { name := "fnWindowHas", fn := fun _ => fun
  | [d] => { results := [.lit (.bool false)], args := [d] }
  | _ => none }
def FnWindowHasWrongFalsely : Prop := fnWindowHasRow.holds Try.pinned (OpenSpec.ofChange fnWindowHasWrong)

/-- 'laws.FnCleanTime': WHATEVER THE INPUT: true; the input reads as it did. -/
def fnCleanTimeSpec : ChangeSpec := { name := "fnCleanTime", fn := fun _ => fun
  | [d] => { results := [.lit (.bool true)], args := [d] }
  | _ => none }
def fnCleanTimeRow : OpenClaim := { program := "ytpfcmejcgkfjmab", sum := "f8c208d3181fe156c70664547ca43c611a829abe20573a5e2e53bb674aa165e9", func := "loop.example/eventstreams/laws.FnCleanTime", spec := "fnCleanTime", apart := false }
def FnCleanTimeSaid : Prop := fnCleanTimeRow.holds Try.pinned (OpenSpec.ofChange fnCleanTimeSpec)

/-- ITS FALSE NEIGHBOUR: 'it returns false'. Refute it at one input. -/
def fnCleanTimeWrong : ChangeSpec := { name := "fnCleanTime", fn := fun _ => fun
  | [d] => { results := [.lit (.bool false)], args := [d] }
  | _ => none }
def FnCleanTimeWrongFalsely : Prop := fnCleanTimeRow.holds Try.pinned (OpenSpec.ofChange fnCleanTimeWrong)

/-- 'laws.FnTriggerEvent': WHATEVER THE INPUT: true; the input reads as it did. -/
def fnTriggerEventSpec : ChangeSpec := { name := "fnTriggerEvent", fn := fun _ => fun
  | [d] => { results := [.lit (.bool true)], args := [d] }
  | _ => none }
def fnTriggerEventRow : OpenClaim := { program := "ytpfcmejcgkfjmab", sum := "f8c208d3181fe156c70664547ca43c611a829abe20573a5e2e53bb674aa165e9", func := "loop.example/eventstreams/laws.FnTriggerEvent", spec := "fnTriggerEvent", apart := false }
def FnTriggerEventSaid : Prop := fnTriggerEventRow.holds Try.pinned (OpenSpec.ofChange fnTriggerEventSpec)

/-- ITS FALSE NEIGHBOUR: 'it returns false'. Refute it at one input. -/
def fnTriggerEventWrong : ChangeSpec := { name := "fnTriggerEvent", fn := fun _ => fun
  | [d] => { results := [.lit (.bool false)], args := [d] }
  | _ => none }
def FnTriggerEventWrongFalsely : Prop := fnTriggerEventRow.holds Try.pinned (OpenSpec.ofChange fnTriggerEventWrong)

/-- 'laws.FnTriggerEventEarly': WHATEVER THE INPUT: true; the input reads as it did. -/
def fnTriggerEventEarlySpec : ChangeSpec := { name := "fnTriggerEventEarly", fn := fun _ => fun
  | [d] => { results := [.lit (.bool true)], args := [d] }
  | _ => none }
def fnTriggerEventEarlyRow : OpenClaim := { program := "ytpfcmejcgkfjmab", sum := "f8c208d3181fe156c70664547ca43c611a829abe20573a5e2e53bb674aa165e9", func := "loop.example/eventstreams/laws.FnTriggerEventEarly", spec := "fnTriggerEventEarly", apart := false }
def FnTriggerEventEarlySaid : Prop := fnTriggerEventEarlyRow.holds Try.pinned (OpenSpec.ofChange fnTriggerEventEarlySpec)

/-- ITS FALSE NEIGHBOUR: 'it returns false'. Refute it at one input. -/
def fnTriggerEventEarlyWrong : ChangeSpec := { name := "fnTriggerEventEarly", fn := fun _ => fun
  | [d] => { results := [.lit (.bool false)], args := [d] }
  | _ => none }
def FnTriggerEventEarlyWrongFalsely : Prop := fnTriggerEventEarlyRow.holds Try.pinned (OpenSpec.ofChange fnTriggerEventEarlyWrong)

/-- 'laws.FnTriggerMark': WHATEVER THE INPUT: true; the input reads as it did. -/
def fnTriggerMarkSpec : ChangeSpec := { name := "fnTriggerMark", fn := fun _ => fun
  | [d] => { results := [.lit (.bool true)], args := [d] }
  | _ => none }
def fnTriggerMarkRow : OpenClaim := { program := "ytpfcmejcgkfjmab", sum := "f8c208d3181fe156c70664547ca43c611a829abe20573a5e2e53bb674aa165e9", func := "loop.example/eventstreams/laws.FnTriggerMark", spec := "fnTriggerMark", apart := false }
def FnTriggerMarkSaid : Prop := fnTriggerMarkRow.holds Try.pinned (OpenSpec.ofChange fnTriggerMarkSpec)

/-- ITS FALSE NEIGHBOUR: 'it returns false'. Refute it at one input. -/
def fnTriggerMarkWrong : ChangeSpec := { name := "fnTriggerMark", fn := fun _ => fun
  | [d] => { results := [.lit (.bool false)], args := [d] }
  | _ => none }
def FnTriggerMarkWrongFalsely : Prop := fnTriggerMarkRow.holds Try.pinned (OpenSpec.ofChange fnTriggerMarkWrong)

/-- 'laws.FnMergeAcc': WHATEVER THE INPUT: true; the input reads as it did. -/
def fnMergeAccSpec : ChangeSpec := { name := "fnMergeAcc", fn := fun _ => fun
  | [d] => { results := [.lit (.bool true)], args := [d] }
  | _ => none }
def fnMergeAccRow : OpenClaim := { program := "ytpfcmejcgkfjmab", sum := "f8c208d3181fe156c70664547ca43c611a829abe20573a5e2e53bb674aa165e9", func := "loop.example/eventstreams/laws.FnMergeAcc", spec := "fnMergeAcc", apart := false }
def FnMergeAccSaid : Prop := fnMergeAccRow.holds Try.pinned (OpenSpec.ofChange fnMergeAccSpec)

/-- ITS FALSE NEIGHBOUR: 'it returns false'. Refute it at one input. -/
def fnMergeAccWrong : ChangeSpec := { name := "fnMergeAcc", fn := fun _ => fun
  | [d] => { results := [.lit (.bool false)], args := [d] }
  | _ => none }
def FnMergeAccWrongFalsely : Prop := fnMergeAccRow.holds Try.pinned (OpenSpec.ofChange fnMergeAccWrong)

/-- 'laws.FnMergeAccThree': WHATEVER THE INPUT: true; the input reads as it did. -/
def fnMergeAccThreeSpec : ChangeSpec := { name := "fnMergeAccThree", fn := fun _ => fun
  | [d] => { results := [.lit (.bool true)], args := [d] }
  | _ => none }
def fnMergeAccThreeRow : OpenClaim := { program := "ytpfcmejcgkfjmab", sum := "f8c208d3181fe156c70664547ca43c611a829abe20573a5e2e53bb674aa165e9", func := "loop.example/eventstreams/laws.FnMergeAccThree", spec := "fnMergeAccThree", apart := false }
def FnMergeAccThreeSaid : Prop := fnMergeAccThreeRow.holds Try.pinned (OpenSpec.ofChange fnMergeAccThreeSpec)

/-- ITS FALSE NEIGHBOUR: 'it returns false'. Refute it at one input. -/
def fnMergeAccThreeWrong : ChangeSpec := { name := "fnMergeAccThree", fn := fun _ => fun
  | [d] => { results := [.lit (.bool false)], args := [d] }
  | _ => none }
def FnMergeAccThreeWrongFalsely : Prop := fnMergeAccThreeRow.holds Try.pinned (OpenSpec.ofChange fnMergeAccThreeWrong)

/-- 'laws.FnAddAcc': WHATEVER THE INPUT: true; the input reads as it did. -/
def fnAddAccSpec : ChangeSpec := { name := "fnAddAcc", fn := fun _ => fun
  | [d] => { results := [.lit (.bool true)], args := [d] }
  | _ => none }
def fnAddAccRow : OpenClaim := { program := "ytpfcmejcgkfjmab", sum := "f8c208d3181fe156c70664547ca43c611a829abe20573a5e2e53bb674aa165e9", func := "loop.example/eventstreams/laws.FnAddAcc", spec := "fnAddAcc", apart := false }
def FnAddAccSaid : Prop := fnAddAccRow.holds Try.pinned (OpenSpec.ofChange fnAddAccSpec)

/-- ITS FALSE NEIGHBOUR: 'it returns false'. Refute it at one input. -/
def fnAddAccWrong : ChangeSpec := { name := "fnAddAcc", fn := fun _ => fun
  | [d] => { results := [.lit (.bool false)], args := [d] }
  | _ => none }
def FnAddAccWrongFalsely : Prop := fnAddAccRow.holds Try.pinned (OpenSpec.ofChange fnAddAccWrong)

/-- 'laws.FnAverageOf': WHATEVER THE INPUT: true; the input reads as it did. -/
def fnAverageOfSpec : ChangeSpec := { name := "fnAverageOf", fn := fun _ => fun
  | [d] => { results := [.lit (.bool true)], args := [d] }
  | _ => none }
def fnAverageOfRow : OpenClaim := { program := "ytpfcmejcgkfjmab", sum := "f8c208d3181fe156c70664547ca43c611a829abe20573a5e2e53bb674aa165e9", func := "loop.example/eventstreams/laws.FnAverageOf", spec := "fnAverageOf", apart := false }
def FnAverageOfSaid : Prop := fnAverageOfRow.holds Try.pinned (OpenSpec.ofChange fnAverageOfSpec)

/-- ITS FALSE NEIGHBOUR: 'it returns false'. Refute it at one input. -/
def fnAverageOfWrong : ChangeSpec := { name := "fnAverageOf", fn := fun _ => fun
  | [d] => { results := [.lit (.bool false)], args := [d] }
  | _ => none }
def FnAverageOfWrongFalsely : Prop := fnAverageOfRow.holds Try.pinned (OpenSpec.ofChange fnAverageOfWrong)

/- THE SECOND FORM. 'bulk': how many values and letters a reading holds, each counted each time it is reached (what is shared counts as often as it is met; a slice's spare places count too). A statement '..UptoSaid' is the law's where the arguments, and the package variables that the reading takes, are together of bulk at most 1048576: NARROWER than '..Said'. Prove '..Said' where nothing that the law and all that it calls make is longer than what came in: it says more and counts as full. Else prove '..UptoSaid'. A law counts once. -/
mutual
def uptoBulk {H : Type} : DataW H → Nat
  | .lit (.string bytes) => bytes.length + 1
  | .lit _ => 1
  | .nil => 1
  | .ptr d => uptoBulk d + 1
  | .slice elems spare => uptoBulkAll elems + uptoBulkAll spare + 1
  | .agg parts => uptoBulkAll parts + 1
  | .iface _ d => uptoBulk d + 1
  | .map entries => uptoBulkEntries entries + 1
  | .held _ => 1
def uptoBulkAll {H : Type} : List (DataW H) → Nat
  | [] => 0
  | d :: r => uptoBulk d + uptoBulkAll r
def uptoBulkEntries {H : Type} : List (Lit × DataW H) → Nat
  | [] => 0
  | x :: r => uptoBulkEntry x + uptoBulkEntries r
def uptoBulkEntry {H : Type} : Lit × DataW H → Nat
  | (.string bytes, d) => bytes.length + uptoBulk d + 1
  | (_, d) => uptoBulk d + 1
 end
def uptoSmall : (H : Type) → List (DataW H) → Bool := fun _ ds => decide (uptoBulkAll ds ≤ 1048576)
def OpenSpec.upto (s : _root_.Go.ChangeSpec) : _root_.Go.OpenSpec := { _root_.Go.OpenSpec.ofChange s with cond := some uptoSmall }

/-- 'laws.FnWindowHas', WHERE WHAT IT READS IS OF BULK AT MOST 1048576: true; the input reads as it did. -/
def fnWindowHasUptoRow : OpenClaim := { program := "ytpfcmejcgkfjmab", sum := "f8c208d3181fe156c70664547ca43c611a829abe20573a5e2e53bb674aa165e9", func := "loop.example/eventstreams/laws.FnWindowHas", spec := "fnWindowHas", apart := false, narrowed := true }
def FnWindowHasUptoSaid : Prop := fnWindowHasUptoRow.holds Try.pinned (OpenSpec.upto fnWindowHasSpec)

/-- 'laws.FnCleanTime', WHERE WHAT IT READS IS OF BULK AT MOST 1048576: true; the input reads as it did. -/
def fnCleanTimeUptoRow : OpenClaim := { program := "ytpfcmejcgkfjmab", sum := "f8c208d3181fe156c70664547ca43c611a829abe20573a5e2e53bb674aa165e9", func := "loop.example/eventstreams/laws.FnCleanTime", spec := "fnCleanTime", apart := false, narrowed := true }
def FnCleanTimeUptoSaid : Prop := fnCleanTimeUptoRow.holds Try.pinned (OpenSpec.upto fnCleanTimeSpec)

/-- 'laws.FnTriggerEvent', WHERE WHAT IT READS IS OF BULK AT MOST 1048576: true; the input reads as it did. -/
def fnTriggerEventUptoRow : OpenClaim := { program := "ytpfcmejcgkfjmab", sum := "f8c208d3181fe156c70664547ca43c611a829abe20573a5e2e53bb674aa165e9", func := "loop.example/eventstreams/laws.FnTriggerEvent", spec := "fnTriggerEvent", apart := false, narrowed := true }
def FnTriggerEventUptoSaid : Prop := fnTriggerEventUptoRow.holds Try.pinned (OpenSpec.upto fnTriggerEventSpec)

/-- 'laws.FnTriggerEventEarly', WHERE WHAT IT READS IS OF BULK AT MOST 1048576: true; the input reads as it did. -/
def fnTriggerEventEarlyUptoRow : OpenClaim := { program := "ytpfcmejcgkfjmab", sum := "f8c208d3181fe156c70664547ca43c611a829abe20573a5e2e53bb674aa165e9", func := "loop.example/eventstreams/laws.FnTriggerEventEarly", spec := "fnTriggerEventEarly", apart := false, narrowed := true }
def FnTriggerEventEarlyUptoSaid : Prop := fnTriggerEventEarlyUptoRow.holds Try.pinned (OpenSpec.upto fnTriggerEventEarlySpec)

/-- 'laws.FnTriggerMark', WHERE WHAT IT READS IS OF BULK AT MOST 1048576: true; the input reads as it did. -/
def fnTriggerMarkUptoRow : OpenClaim := { program := "ytpfcmejcgkfjmab", sum := "f8c208d3181fe156c70664547ca43c611a829abe20573a5e2e53bb674aa165e9", func := "loop.example/eventstreams/laws.FnTriggerMark", spec := "fnTriggerMark", apart := false, narrowed := true }
def FnTriggerMarkUptoSaid : Prop := fnTriggerMarkUptoRow.holds Try.pinned (OpenSpec.upto fnTriggerMarkSpec)

/-- 'laws.FnMergeAcc', WHERE WHAT IT READS IS OF BULK AT MOST 1048576: true; the input reads as it did. -/
def fnMergeAccUptoRow : OpenClaim := { program := "ytpfcmejcgkfjmab", sum := "f8c208d3181fe156c70664547ca43c611a829abe20573a5e2e53bb674aa165e9", func := "loop.example/eventstreams/laws.FnMergeAcc", spec := "fnMergeAcc", apart := false, narrowed := true }
def FnMergeAccUptoSaid : Prop := fnMergeAccUptoRow.holds Try.pinned (OpenSpec.upto fnMergeAccSpec)

/-- 'laws.FnMergeAccThree', WHERE WHAT IT READS IS OF BULK AT MOST 1048576: true; the input reads as it did. -/
def fnMergeAccThreeUptoRow : OpenClaim := { program := "ytpfcmejcgkfjmab", sum := "f8c208d3181fe156c70664547ca43c611a829abe20573a5e2e53bb674aa165e9", func := "loop.example/eventstreams/laws.FnMergeAccThree", spec := "fnMergeAccThree", apart := false, narrowed := true }
def FnMergeAccThreeUptoSaid : Prop := fnMergeAccThreeUptoRow.holds Try.pinned (OpenSpec.upto fnMergeAccThreeSpec)

/-- 'laws.FnAddAcc', WHERE WHAT IT READS IS OF BULK AT MOST 1048576: true; the input reads as it did. -/
def fnAddAccUptoRow : OpenClaim := { program := "ytpfcmejcgkfjmab", sum := "f8c208d3181fe156c70664547ca43c611a829abe20573a5e2e53bb674aa165e9", func := "loop.example/eventstreams/laws.FnAddAcc", spec := "fnAddAcc", apart := false, narrowed := true }
def FnAddAccUptoSaid : Prop := fnAddAccUptoRow.holds Try.pinned (OpenSpec.upto fnAddAccSpec)

/-- 'laws.FnAverageOf', WHERE WHAT IT READS IS OF BULK AT MOST 1048576: true; the input reads as it did. -/
def fnAverageOfUptoRow : OpenClaim := { program := "ytpfcmejcgkfjmab", sum := "f8c208d3181fe156c70664547ca43c611a829abe20573a5e2e53bb674aa165e9", func := "loop.example/eventstreams/laws.FnAverageOf", spec := "fnAverageOf", apart := false, narrowed := true }
def FnAverageOfUptoSaid : Prop := fnAverageOfUptoRow.holds Try.pinned (OpenSpec.upto fnAverageOfSpec)

end Rows
end Go.Proofs.Ytpfcmejcgkfjmab
