/-
  No cell of these rows narrows 'for every input' (looked for: loops, veiled, ifaces, maps, wideKeys, modest, calm, conditions, laid).
  DERIVED. THE GIVEN ROWS OF THIS SEAT. 9 by the template 'for every input the law returns true; each argument reads behind the call as it read before'; 0 by the template 'total and deterministic' (their statements: YtpfcmejcgkfjmaaTotals.lean).
  GIVEN WITH THE SEED: the statements are not yours to turn. If you find one false, say at which input.
  Laid BY PROGRAM, IN A SANDBOX (cutbox-rows.mjs): the forced cells as the released guide's own fill.sh prints them over the translation cef6bdefbcfb6609… (all of the seat's roots in one cut). By AI agents, Wed Nov 11 2026. No macro, syntax, notation, axiom, sorry.
-/
import Derived.Test.YtpfcmejcgkfjmaaChecked
import GoSem.Claim
import GoSem.ClaimJoined
import GoSem.ClaimMapViews
import Derived.JoinedTies
import Derived.KernelRfl
namespace Go.Proofs.Ytpfcmejcgkfjmaa
/- THE CELL 'sum', in the pinned program and in every row, IS THE sha256 OF THE DUMP (.gsa) THAT YtpfcmejcgkfjmaaProg.lean LOADS. Nothing in Lean hashes anything: it is a label: what it is worth is what the hold of that sum in a sandbox is worth. -/
noncomputable def Try.pinned : Pinned := { name := "ytpfcmejcgkfjmaa", sum := "cef6bdefbcfb66097345be35be8fd092d83be7717cd39d3c5e2612c10a470d6f", checked := Try.checked }
namespace Rows
def none {H : Type} : Left H := { results := [], args := [] }

/-- 'laws.FnExactTumblingOf': WHATEVER THE INPUT: true; the input reads as it did. -/
def fnExactTumblingOfSpec : ChangeSpec := { name := "fnExactTumblingOf", fn := fun _ => fun
  | [d1, d2, d3] => { results := [.lit (.bool true)], args := [d1, d2, d3] }
  | _ => none }
def fnExactTumblingOfRow : OpenClaim := { program := "ytpfcmejcgkfjmaa", sum := "cef6bdefbcfb66097345be35be8fd092d83be7717cd39d3c5e2612c10a470d6f", func := "loop.example/eventstreams/laws.FnExactTumblingOf", spec := "fnExactTumblingOf", apart := false }
def FnExactTumblingOfSaid : Prop := fnExactTumblingOfRow.holds Try.pinned (OpenSpec.ofChange fnExactTumblingOfSpec)

/-- ITS FALSE NEIGHBOUR: 'it returns false'. Refute it at one input. -/
def fnExactTumblingOfWrong : ChangeSpec := { name := "fnExactTumblingOf", fn := fun _ => fun
  | [d1, d2, d3] => { results := [.lit (.bool false)], args := [d1, d2, d3] }
  | _ => none }
def FnExactTumblingOfWrongFalsely : Prop := fnExactTumblingOfRow.holds Try.pinned (OpenSpec.ofChange fnExactTumblingOfWrong)

/-- 'laws.FnExactWindowHas': WHATEVER THE INPUT: true; the input reads as it did. -/
def fnExactWindowHasSpec : ChangeSpec := { name := "fnExactWindowHas", fn := fun _ => fun
  | [d1, d2] => { results := [.lit (.bool true)], args := [d1, d2] }
  | _ => none }
def fnExactWindowHasRow : OpenClaim := { program := "ytpfcmejcgkfjmaa", sum := "cef6bdefbcfb66097345be35be8fd092d83be7717cd39d3c5e2612c10a470d6f", func := "loop.example/eventstreams/laws.FnExactWindowHas", spec := "fnExactWindowHas", apart := false }
def FnExactWindowHasSaid : Prop := fnExactWindowHasRow.holds Try.pinned (OpenSpec.ofChange fnExactWindowHasSpec)

/-- ITS FALSE NEIGHBOUR: 'it returns false'. Refute it at one input. -/
def fnExactWindowHasWrong : ChangeSpec := { name := "fnExactWindowHas", fn := fun _ => fun
  | [d1, d2] => { results := [.lit (.bool false)], args := [d1, d2] }
  | _ => none }
def FnExactWindowHasWrongFalsely : Prop := fnExactWindowHasRow.holds Try.pinned (OpenSpec.ofChange fnExactWindowHasWrong)

/-- 'laws.FnExactMergeAcc': WHATEVER THE INPUT: true; the input reads as it did. -/
def fnExactMergeAccSpec : ChangeSpec := { name := "fnExactMergeAcc", fn := fun _ => fun
  | [d1, d2] => { results := [.lit (.bool true)], args := [d1, d2] }
  | _ => none }
def fnExactMergeAccRow : OpenClaim := { program := "ytpfcmejcgkfjmaa", sum := "cef6bdefbcfb66097345be35be8fd092d83be7717cd39d3c5e2612c10a470d6f", func := "loop.example/eventstreams/laws.FnExactMergeAcc", spec := "fnExactMergeAcc", apart := false }
def FnExactMergeAccSaid : Prop := fnExactMergeAccRow.holds Try.pinned (OpenSpec.ofChange fnExactMergeAccSpec)

/-- ITS FALSE NEIGHBOUR: 'it returns false'. Refute it at one input. -/
def fnExactMergeAccWrong : ChangeSpec := { name := "fnExactMergeAcc", fn := fun _ => fun
  | [d1, d2] => { results := [.lit (.bool false)], args := [d1, d2] }
  | _ => none }
def FnExactMergeAccWrongFalsely : Prop := fnExactMergeAccRow.holds Try.pinned (OpenSpec.ofChange fnExactMergeAccWrong)

/-- 'laws.FnExactAddAcc': WHATEVER THE INPUT: true; the input reads as it did. -/
def fnExactAddAccSpec : ChangeSpec := { name := "fnExactAddAcc", fn := fun _ => fun
  | [d1, d2] => { results := [.lit (.bool true)], args := [d1, d2] }
  | _ => none }
def fnExactAddAccRow : OpenClaim := { program := "ytpfcmejcgkfjmaa", sum := "cef6bdefbcfb66097345be35be8fd092d83be7717cd39d3c5e2612c10a470d6f", func := "loop.example/eventstreams/laws.FnExactAddAcc", spec := "fnExactAddAcc", apart := false }
def FnExactAddAccSaid : Prop := fnExactAddAccRow.holds Try.pinned (OpenSpec.ofChange fnExactAddAccSpec)

/-- ITS FALSE NEIGHBOUR: 'it returns false'. Refute it at one input. -/
def fnExactAddAccWrong : ChangeSpec := { name := "fnExactAddAcc", fn := fun _ => fun
  | [d1, d2] => { results := [.lit (.bool false)], args := [d1, d2] }
  | _ => none }
def FnExactAddAccWrongFalsely : Prop := fnExactAddAccRow.holds Try.pinned (OpenSpec.ofChange fnExactAddAccWrong)

/-- 'laws.FnExactAverageOf': WHATEVER THE INPUT: true; the input reads as it did. -/
def fnExactAverageOfSpec : ChangeSpec := { name := "fnExactAverageOf", fn := fun _ => fun
  | [d] => { results := [.lit (.bool true)], args := [d] }
  | _ => none }
def fnExactAverageOfRow : OpenClaim := { program := "ytpfcmejcgkfjmaa", sum := "cef6bdefbcfb66097345be35be8fd092d83be7717cd39d3c5e2612c10a470d6f", func := "loop.example/eventstreams/laws.FnExactAverageOf", spec := "fnExactAverageOf", apart := false }
def FnExactAverageOfSaid : Prop := fnExactAverageOfRow.holds Try.pinned (OpenSpec.ofChange fnExactAverageOfSpec)

/-- ITS FALSE NEIGHBOUR: 'it returns false'. Refute it at one input. -/
def fnExactAverageOfWrong : ChangeSpec := { name := "fnExactAverageOf", fn := fun _ => fun
  | [d] => { results := [.lit (.bool false)], args := [d] }
  | _ => none }
def FnExactAverageOfWrongFalsely : Prop := fnExactAverageOfRow.holds Try.pinned (OpenSpec.ofChange fnExactAverageOfWrong)

/-- 'laws.FnExactCleanTime': WHATEVER THE INPUT: true; the input reads as it did. -/
def fnExactCleanTimeSpec : ChangeSpec := { name := "fnExactCleanTime", fn := fun _ => fun
  | [d1, d2] => { results := [.lit (.bool true)], args := [d1, d2] }
  | _ => none }
def fnExactCleanTimeRow : OpenClaim := { program := "ytpfcmejcgkfjmaa", sum := "cef6bdefbcfb66097345be35be8fd092d83be7717cd39d3c5e2612c10a470d6f", func := "loop.example/eventstreams/laws.FnExactCleanTime", spec := "fnExactCleanTime", apart := false }
def FnExactCleanTimeSaid : Prop := fnExactCleanTimeRow.holds Try.pinned (OpenSpec.ofChange fnExactCleanTimeSpec)

/-- ITS FALSE NEIGHBOUR: 'it returns false'. Refute it at one input. -/
def fnExactCleanTimeWrong : ChangeSpec := { name := "fnExactCleanTime", fn := fun _ => fun
  | [d1, d2] => { results := [.lit (.bool false)], args := [d1, d2] }
  | _ => none }
def FnExactCleanTimeWrongFalsely : Prop := fnExactCleanTimeRow.holds Try.pinned (OpenSpec.ofChange fnExactCleanTimeWrong)

/-- 'laws.FnExactTriggerEvent': WHATEVER THE INPUT: true; the input reads as it did. -/
def fnExactTriggerEventSpec : ChangeSpec := { name := "fnExactTriggerEvent", fn := fun _ => fun
  | [d1, d2, d3, d4] => { results := [.lit (.bool true)], args := [d1, d2, d3, d4] }
  | _ => none }
def fnExactTriggerEventRow : OpenClaim := { program := "ytpfcmejcgkfjmaa", sum := "cef6bdefbcfb66097345be35be8fd092d83be7717cd39d3c5e2612c10a470d6f", func := "loop.example/eventstreams/laws.FnExactTriggerEvent", spec := "fnExactTriggerEvent", apart := false }
def FnExactTriggerEventSaid : Prop := fnExactTriggerEventRow.holds Try.pinned (OpenSpec.ofChange fnExactTriggerEventSpec)

/-- ITS FALSE NEIGHBOUR: 'it returns false'. Refute it at one input. -/
def fnExactTriggerEventWrong : ChangeSpec := { name := "fnExactTriggerEvent", fn := fun _ => fun
  | [d1, d2, d3, d4] => { results := [.lit (.bool false)], args := [d1, d2, d3, d4] }
  | _ => none }
def FnExactTriggerEventWrongFalsely : Prop := fnExactTriggerEventRow.holds Try.pinned (OpenSpec.ofChange fnExactTriggerEventWrong)

/-- 'laws.FnExactTriggerMark': WHATEVER THE INPUT: true; the input reads as it did. -/
def fnExactTriggerMarkSpec : ChangeSpec := { name := "fnExactTriggerMark", fn := fun _ => fun
  | [d1, d2, d3, d4] => { results := [.lit (.bool true)], args := [d1, d2, d3, d4] }
  | _ => none }
def fnExactTriggerMarkRow : OpenClaim := { program := "ytpfcmejcgkfjmaa", sum := "cef6bdefbcfb66097345be35be8fd092d83be7717cd39d3c5e2612c10a470d6f", func := "loop.example/eventstreams/laws.FnExactTriggerMark", spec := "fnExactTriggerMark", apart := false }
def FnExactTriggerMarkSaid : Prop := fnExactTriggerMarkRow.holds Try.pinned (OpenSpec.ofChange fnExactTriggerMarkSpec)

/-- ITS FALSE NEIGHBOUR: 'it returns false'. Refute it at one input. -/
def fnExactTriggerMarkWrong : ChangeSpec := { name := "fnExactTriggerMark", fn := fun _ => fun
  | [d1, d2, d3, d4] => { results := [.lit (.bool false)], args := [d1, d2, d3, d4] }
  | _ => none }
def FnExactTriggerMarkWrongFalsely : Prop := fnExactTriggerMarkRow.holds Try.pinned (OpenSpec.ofChange fnExactTriggerMarkWrong)

/-- 'laws.FnTumblingOf': WHATEVER THE INPUT: true; the input reads as it did. -/
def fnTumblingOfSpec : ChangeSpec := { name := "fnTumblingOf", fn := fun _ => fun
  | [d] => { results := [.lit (.bool true)], args := [d] }
  | _ => none }
def fnTumblingOfRow : OpenClaim := { program := "ytpfcmejcgkfjmaa", sum := "cef6bdefbcfb66097345be35be8fd092d83be7717cd39d3c5e2612c10a470d6f", func := "loop.example/eventstreams/laws.FnTumblingOf", spec := "fnTumblingOf", apart := false }
def FnTumblingOfSaid : Prop := fnTumblingOfRow.holds Try.pinned (OpenSpec.ofChange fnTumblingOfSpec)

/-- ITS FALSE NEIGHBOUR: 'it returns false'. Refute it at one input. -/
def fnTumblingOfWrong : ChangeSpec := { name := "fnTumblingOf", fn := fun _ => fun
  | [d] => { results := [.lit (.bool false)], args := [d] }
  | _ => none }
def FnTumblingOfWrongFalsely : Prop := fnTumblingOfRow.holds Try.pinned (OpenSpec.ofChange fnTumblingOfWrong)

/- THE SECOND FORM. 'bulk': how many values and letters a reading holds, each counted each time it is reached (what is shared counts as often as it is met; a slice's spare places count too). A statement '..UptoSaid' is the law's where the arguments, and the package variables that the reading takes, are together of bulk at most 1048576: NARROWER than '..Said'. Prove '..Said' where nothing that the law and all that it calls make is longer than what came in: it says more and counts as full. Else prove '..UptoSaid'. A law counts once. -/
mutual
def uptoBulk {H : Type} : DataW H → Nat
  | .lit (.string bytes) => bytes.length + 1
  | .lit _ => 1
  | .nil => 1
  | .ptr d => uptoBulk d + 1
  | .slice elems spare => uptoBulkAll elems + uptoBulkAll spare + 1
  | .agg parts => uptoBulkAll parts + 1
  | .iface _ d => uptoBulk d + 1
  | .map entries => uptoBulkEntries entries + 1
  | .held _ => 1
def uptoBulkAll {H : Type} : List (DataW H) → Nat
  | [] => 0
  | d :: r => uptoBulk d + uptoBulkAll r
def uptoBulkEntries {H : Type} : List (Lit × DataW H) → Nat
  | [] => 0
  | x :: r => uptoBulkEntry x + uptoBulkEntries r
def uptoBulkEntry {H : Type} : Lit × DataW H → Nat
  | (.string bytes, d) => bytes.length + uptoBulk d + 1
  | (_, d) => uptoBulk d + 1
 end
def uptoSmall : (H : Type) → List (DataW H) → Bool := fun _ ds => decide (uptoBulkAll ds ≤ 1048576)
def OpenSpec.upto (s : _root_.Go.ChangeSpec) : _root_.Go.OpenSpec := { _root_.Go.OpenSpec.ofChange s with cond := some uptoSmall }

/-- 'laws.FnExactTumblingOf', WHERE WHAT IT READS IS OF BULK AT MOST 1048576: true; the input reads as it did. -/
def fnExactTumblingOfUptoRow : OpenClaim := { program := "ytpfcmejcgkfjmaa", sum := "cef6bdefbcfb66097345be35be8fd092d83be7717cd39d3c5e2612c10a470d6f", func := "loop.example/eventstreams/laws.FnExactTumblingOf", spec := "fnExactTumblingOf", apart := false, narrowed := true }
def FnExactTumblingOfUptoSaid : Prop := fnExactTumblingOfUptoRow.holds Try.pinned (OpenSpec.upto fnExactTumblingOfSpec)

/-- 'laws.FnExactWindowHas', WHERE WHAT IT READS IS OF BULK AT MOST 1048576: true; the input reads as it did. -/
def fnExactWindowHasUptoRow : OpenClaim := { program := "ytpfcmejcgkfjmaa", sum := "cef6bdefbcfb66097345be35be8fd092d83be7717cd39d3c5e2612c10a470d6f", func := "loop.example/eventstreams/laws.FnExactWindowHas", spec := "fnExactWindowHas", apart := false, narrowed := true }
def FnExactWindowHasUptoSaid : Prop := fnExactWindowHasUptoRow.holds Try.pinned (OpenSpec.upto fnExactWindowHasSpec)

/-- 'laws.FnExactMergeAcc', WHERE WHAT IT READS IS OF BULK AT MOST 1048576: true; the input reads as it did. -/
def fnExactMergeAccUptoRow : OpenClaim := { program := "ytpfcmejcgkfjmaa", sum := "cef6bdefbcfb66097345be35be8fd092d83be7717cd39d3c5e2612c10a470d6f", func := "loop.example/eventstreams/laws.FnExactMergeAcc", spec := "fnExactMergeAcc", apart := false, narrowed := true }
def FnExactMergeAccUptoSaid : Prop := fnExactMergeAccUptoRow.holds Try.pinned (OpenSpec.upto fnExactMergeAccSpec)

/-- 'laws.FnExactAddAcc', WHERE WHAT IT READS IS OF BULK AT MOST 1048576: true; the input reads as it did. -/
def fnExactAddAccUptoRow : OpenClaim := { program := "ytpfcmejcgkfjmaa", sum := "cef6bdefbcfb66097345be35be8fd092d83be7717cd39d3c5e2612c10a470d6f", func := "loop.example/eventstreams/laws.FnExactAddAcc", spec := "fnExactAddAcc", apart := false, narrowed := true }
def FnExactAddAccUptoSaid : Prop := fnExactAddAccUptoRow.holds Try.pinned (OpenSpec.upto fnExactAddAccSpec)

/-- 'laws.FnExactAverageOf', WHERE WHAT IT READS IS OF BULK AT MOST 1048576: true; the input reads as it did. -/
def fnExactAverageOfUptoRow : OpenClaim := { program := "ytpfcmejcgkfjmaa", sum := "cef6bdefbcfb66097345be35be8fd092d83be7717cd39d3c5e2612c10a470d6f", func := "loop.example/eventstreams/laws.FnExactAverageOf", spec := "fnExactAverageOf", apart := false, narrowed := true }
def FnExactAverageOfUptoSaid : Prop := fnExactAverageOfUptoRow.holds Try.pinned (OpenSpec.upto fnExactAverageOfSpec)

/-- 'laws.FnExactCleanTime', WHERE WHAT IT READS IS OF BULK AT MOST 1048576: true; the input reads as it did. -/
def fnExactCleanTimeUptoRow : OpenClaim := { program := "ytpfcmejcgkfjmaa", sum := "cef6bdefbcfb66097345be35be8fd092d83be7717cd39d3c5e2612c10a470d6f", func := "loop.example/eventstreams/laws.FnExactCleanTime", spec := "fnExactCleanTime", apart := false, narrowed := true }
def FnExactCleanTimeUptoSaid : Prop := fnExactCleanTimeUptoRow.holds Try.pinned (OpenSpec.upto fnExactCleanTimeSpec)

/-- 'laws.FnExactTriggerEvent', WHERE WHAT IT READS IS OF BULK AT MOST 1048576: true; the input reads as it did. -/
def fnExactTriggerEventUptoRow : OpenClaim := { program := "ytpfcmejcgkfjmaa", sum := "cef6bdefbcfb66097345be35be8fd092d83be7717cd39d3c5e2612c10a470d6f", func := "loop.example/eventstreams/laws.FnExactTriggerEvent", spec := "fnExactTriggerEvent", apart := false, narrowed := true }
def FnExactTriggerEventUptoSaid : Prop := fnExactTriggerEventUptoRow.holds Try.pinned (OpenSpec.upto fnExactTriggerEventSpec)

/-- 'laws.FnExactTriggerMark', WHERE WHAT IT READS IS OF BULK AT MOST 1048576: true; the input reads as it did. -/
def fnExactTriggerMarkUptoRow : OpenClaim := { program := "ytpfcmejcgkfjmaa", sum := "cef6bdefbcfb66097345be35be8fd092d83be7717cd39d3c5e2612c10a470d6f", func := "loop.example/eventstreams/laws.FnExactTriggerMark", spec := "fnExactTriggerMark", apart := false, narrowed := true }
def FnExactTriggerMarkUptoSaid : Prop := fnExactTriggerMarkUptoRow.holds Try.pinned (OpenSpec.upto fnExactTriggerMarkSpec)

/-- 'laws.FnTumblingOf', WHERE WHAT IT READS IS OF BULK AT MOST 1048576: true; the input reads as it did. -/
def fnTumblingOfUptoRow : OpenClaim := { program := "ytpfcmejcgkfjmaa", sum := "cef6bdefbcfb66097345be35be8fd092d83be7717cd39d3c5e2612c10a470d6f", func := "loop.example/eventstreams/laws.FnTumblingOf", spec := "fnTumblingOf", apart := false, narrowed := true }
def FnTumblingOfUptoSaid : Prop := fnTumblingOfUptoRow.holds Try.pinned (OpenSpec.upto fnTumblingOfSpec)

end Rows
end Go.Proofs.Ytpfcmejcgkfjmaa
