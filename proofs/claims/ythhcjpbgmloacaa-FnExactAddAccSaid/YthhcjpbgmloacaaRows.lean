/-
  No cell of these rows narrows 'for every input' (looked for: loops, veiled, ifaces, maps, wideKeys, modest, calm, conditions, laid).
  DERIVED. THE GIVEN ROWS OF THIS SEAT. 4 by the template 'for every input the law returns true; each argument reads behind the call as it read before'; 0 by the template 'total and deterministic' (their statements: YthhcjpbgmloacaaTotals.lean).
  GIVEN WITH THE SEED: the statements are not yours to turn. If you find one false, say at which input.
  Laid BY PROGRAM, IN A SANDBOX (cutbox-rows.mjs): the forced cells as the released guide's own fill.sh prints them over the translation 85e2a7f3faf62839… (all of the seat's roots in one cut). By AI agents, Wed Nov 11 2026. No macro, syntax, notation, axiom, sorry.
-/
import Derived.Test.YthhcjpbgmloacaaChecked
import GoSem.Claim
import GoSem.ClaimJoined
import GoSem.ClaimMapViews
import Derived.JoinedTies
import Derived.KernelRfl
namespace Go.Proofs.Ythhcjpbgmloacaa
/- THE CELL 'sum', in the pinned program and in every row, IS THE sha256 OF THE DUMP (.gsa) THAT YthhcjpbgmloacaaProg.lean LOADS. Nothing in Lean hashes anything: it is a label: what it is worth is what the hold of that sum in a sandbox is worth. -/
noncomputable def Try.pinned : Pinned := { name := "ythhcjpbgmloacaa", sum := "85e2a7f3faf6283907d2de6784bab18452e5bbb8dbcd56ca325cdf51b8593084", checked := Try.checked }
namespace Rows
def none {H : Type} : Left H := { results := [], args := [] }

/-- 'laws.FnExactTriggerMark': WHATEVER THE INPUT: true; the input reads as it did. -/
def fnExactTriggerMarkSpec : ChangeSpec := { name := "fnExactTriggerMark", fn := fun _ => fun
  | [d1, d2, d3, d4] => { results := [.lit (.bool true)], args := [d1, d2, d3, d4] }
  | _ => none }
def fnExactTriggerMarkRow : OpenClaim := { program := "ythhcjpbgmloacaa", sum := "85e2a7f3faf6283907d2de6784bab18452e5bbb8dbcd56ca325cdf51b8593084", func := "loop.example/eventstreams/laws.FnExactTriggerMark", spec := "fnExactTriggerMark", apart := false }
def FnExactTriggerMarkSaid : Prop := fnExactTriggerMarkRow.holds Try.pinned (OpenSpec.ofChange fnExactTriggerMarkSpec)

/-- ITS FALSE NEIGHBOUR: 'it returns false'. Refute it at one input. -/
def fnExactTriggerMarkWrong : ChangeSpec := { name := "fnExactTriggerMark", fn := fun _ => fun
  | [d1, d2, d3, d4] => { results := [.lit (.bool false)], args := [d1, d2, d3, d4] }
  | _ => none }
def FnExactTriggerMarkWrongFalsely : Prop := fnExactTriggerMarkRow.holds Try.pinned (OpenSpec.ofChange fnExactTriggerMarkWrong)

/-- 'laws.FnTriggerMark': WHATEVER THE INPUT: true; the input reads as it did. -/
def fnTriggerMarkSpec : ChangeSpec := { name := "fnTriggerMark", fn := fun _ => fun
  | [d] => { results := [.lit (.bool true)], args := [d] }
  | _ => none }
def fnTriggerMarkRow : OpenClaim := { program := "ythhcjpbgmloacaa", sum := "85e2a7f3faf6283907d2de6784bab18452e5bbb8dbcd56ca325cdf51b8593084", func := "loop.example/eventstreams/laws.FnTriggerMark", spec := "fnTriggerMark", apart := false }
def FnTriggerMarkSaid : Prop := fnTriggerMarkRow.holds Try.pinned (OpenSpec.ofChange fnTriggerMarkSpec)

/-- ITS FALSE NEIGHBOUR: 'it returns false'. Refute it at one input. -/
def fnTriggerMarkWrong : ChangeSpec := { name := "fnTriggerMark", fn := fun _ => fun
  | [d] => { results := [.lit (.bool false)], args := [d] }
  | _ => none }
def FnTriggerMarkWrongFalsely : Prop := fnTriggerMarkRow.holds Try.pinned (OpenSpec.ofChange fnTriggerMarkWrong)

/-- 'laws.FnExactMergeAcc': WHATEVER THE INPUT: true; the input reads as it did. -/
def fnExactMergeAccSpec : ChangeSpec := { name := "fnExactMergeAcc", fn := fun _ => fun
  | [d1, d2] => { results := [.lit (.bool true)], args := [d1, d2] }
  | _ => none }
def fnExactMergeAccRow : OpenClaim := { program := "ythhcjpbgmloacaa", sum := "85e2a7f3faf6283907d2de6784bab18452e5bbb8dbcd56ca325cdf51b8593084", func := "loop.example/eventstreams/laws.FnExactMergeAcc", spec := "fnExactMergeAcc", apart := false }
def FnExactMergeAccSaid : Prop := fnExactMergeAccRow.holds Try.pinned (OpenSpec.ofChange fnExactMergeAccSpec)

/-- ITS FALSE NEIGHBOUR: 'it returns false'. Refute it at one input. -/
def fnExactMergeAccWrong : ChangeSpec := { name := "fnExactMergeAcc", fn := fun _ => fun
  | [d1, d2] => { results := [.lit (.bool false)], args := [d1, d2] }
  | _ => none }
def FnExactMergeAccWrongFalsely : Prop := fnExactMergeAccRow.holds Try.pinned (OpenSpec.ofChange fnExactMergeAccWrong)

/-- 'laws.FnExactAddAcc': WHATEVER THE INPUT: true; the input reads as it did. -/
def fnExactAddAccSpec : ChangeSpec := { name := "fnExactAddAcc", fn := fun _ => fun
  | [d1, d2] => { results := [.lit (.bool true)], args := [d1, d2] }
  | _ => none }
def fnExactAddAccRow : OpenClaim := { program := "ythhcjpbgmloacaa", sum := "85e2a7f3faf6283907d2de6784bab18452e5bbb8dbcd56ca325cdf51b8593084", func := "loop.example/eventstreams/laws.FnExactAddAcc", spec := "fnExactAddAcc", apart := false }
def FnExactAddAccSaid : Prop := fnExactAddAccRow.holds Try.pinned (OpenSpec.ofChange fnExactAddAccSpec)

/-- ITS FALSE NEIGHBOUR: 'it returns false'. Refute it at one input. -/
def fnExactAddAccWrong : ChangeSpec := { name := "fnExactAddAcc", fn := fun _ => fun
  | [d1, d2] => { results := [.lit (.bool false)], args := [d1, d2] }
  | _ => none }
def FnExactAddAccWrongFalsely : Prop := fnExactAddAccRow.holds Try.pinned (OpenSpec.ofChange fnExactAddAccWrong)

/- THE SECOND FORM. 'bulk': how many values and letters a reading holds, each counted each time it is reached (what is shared counts as often as it is met; a slice's spare places count too). A statement '..UptoSaid' is the law's where the arguments, and the package variables that the reading takes, are together of bulk at most 1048576: NARROWER than '..Said'. Prove '..Said' where nothing that the law and all that it calls make is longer than what came in: it says more and counts as full. Else prove '..UptoSaid'. A law counts once. -/
mutual
def uptoBulk {H : Type} : DataW H → Nat
  | .lit (.string bytes) => bytes.length + 1
  | .lit _ => 1
  | .nil => 1
  | .ptr d => uptoBulk d + 1
  | .slice elems spare => uptoBulkAll elems + uptoBulkAll spare + 1
  | .agg parts => uptoBulkAll parts + 1
  | .iface _ d => uptoBulk d + 1
  | .map entries => uptoBulkEntries entries + 1
  | .held _ => 1
def uptoBulkAll {H : Type} : List (DataW H) → Nat
  | [] => 0
  | d :: r => uptoBulk d + uptoBulkAll r
def uptoBulkEntries {H : Type} : List (Lit × DataW H) → Nat
  | [] => 0
  | x :: r => uptoBulkEntry x + uptoBulkEntries r
def uptoBulkEntry {H : Type} : Lit × DataW H → Nat
  | (.string bytes, d) => bytes.length + uptoBulk d + 1
  | (_, d) => uptoBulk d + 1
 end
def uptoSmall : (H : Type) → List (DataW H) → Bool := fun _ ds => decide (uptoBulkAll ds ≤ 1048576)
def OpenSpec.upto (s : _root_.Go.ChangeSpec) : _root_.Go.OpenSpec := { _root_.Go.OpenSpec.ofChange s with cond := some uptoSmall }

/-- 'laws.FnExactTriggerMark', WHERE WHAT IT READS IS OF BULK AT MOST 1048576: true; the input reads as it did. -/
def fnExactTriggerMarkUptoRow : OpenClaim := { program := "ythhcjpbgmloacaa", sum := "85e2a7f3faf6283907d2de6784bab18452e5bbb8dbcd56ca325cdf51b8593084", func := "loop.example/eventstreams/laws.FnExactTriggerMark", spec := "fnExactTriggerMark", apart := false, narrowed := true }
def FnExactTriggerMarkUptoSaid : Prop := fnExactTriggerMarkUptoRow.holds Try.pinned (OpenSpec.upto fnExactTriggerMarkSpec)

/-- 'laws.FnTriggerMark', WHERE WHAT IT READS IS OF BULK AT MOST 1048576: true; the input reads as it did. -/
def fnTriggerMarkUptoRow : OpenClaim := { program := "ythhcjpbgmloacaa", sum := "85e2a7f3faf6283907d2de6784bab18452e5bbb8dbcd56ca325cdf51b8593084", func := "loop.example/eventstreams/laws.FnTriggerMark", spec := "fnTriggerMark", apart := false, narrowed := true }
def FnTriggerMarkUptoSaid : Prop := fnTriggerMarkUptoRow.holds Try.pinned (OpenSpec.upto fnTriggerMarkSpec)

/-- 'laws.FnExactMergeAcc', WHERE WHAT IT READS IS OF BULK AT MOST 1048576: true; the input reads as it did. -/
def fnExactMergeAccUptoRow : OpenClaim := { program := "ythhcjpbgmloacaa", sum := "85e2a7f3faf6283907d2de6784bab18452e5bbb8dbcd56ca325cdf51b8593084", func := "loop.example/eventstreams/laws.FnExactMergeAcc", spec := "fnExactMergeAcc", apart := false, narrowed := true }
def FnExactMergeAccUptoSaid : Prop := fnExactMergeAccUptoRow.holds Try.pinned (OpenSpec.upto fnExactMergeAccSpec)

/-- 'laws.FnExactAddAcc', WHERE WHAT IT READS IS OF BULK AT MOST 1048576: true; the input reads as it did. -/
def fnExactAddAccUptoRow : OpenClaim := { program := "ythhcjpbgmloacaa", sum := "85e2a7f3faf6283907d2de6784bab18452e5bbb8dbcd56ca325cdf51b8593084", func := "loop.example/eventstreams/laws.FnExactAddAcc", spec := "fnExactAddAcc", apart := false, narrowed := true }
def FnExactAddAccUptoSaid : Prop := fnExactAddAccUptoRow.holds Try.pinned (OpenSpec.upto fnExactAddAccSpec)

end Rows
end Go.Proofs.Ythhcjpbgmloacaa
