/-
  No cell of these rows narrows 'for every input' (looked for: loops, veiled, ifaces, maps, wideKeys, modest, calm, conditions, laid).
  DERIVED. THE GIVEN ROWS OF THIS SEAT. 12 by the template 'for every input the law returns true; each argument reads behind the call as it read before'; 0 by the template 'total and deterministic' (their statements: YtjjjlpnbniofjaaTotals.lean).
  GIVEN WITH THE SEED: the statements are not yours to turn. If you find one false, say at which input.
  Laid BY PROGRAM, IN A SANDBOX (cutbox-rows.mjs): the forced cells as the released guide's own fill.sh prints them over the translation 79d221420d7d5bbd… (all of the seat's roots in one cut). By AI agents, Wed Nov 11 2026. No macro, syntax, notation, axiom, sorry.
-/
import Derived.Test.YtjjjlpnbniofjaaChecked
import GoSem.Claim
import GoSem.ClaimJoined
import GoSem.ClaimMapViews
import Derived.JoinedTies
import Derived.KernelRfl
namespace Go.Proofs.Ytjjjlpnbniofjaa
/- THE CELL 'sum', in the pinned program and in every row, IS THE sha256 OF THE DUMP (.gsa) THAT YtjjjlpnbniofjaaProg.lean LOADS. Nothing in Lean hashes anything: it is a label: what it is worth is what the hold of that sum in a sandbox is worth. -/
noncomputable def Try.pinned : Pinned := { name := "ytjjjlpnbniofjaa", sum := "79d221420d7d5bbd2c4e8585c3671724e07ef822e676bcd4e50157b454c5af90", checked := Try.checked }
namespace Rows
def none {H : Type} : Left H := { results := [], args := [] }

/-- 'laws.FnExactFileCount': WHATEVER THE INPUT: true; the input reads as it did. -/
def fnExactFileCountSpec : ChangeSpec := { name := "fnExactFileCount", fn := fun _ => fun
  | [d1, d2] => { results := [.lit (.bool true)], args := [d1, d2] }
  | _ => none }
def fnExactFileCountRow : OpenClaim := { program := "ytjjjlpnbniofjaa", sum := "79d221420d7d5bbd2c4e8585c3671724e07ef822e676bcd4e50157b454c5af90", func := "loop.example/eventstreams/laws.FnExactFileCount", spec := "fnExactFileCount", unfollowed := true, recurses := true, apart := false }
def FnExactFileCountSaid : Prop := fnExactFileCountRow.holds Try.pinned (OpenSpec.ofChange fnExactFileCountSpec)

/-- ITS FALSE NEIGHBOUR: 'it returns false'. Refute it at one input. -/
def fnExactFileCountWrong : ChangeSpec := { name := "fnExactFileCount", fn := fun _ => fun
  | [d1, d2] => { results := [.lit (.bool false)], args := [d1, d2] }
  | _ => none }
def FnExactFileCountWrongFalsely : Prop := fnExactFileCountRow.holds Try.pinned (OpenSpec.ofChange fnExactFileCountWrong)

/-- 'laws.FnExactNewFiles': WHATEVER THE INPUT: true; the input reads as it did. -/
def fnExactNewFilesSpec : ChangeSpec := { name := "fnExactNewFiles", fn := fun _ => fun
  | [d1, d2] => { results := [.lit (.bool true)], args := [d1, d2] }
  | _ => none }
def fnExactNewFilesRow : OpenClaim := { program := "ytjjjlpnbniofjaa", sum := "79d221420d7d5bbd2c4e8585c3671724e07ef822e676bcd4e50157b454c5af90", func := "loop.example/eventstreams/laws.FnExactNewFiles", spec := "fnExactNewFiles", unfollowed := true, recurses := true, apart := false }
def FnExactNewFilesSaid : Prop := fnExactNewFilesRow.holds Try.pinned (OpenSpec.ofChange fnExactNewFilesSpec)

/-- ITS FALSE NEIGHBOUR: 'it returns false'. Refute it at one input. -/
def fnExactNewFilesWrong : ChangeSpec := { name := "fnExactNewFiles", fn := fun _ => fun
  | [d1, d2] => { results := [.lit (.bool false)], args := [d1, d2] }
  | _ => none }
def FnExactNewFilesWrongFalsely : Prop := fnExactNewFilesRow.holds Try.pinned (OpenSpec.ofChange fnExactNewFilesWrong)

/-- 'laws.FnExactRegisterFiles': WHATEVER THE INPUT: true; the input reads as it did. -/
def fnExactRegisterFilesSpec : ChangeSpec := { name := "fnExactRegisterFiles", fn := fun _ => fun
  | [d1, d2] => { results := [.lit (.bool true)], args := [d1, d2] }
  | _ => none }
def fnExactRegisterFilesRow : OpenClaim := { program := "ytjjjlpnbniofjaa", sum := "79d221420d7d5bbd2c4e8585c3671724e07ef822e676bcd4e50157b454c5af90", func := "loop.example/eventstreams/laws.FnExactRegisterFiles", spec := "fnExactRegisterFiles", unfollowed := true, recurses := true, apart := false }
def FnExactRegisterFilesSaid : Prop := fnExactRegisterFilesRow.holds Try.pinned (OpenSpec.ofChange fnExactRegisterFilesSpec)

/-- ITS FALSE NEIGHBOUR: 'it returns false'. Refute it at one input. -/
def fnExactRegisterFilesWrong : ChangeSpec := { name := "fnExactRegisterFiles", fn := fun _ => fun
  | [d1, d2] => { results := [.lit (.bool false)], args := [d1, d2] }
  | _ => none }
def FnExactRegisterFilesWrongFalsely : Prop := fnExactRegisterFilesRow.holds Try.pinned (OpenSpec.ofChange fnExactRegisterFilesWrong)

/-- 'laws.FnExactReleaseFiles': WHATEVER THE INPUT: true; the input reads as it did. -/
def fnExactReleaseFilesSpec : ChangeSpec := { name := "fnExactReleaseFiles", fn := fun _ => fun
  | [d1, d2] => { results := [.lit (.bool true)], args := [d1, d2] }
  | _ => none }
def fnExactReleaseFilesRow : OpenClaim := { program := "ytjjjlpnbniofjaa", sum := "79d221420d7d5bbd2c4e8585c3671724e07ef822e676bcd4e50157b454c5af90", func := "loop.example/eventstreams/laws.FnExactReleaseFiles", spec := "fnExactReleaseFiles", unfollowed := true, recurses := true, apart := false }
def FnExactReleaseFilesSaid : Prop := fnExactReleaseFilesRow.holds Try.pinned (OpenSpec.ofChange fnExactReleaseFilesSpec)

/-- ITS FALSE NEIGHBOUR: 'it returns false'. Refute it at one input. -/
def fnExactReleaseFilesWrong : ChangeSpec := { name := "fnExactReleaseFiles", fn := fun _ => fun
  | [d1, d2] => { results := [.lit (.bool false)], args := [d1, d2] }
  | _ => none }
def FnExactReleaseFilesWrongFalsely : Prop := fnExactReleaseFilesRow.holds Try.pinned (OpenSpec.ofChange fnExactReleaseFilesWrong)

/-- 'laws.FnNewFiles': WHATEVER THE INPUT: true; the input reads as it did. -/
def fnNewFilesSpec : ChangeSpec := { name := "fnNewFiles", fn := fun _ => fun
  | [d] => { results := [.lit (.bool true)], args := [d] }
  | _ => none }
def fnNewFilesRow : OpenClaim := { program := "ytjjjlpnbniofjaa", sum := "79d221420d7d5bbd2c4e8585c3671724e07ef822e676bcd4e50157b454c5af90", func := "loop.example/eventstreams/laws.FnNewFiles", spec := "fnNewFiles", unfollowed := true, recurses := true, apart := false }
def FnNewFilesSaid : Prop := fnNewFilesRow.holds Try.pinned (OpenSpec.ofChange fnNewFilesSpec)

/-- ITS FALSE NEIGHBOUR: 'it returns false'. Refute it at one input. -/
def fnNewFilesWrong : ChangeSpec := { name := "fnNewFiles", fn := fun _ => fun
  | [d] => { results := [.lit (.bool false)], args := [d] }
  | _ => none }
def FnNewFilesWrongFalsely : Prop := fnNewFilesRow.holds Try.pinned (OpenSpec.ofChange fnNewFilesWrong)

/-- 'laws.FnReleaseFiles': WHATEVER THE INPUT: true; the input reads as it did. -/
def fnReleaseFilesSpec : ChangeSpec := { name := "fnReleaseFiles", fn := fun _ => fun
  | [d] => { results := [.lit (.bool true)], args := [d] }
  | _ => none }
def fnReleaseFilesRow : OpenClaim := { program := "ytjjjlpnbniofjaa", sum := "79d221420d7d5bbd2c4e8585c3671724e07ef822e676bcd4e50157b454c5af90", func := "loop.example/eventstreams/laws.FnReleaseFiles", spec := "fnReleaseFiles", unfollowed := true, recurses := true, apart := false }
def FnReleaseFilesSaid : Prop := fnReleaseFilesRow.holds Try.pinned (OpenSpec.ofChange fnReleaseFilesSpec)

/-- ITS FALSE NEIGHBOUR: 'it returns false'. Refute it at one input. -/
def fnReleaseFilesWrong : ChangeSpec := { name := "fnReleaseFiles", fn := fun _ => fun
  | [d] => { results := [.lit (.bool false)], args := [d] }
  | _ => none }
def FnReleaseFilesWrongFalsely : Prop := fnReleaseFilesRow.holds Try.pinned (OpenSpec.ofChange fnReleaseFilesWrong)

/-- 'laws.FnRegisterFiles': WHATEVER THE INPUT: true; the input reads as it did. -/
def fnRegisterFilesSpec : ChangeSpec := { name := "fnRegisterFiles", fn := fun _ => fun
  | [d] => { results := [.lit (.bool true)], args := [d] }
  | _ => none }
def fnRegisterFilesRow : OpenClaim := { program := "ytjjjlpnbniofjaa", sum := "79d221420d7d5bbd2c4e8585c3671724e07ef822e676bcd4e50157b454c5af90", func := "loop.example/eventstreams/laws.FnRegisterFiles", spec := "fnRegisterFiles", unfollowed := true, recurses := true, apart := false }
def FnRegisterFilesSaid : Prop := fnRegisterFilesRow.holds Try.pinned (OpenSpec.ofChange fnRegisterFilesSpec)

/-- ITS FALSE NEIGHBOUR: 'it returns false'. Refute it at one input. -/
def fnRegisterFilesWrong : ChangeSpec := { name := "fnRegisterFiles", fn := fun _ => fun
  | [d] => { results := [.lit (.bool false)], args := [d] }
  | _ => none }
def FnRegisterFilesWrongFalsely : Prop := fnRegisterFilesRow.holds Try.pinned (OpenSpec.ofChange fnRegisterFilesWrong)

/-- 'laws.FnRegisterFilesCount': WHATEVER THE INPUT: true; the input reads as it did. -/
def fnRegisterFilesCountSpec : ChangeSpec := { name := "fnRegisterFilesCount", fn := fun _ => fun
  | [d] => { results := [.lit (.bool true)], args := [d] }
  | _ => none }
def fnRegisterFilesCountRow : OpenClaim := { program := "ytjjjlpnbniofjaa", sum := "79d221420d7d5bbd2c4e8585c3671724e07ef822e676bcd4e50157b454c5af90", func := "loop.example/eventstreams/laws.FnRegisterFilesCount", spec := "fnRegisterFilesCount", unfollowed := true, recurses := true, apart := false }
def FnRegisterFilesCountSaid : Prop := fnRegisterFilesCountRow.holds Try.pinned (OpenSpec.ofChange fnRegisterFilesCountSpec)

/-- ITS FALSE NEIGHBOUR: 'it returns false'. Refute it at one input. -/
def fnRegisterFilesCountWrong : ChangeSpec := { name := "fnRegisterFilesCount", fn := fun _ => fun
  | [d] => { results := [.lit (.bool false)], args := [d] }
  | _ => none }
def FnRegisterFilesCountWrongFalsely : Prop := fnRegisterFilesCountRow.holds Try.pinned (OpenSpec.ofChange fnRegisterFilesCountWrong)

/-- 'laws.FnExactCoordinatorNew': WHATEVER THE INPUT: true; the input reads as it did. -/
def fnExactCoordinatorNewSpec : ChangeSpec := { name := "fnExactCoordinatorNew", fn := fun _ => fun
  | [d] => { results := [.lit (.bool true)], args := [d] }
  | _ => none }
def fnExactCoordinatorNewRow : OpenClaim := { program := "ytjjjlpnbniofjaa", sum := "79d221420d7d5bbd2c4e8585c3671724e07ef822e676bcd4e50157b454c5af90", func := "loop.example/eventstreams/laws.FnExactCoordinatorNew", spec := "fnExactCoordinatorNew", apart := false }
def FnExactCoordinatorNewSaid : Prop := fnExactCoordinatorNewRow.holds Try.pinned (OpenSpec.ofChange fnExactCoordinatorNewSpec)

/-- ITS FALSE NEIGHBOUR: 'it returns false'. Refute it at one input. -/
def fnExactCoordinatorNewWrong : ChangeSpec := { name := "fnExactCoordinatorNew", fn := fun _ => fun
  | [d] => { results := [.lit (.bool false)], args := [d] }
  | _ => none }
def FnExactCoordinatorNewWrongFalsely : Prop := fnExactCoordinatorNewRow.holds Try.pinned (OpenSpec.ofChange fnExactCoordinatorNewWrong)

/-- 'laws.FnCoordinatorNew': WHATEVER THE INPUT: true; the input reads as it did. -/
def fnCoordinatorNewSpec : ChangeSpec := { name := "fnCoordinatorNew", fn := fun _ => fun
  | [d] => { results := [.lit (.bool true)], args := [d] }
  | _ => none }
def fnCoordinatorNewRow : OpenClaim := { program := "ytjjjlpnbniofjaa", sum := "79d221420d7d5bbd2c4e8585c3671724e07ef822e676bcd4e50157b454c5af90", func := "loop.example/eventstreams/laws.FnCoordinatorNew", spec := "fnCoordinatorNew", unfollowed := true, recurses := true, apart := false }
def FnCoordinatorNewSaid : Prop := fnCoordinatorNewRow.holds Try.pinned (OpenSpec.ofChange fnCoordinatorNewSpec)

/-- ITS FALSE NEIGHBOUR: 'it returns false'. Refute it at one input. -/
def fnCoordinatorNewWrong : ChangeSpec := { name := "fnCoordinatorNew", fn := fun _ => fun
  | [d] => { results := [.lit (.bool false)], args := [d] }
  | _ => none }
def FnCoordinatorNewWrongFalsely : Prop := fnCoordinatorNewRow.holds Try.pinned (OpenSpec.ofChange fnCoordinatorNewWrong)

/-- 'laws.FnExactSortEvents': WHATEVER THE INPUT: true; the input reads as it did. -/
def fnExactSortEventsSpec : ChangeSpec := { name := "fnExactSortEvents", fn := fun _ => fun
  | [d] => { results := [.lit (.bool true)], args := [d] }
  | _ => none }
def fnExactSortEventsRow : OpenClaim := { program := "ytjjjlpnbniofjaa", sum := "79d221420d7d5bbd2c4e8585c3671724e07ef822e676bcd4e50157b454c5af90", func := "loop.example/eventstreams/laws.FnExactSortEvents", spec := "fnExactSortEvents", unfollowed := true, recurses := true, apart := false }
def FnExactSortEventsSaid : Prop := fnExactSortEventsRow.holds Try.pinned (OpenSpec.ofChange fnExactSortEventsSpec)

/-- ITS FALSE NEIGHBOUR: 'it returns false'. Refute it at one input. -/
def fnExactSortEventsWrong : ChangeSpec := { name := "fnExactSortEvents", fn := fun _ => fun
  | [d] => { results := [.lit (.bool false)], args := [d] }
  | _ => none }
def FnExactSortEventsWrongFalsely : Prop := fnExactSortEventsRow.holds Try.pinned (OpenSpec.ofChange fnExactSortEventsWrong)

/-- 'laws.FnExactMergeEvents': WHATEVER THE INPUT: true; the input reads as it did. -/
def fnExactMergeEventsSpec : ChangeSpec := { name := "fnExactMergeEvents", fn := fun _ => fun
  | [d1, d2] => { results := [.lit (.bool true)], args := [d1, d2] }
  | _ => none }
def fnExactMergeEventsRow : OpenClaim := { program := "ytjjjlpnbniofjaa", sum := "79d221420d7d5bbd2c4e8585c3671724e07ef822e676bcd4e50157b454c5af90", func := "loop.example/eventstreams/laws.FnExactMergeEvents", spec := "fnExactMergeEvents", unfollowed := true, recurses := true, apart := false }
def FnExactMergeEventsSaid : Prop := fnExactMergeEventsRow.holds Try.pinned (OpenSpec.ofChange fnExactMergeEventsSpec)

/-- ITS FALSE NEIGHBOUR: 'it returns false'. Refute it at one input. -/
def fnExactMergeEventsWrong : ChangeSpec := { name := "fnExactMergeEvents", fn := fun _ => fun
  | [d1, d2] => { results := [.lit (.bool false)], args := [d1, d2] }
  | _ => none }
def FnExactMergeEventsWrongFalsely : Prop := fnExactMergeEventsRow.holds Try.pinned (OpenSpec.ofChange fnExactMergeEventsWrong)

/- THE SECOND FORM. 'bulk': how many values and letters a reading holds, each counted each time it is reached (what is shared counts as often as it is met; a slice's spare places count too). A statement '..UptoSaid' is the law's where the arguments, and the package variables that the reading takes, are together of bulk at most 1048576: NARROWER than '..Said'. Prove '..Said' where nothing that the law and all that it calls make is longer than what came in: it says more and counts as full. Else prove '..UptoSaid'. A law counts once. -/
mutual
def uptoBulk {H : Type} : DataW H → Nat
  | .lit (.string bytes) => bytes.length + 1
  | .lit _ => 1
  | .nil => 1
  | .ptr d => uptoBulk d + 1
  | .slice elems spare => uptoBulkAll elems + uptoBulkAll spare + 1
  | .agg parts => uptoBulkAll parts + 1
  | .iface _ d => uptoBulk d + 1
  | .map entries => uptoBulkEntries entries + 1
  | .held _ => 1
def uptoBulkAll {H : Type} : List (DataW H) → Nat
  | [] => 0
  | d :: r => uptoBulk d + uptoBulkAll r
def uptoBulkEntries {H : Type} : List (Lit × DataW H) → Nat
  | [] => 0
  | x :: r => uptoBulkEntry x + uptoBulkEntries r
def uptoBulkEntry {H : Type} : Lit × DataW H → Nat
  | (.string bytes, d) => bytes.length + uptoBulk d + 1
  | (_, d) => uptoBulk d + 1
 end
def uptoSmall : (H : Type) → List (DataW H) → Bool := fun _ ds => decide (uptoBulkAll ds ≤ 1048576)
def OpenSpec.upto (s : _root_.Go.ChangeSpec) : _root_.Go.OpenSpec := { _root_.Go.OpenSpec.ofChange s with cond := some uptoSmall }

/-- 'laws.FnExactFileCount', WHERE WHAT IT READS IS OF BULK AT MOST 1048576: true; the input reads as it did. -/
def fnExactFileCountUptoRow : OpenClaim := { program := "ytjjjlpnbniofjaa", sum := "79d221420d7d5bbd2c4e8585c3671724e07ef822e676bcd4e50157b454c5af90", func := "loop.example/eventstreams/laws.FnExactFileCount", spec := "fnExactFileCount", unfollowed := true, recurses := true, apart := false, narrowed := true }
def FnExactFileCountUptoSaid : Prop := fnExactFileCountUptoRow.holds Try.pinned (OpenSpec.upto fnExactFileCountSpec)

/-- 'laws.FnExactNewFiles', WHERE WHAT IT READS IS OF BULK AT MOST 1048576: true; the input reads as it did. -/
def fnExactNewFilesUptoRow : OpenClaim := { program := "ytjjjlpnbniofjaa", sum := "79d221420d7d5bbd2c4e8585c3671724e07ef822e676bcd4e50157b454c5af90", func := "loop.example/eventstreams/laws.FnExactNewFiles", spec := "fnExactNewFiles", unfollowed := true, recurses := true, apart := false, narrowed := true }
def FnExactNewFilesUptoSaid : Prop := fnExactNewFilesUptoRow.holds Try.pinned (OpenSpec.upto fnExactNewFilesSpec)

/-- 'laws.FnExactRegisterFiles', WHERE WHAT IT READS IS OF BULK AT MOST 1048576: true; the input reads as it did. -/
def fnExactRegisterFilesUptoRow : OpenClaim := { program := "ytjjjlpnbniofjaa", sum := "79d221420d7d5bbd2c4e8585c3671724e07ef822e676bcd4e50157b454c5af90", func := "loop.example/eventstreams/laws.FnExactRegisterFiles", spec := "fnExactRegisterFiles", unfollowed := true, recurses := true, apart := false, narrowed := true }
def FnExactRegisterFilesUptoSaid : Prop := fnExactRegisterFilesUptoRow.holds Try.pinned (OpenSpec.upto fnExactRegisterFilesSpec)

/-- 'laws.FnExactReleaseFiles', WHERE WHAT IT READS IS OF BULK AT MOST 1048576: true; the input reads as it did. -/
def fnExactReleaseFilesUptoRow : OpenClaim := { program := "ytjjjlpnbniofjaa", sum := "79d221420d7d5bbd2c4e8585c3671724e07ef822e676bcd4e50157b454c5af90", func := "loop.example/eventstreams/laws.FnExactReleaseFiles", spec := "fnExactReleaseFiles", unfollowed := true, recurses := true, apart := false, narrowed := true }
def FnExactReleaseFilesUptoSaid : Prop := fnExactReleaseFilesUptoRow.holds Try.pinned (OpenSpec.upto fnExactReleaseFilesSpec)

/-- 'laws.FnNewFiles', WHERE WHAT IT READS IS OF BULK AT MOST 1048576: true; the input reads as it did. -/
def fnNewFilesUptoRow : OpenClaim := { program := "ytjjjlpnbniofjaa", sum := "79d221420d7d5bbd2c4e8585c3671724e07ef822e676bcd4e50157b454c5af90", func := "loop.example/eventstreams/laws.FnNewFiles", spec := "fnNewFiles", unfollowed := true, recurses := true, apart := false, narrowed := true }
def FnNewFilesUptoSaid : Prop := fnNewFilesUptoRow.holds Try.pinned (OpenSpec.upto fnNewFilesSpec)

/-- 'laws.FnReleaseFiles', WHERE WHAT IT READS IS OF BULK AT MOST 1048576: true; the input reads as it did. -/
def fnReleaseFilesUptoRow : OpenClaim := { program := "ytjjjlpnbniofjaa", sum := "79d221420d7d5bbd2c4e8585c3671724e07ef822e676bcd4e50157b454c5af90", func := "loop.example/eventstreams/laws.FnReleaseFiles", spec := "fnReleaseFiles", unfollowed := true, recurses := true, apart := false, narrowed := true }
def FnReleaseFilesUptoSaid : Prop := fnReleaseFilesUptoRow.holds Try.pinned (OpenSpec.upto fnReleaseFilesSpec)

/-- 'laws.FnRegisterFiles', WHERE WHAT IT READS IS OF BULK AT MOST 1048576: true; the input reads as it did. -/
def fnRegisterFilesUptoRow : OpenClaim := { program := "ytjjjlpnbniofjaa", sum := "79d221420d7d5bbd2c4e8585c3671724e07ef822e676bcd4e50157b454c5af90", func := "loop.example/eventstreams/laws.FnRegisterFiles", spec := "fnRegisterFiles", unfollowed := true, recurses := true, apart := false, narrowed := true }
def FnRegisterFilesUptoSaid : Prop := fnRegisterFilesUptoRow.holds Try.pinned (OpenSpec.upto fnRegisterFilesSpec)

/-- 'laws.FnRegisterFilesCount', WHERE WHAT IT READS IS OF BULK AT MOST 1048576: true; the input reads as it did. -/
def fnRegisterFilesCountUptoRow : OpenClaim := { program := "ytjjjlpnbniofjaa", sum := "79d221420d7d5bbd2c4e8585c3671724e07ef822e676bcd4e50157b454c5af90", func := "loop.example/eventstreams/laws.FnRegisterFilesCount", spec := "fnRegisterFilesCount", unfollowed := true, recurses := true, apart := false, narrowed := true }
def FnRegisterFilesCountUptoSaid : Prop := fnRegisterFilesCountUptoRow.holds Try.pinned (OpenSpec.upto fnRegisterFilesCountSpec)

/-- 'laws.FnExactCoordinatorNew', WHERE WHAT IT READS IS OF BULK AT MOST 1048576: true; the input reads as it did. -/
def fnExactCoordinatorNewUptoRow : OpenClaim := { program := "ytjjjlpnbniofjaa", sum := "79d221420d7d5bbd2c4e8585c3671724e07ef822e676bcd4e50157b454c5af90", func := "loop.example/eventstreams/laws.FnExactCoordinatorNew", spec := "fnExactCoordinatorNew", apart := false, narrowed := true }
def FnExactCoordinatorNewUptoSaid : Prop := fnExactCoordinatorNewUptoRow.holds Try.pinned (OpenSpec.upto fnExactCoordinatorNewSpec)

/-- 'laws.FnCoordinatorNew', WHERE WHAT IT READS IS OF BULK AT MOST 1048576: true; the input reads as it did. -/
def fnCoordinatorNewUptoRow : OpenClaim := { program := "ytjjjlpnbniofjaa", sum := "79d221420d7d5bbd2c4e8585c3671724e07ef822e676bcd4e50157b454c5af90", func := "loop.example/eventstreams/laws.FnCoordinatorNew", spec := "fnCoordinatorNew", unfollowed := true, recurses := true, apart := false, narrowed := true }
def FnCoordinatorNewUptoSaid : Prop := fnCoordinatorNewUptoRow.holds Try.pinned (OpenSpec.upto fnCoordinatorNewSpec)

/-- 'laws.FnExactSortEvents', WHERE WHAT IT READS IS OF BULK AT MOST 1048576: true; the input reads as it did. -/
def fnExactSortEventsUptoRow : OpenClaim := { program := "ytjjjlpnbniofjaa", sum := "79d221420d7d5bbd2c4e8585c3671724e07ef822e676bcd4e50157b454c5af90", func := "loop.example/eventstreams/laws.FnExactSortEvents", spec := "fnExactSortEvents", unfollowed := true, recurses := true, apart := false, narrowed := true }
def FnExactSortEventsUptoSaid : Prop := fnExactSortEventsUptoRow.holds Try.pinned (OpenSpec.upto fnExactSortEventsSpec)

/-- 'laws.FnExactMergeEvents', WHERE WHAT IT READS IS OF BULK AT MOST 1048576: true; the input reads as it did. -/
def fnExactMergeEventsUptoRow : OpenClaim := { program := "ytjjjlpnbniofjaa", sum := "79d221420d7d5bbd2c4e8585c3671724e07ef822e676bcd4e50157b454c5af90", func := "loop.example/eventstreams/laws.FnExactMergeEvents", spec := "fnExactMergeEvents", unfollowed := true, recurses := true, apart := false, narrowed := true }
def FnExactMergeEventsUptoSaid : Prop := fnExactMergeEventsUptoRow.holds Try.pinned (OpenSpec.upto fnExactMergeEventsSpec)

end Rows
end Go.Proofs.Ytjjjlpnbniofjaa
