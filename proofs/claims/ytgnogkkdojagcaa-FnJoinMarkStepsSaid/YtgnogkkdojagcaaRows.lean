/-
  No cell of these rows narrows 'for every input' (looked for: loops, veiled, ifaces, maps, wideKeys, modest, calm, conditions, laid).
  DERIVED. THE GIVEN ROWS OF THIS SEAT. 4 by the template 'for every input the law returns true; each argument reads behind the call as it read before'; 0 by the template 'total and deterministic' (their statements: YtgnogkkdojagcaaTotals.lean).
  GIVEN WITH THE SEED: the statements are not yours to turn. If you find one false, say at which input.
  Laid BY PROGRAM, IN A SANDBOX (cutbox-rows.mjs): the forced cells as the released guide's own fill.sh prints them over the translation 08a34249a72bd40c… (all of the seat's roots in one cut). By AI agents, Wed Nov 11 2026. No macro, syntax, notation, axiom, sorry.
-/
import Derived.Test.YtgnogkkdojagcaaChecked
import GoSem.Claim
import GoSem.ClaimJoined
import GoSem.ClaimMapViews
import Derived.JoinedTies
import Derived.KernelRfl
namespace Go.Proofs.Ytgnogkkdojagcaa
/- THE CELL 'sum', in the pinned program and in every row, IS THE sha256 OF THE DUMP (.gsa) THAT YtgnogkkdojagcaaProg.lean LOADS. Nothing in Lean hashes anything: it is a label: what it is worth is what the hold of that sum in a sandbox is worth. -/
noncomputable def Try.pinned : Pinned := { name := "ytgnogkkdojagcaa", sum := "08a34249a72bd40c0761165ff2f6f65e5d011d654989057b7b65ed337d1f2623", checked := Try.checked }
namespace Rows
def none {H : Type} : Left H := { results := [], args := [] }

/-- 'laws.FnClosedWindows': WHATEVER THE INPUT: true; the input reads as it did. -/
def fnClosedWindowsSpec : ChangeSpec := { name := "fnClosedWindows", fn := fun _ => fun
  | [d] => { results := [.lit (.bool true)], args := [d] }
  | _ => none }
def fnClosedWindowsRow : OpenClaim := { program := "ytgnogkkdojagcaa", sum := "08a34249a72bd40c0761165ff2f6f65e5d011d654989057b7b65ed337d1f2623", func := "loop.example/eventstreams/laws.FnClosedWindows", spec := "fnClosedWindows", unfollowed := true, recurses := true, apart := false }
def FnClosedWindowsSaid : Prop := fnClosedWindowsRow.holds Try.pinned (OpenSpec.ofChange fnClosedWindowsSpec)

/-- ITS FALSE NEIGHBOUR: 'it returns false'. Refute it at one input. -/
def fnClosedWindowsWrong : ChangeSpec := { name := "fnClosedWindows", fn := fun _ => fun
  | [d] => { results := [.lit (.bool false)], args := [d] }
  | _ => none }
def FnClosedWindowsWrongFalsely : Prop := fnClosedWindowsRow.holds Try.pinned (OpenSpec.ofChange fnClosedWindowsWrong)

/-- 'laws.FnIntervalJoin': WHATEVER THE INPUT: true; the input reads as it did. -/
def fnIntervalJoinSpec : ChangeSpec := { name := "fnIntervalJoin", fn := fun _ => fun
  | [d] => { results := [.lit (.bool true)], args := [d] }
  | _ => none }
def fnIntervalJoinRow : OpenClaim := { program := "ytgnogkkdojagcaa", sum := "08a34249a72bd40c0761165ff2f6f65e5d011d654989057b7b65ed337d1f2623", func := "loop.example/eventstreams/laws.FnIntervalJoin", spec := "fnIntervalJoin", unfollowed := true, recurses := true, apart := false }
def FnIntervalJoinSaid : Prop := fnIntervalJoinRow.holds Try.pinned (OpenSpec.ofChange fnIntervalJoinSpec)

/-- ITS FALSE NEIGHBOUR: 'it returns false'. Refute it at one input. -/
def fnIntervalJoinWrong : ChangeSpec := { name := "fnIntervalJoin", fn := fun _ => fun
  | [d] => { results := [.lit (.bool false)], args := [d] }
  | _ => none }
def FnIntervalJoinWrongFalsely : Prop := fnIntervalJoinRow.holds Try.pinned (OpenSpec.ofChange fnIntervalJoinWrong)

/-- 'laws.FnIntervalJoinRange': WHATEVER THE INPUT: true; the input reads as it did. -/
def fnIntervalJoinRangeSpec : ChangeSpec := { name := "fnIntervalJoinRange", fn := fun _ => fun
  | [d] => { results := [.lit (.bool true)], args := [d] }
  | _ => none }
def fnIntervalJoinRangeRow : OpenClaim := { program := "ytgnogkkdojagcaa", sum := "08a34249a72bd40c0761165ff2f6f65e5d011d654989057b7b65ed337d1f2623", func := "loop.example/eventstreams/laws.FnIntervalJoinRange", spec := "fnIntervalJoinRange", unfollowed := true, recurses := true, apart := false }
def FnIntervalJoinRangeSaid : Prop := fnIntervalJoinRangeRow.holds Try.pinned (OpenSpec.ofChange fnIntervalJoinRangeSpec)

/-- ITS FALSE NEIGHBOUR: 'it returns false'. Refute it at one input. -/
def fnIntervalJoinRangeWrong : ChangeSpec := { name := "fnIntervalJoinRange", fn := fun _ => fun
  | [d] => { results := [.lit (.bool false)], args := [d] }
  | _ => none }
def FnIntervalJoinRangeWrongFalsely : Prop := fnIntervalJoinRangeRow.holds Try.pinned (OpenSpec.ofChange fnIntervalJoinRangeWrong)

/-- 'laws.FnJoinMarkSteps': WHATEVER THE INPUT: true; the input reads as it did. -/
def fnJoinMarkStepsSpec : ChangeSpec := { name := "fnJoinMarkSteps", fn := fun _ => fun
  | [d] => { results := [.lit (.bool true)], args := [d] }
  | _ => none }
def fnJoinMarkStepsRow : OpenClaim := { program := "ytgnogkkdojagcaa", sum := "08a34249a72bd40c0761165ff2f6f65e5d011d654989057b7b65ed337d1f2623", func := "loop.example/eventstreams/laws.FnJoinMarkSteps", spec := "fnJoinMarkSteps", unfollowed := true, recurses := true, apart := false }
def FnJoinMarkStepsSaid : Prop := fnJoinMarkStepsRow.holds Try.pinned (OpenSpec.ofChange fnJoinMarkStepsSpec)

/-- ITS FALSE NEIGHBOUR: 'it returns false'. Refute it at one input. -/
def fnJoinMarkStepsWrong : ChangeSpec := { name := "fnJoinMarkSteps", fn := fun _ => fun
  | [d] => { results := [.lit (.bool false)], args := [d] }
  | _ => none }
def FnJoinMarkStepsWrongFalsely : Prop := fnJoinMarkStepsRow.holds Try.pinned (OpenSpec.ofChange fnJoinMarkStepsWrong)

/- THE SECOND FORM. 'bulk': how many values and letters a reading holds, each counted each time it is reached (what is shared counts as often as it is met; a slice's spare places count too). A statement '..UptoSaid' is the law's where the arguments, and the package variables that the reading takes, are together of bulk at most 1048576: NARROWER than '..Said'. Prove '..Said' where nothing that the law and all that it calls make is longer than what came in: it says more and counts as full. Else prove '..UptoSaid'. A law counts once. -/
mutual
def uptoBulk {H : Type} : DataW H → Nat
  | .lit (.string bytes) => bytes.length + 1
  | .lit _ => 1
  | .nil => 1
  | .ptr d => uptoBulk d + 1
  | .slice elems spare => uptoBulkAll elems + uptoBulkAll spare + 1
  | .agg parts => uptoBulkAll parts + 1
  | .iface _ d => uptoBulk d + 1
  | .map entries => uptoBulkEntries entries + 1
  | .held _ => 1
def uptoBulkAll {H : Type} : List (DataW H) → Nat
  | [] => 0
  | d :: r => uptoBulk d + uptoBulkAll r
def uptoBulkEntries {H : Type} : List (Lit × DataW H) → Nat
  | [] => 0
  | x :: r => uptoBulkEntry x + uptoBulkEntries r
def uptoBulkEntry {H : Type} : Lit × DataW H → Nat
  | (.string bytes, d) => bytes.length + uptoBulk d + 1
  | (_, d) => uptoBulk d + 1
 end
def uptoSmall : (H : Type) → List (DataW H) → Bool := fun _ ds => decide (uptoBulkAll ds ≤ 1048576)
def OpenSpec.upto (s : _root_.Go.ChangeSpec) : _root_.Go.OpenSpec := { _root_.Go.OpenSpec.ofChange s with cond := some uptoSmall }

/-- 'laws.FnClosedWindows', WHERE WHAT IT READS IS OF BULK AT MOST 1048576: true; the input reads as it did. -/
def fnClosedWindowsUptoRow : OpenClaim := { program := "ytgnogkkdojagcaa", sum := "08a34249a72bd40c0761165ff2f6f65e5d011d654989057b7b65ed337d1f2623", func := "loop.example/eventstreams/laws.FnClosedWindows", spec := "fnClosedWindows", unfollowed := true, recurses := true, apart := false, narrowed := true }
def FnClosedWindowsUptoSaid : Prop := fnClosedWindowsUptoRow.holds Try.pinned (OpenSpec.upto fnClosedWindowsSpec)

/-- 'laws.FnIntervalJoin', WHERE WHAT IT READS IS OF BULK AT MOST 1048576: true; the input reads as it did. -/
def fnIntervalJoinUptoRow : OpenClaim := { program := "ytgnogkkdojagcaa", sum := "08a34249a72bd40c0761165ff2f6f65e5d011d654989057b7b65ed337d1f2623", func := "loop.example/eventstreams/laws.FnIntervalJoin", spec := "fnIntervalJoin", unfollowed := true, recurses := true, apart := false, narrowed := true }
def FnIntervalJoinUptoSaid : Prop := fnIntervalJoinUptoRow.holds Try.pinned (OpenSpec.upto fnIntervalJoinSpec)

/-- 'laws.FnIntervalJoinRange', WHERE WHAT IT READS IS OF BULK AT MOST 1048576: true; the input reads as it did. -/
def fnIntervalJoinRangeUptoRow : OpenClaim := { program := "ytgnogkkdojagcaa", sum := "08a34249a72bd40c0761165ff2f6f65e5d011d654989057b7b65ed337d1f2623", func := "loop.example/eventstreams/laws.FnIntervalJoinRange", spec := "fnIntervalJoinRange", unfollowed := true, recurses := true, apart := false, narrowed := true }
def FnIntervalJoinRangeUptoSaid : Prop := fnIntervalJoinRangeUptoRow.holds Try.pinned (OpenSpec.upto fnIntervalJoinRangeSpec)

/-- 'laws.FnJoinMarkSteps', WHERE WHAT IT READS IS OF BULK AT MOST 1048576: true; the input reads as it did. -/
def fnJoinMarkStepsUptoRow : OpenClaim := { program := "ytgnogkkdojagcaa", sum := "08a34249a72bd40c0761165ff2f6f65e5d011d654989057b7b65ed337d1f2623", func := "loop.example/eventstreams/laws.FnJoinMarkSteps", spec := "fnJoinMarkSteps", unfollowed := true, recurses := true, apart := false, narrowed := true }
def FnJoinMarkStepsUptoSaid : Prop := fnJoinMarkStepsUptoRow.holds Try.pinned (OpenSpec.upto fnJoinMarkStepsSpec)

end Rows
end Go.Proofs.Ytgnogkkdojagcaa
