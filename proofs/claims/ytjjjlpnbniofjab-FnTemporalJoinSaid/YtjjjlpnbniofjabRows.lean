/-
  No cell of these rows narrows 'for every input' (looked for: loops, veiled, ifaces, maps, wideKeys, modest, calm, conditions, laid).
  DERIVED. THE GIVEN ROWS OF THIS SEAT. 12 by the template 'for every input the law returns true; each argument reads behind the call as it read before'; 0 by the template 'total and deterministic' (their statements: YtjjjlpnbniofjabTotals.lean).
  GIVEN WITH THE SEED: the statements are not yours to turn. If you find one false, say at which input.
  Laid BY PROGRAM, IN A SANDBOX (cutbox-rows.mjs): the forced cells as the released guide's own fill.sh prints them over the translation 2988af1cffa25f0e… (all of the seat's roots in one cut). By AI agents, Wed Nov 11 2026. No macro, syntax, notation, axiom, sorry.
-/
import Derived.Test.YtjjjlpnbniofjabChecked
import GoSem.Claim
import GoSem.ClaimJoined
import GoSem.ClaimMapViews
import Derived.JoinedTies
import Derived.KernelRfl
namespace Go.Proofs.Ytjjjlpnbniofjab
/- THE CELL 'sum', in the pinned program and in every row, IS THE sha256 OF THE DUMP (.gsa) THAT YtjjjlpnbniofjabProg.lean LOADS. Nothing in Lean hashes anything: it is a label: what it is worth is what the hold of that sum in a sandbox is worth. -/
noncomputable def Try.pinned : Pinned := { name := "ytjjjlpnbniofjab", sum := "2988af1cffa25f0ea520a3f7da6917be0643fab088dc0921fd05aa5e4629e742", checked := Try.checked }
namespace Rows
def none {H : Type} : Left H := { results := [], args := [] }

/-- 'laws.FnAddTimer': WHATEVER THE INPUT: true; the input reads as it did. -/
def fnAddTimerSpec : ChangeSpec := { name := "fnAddTimer", fn := fun _ => fun
  | [d] => { results := [.lit (.bool true)], args := [d] }
  | _ => none }
def fnAddTimerRow : OpenClaim := { program := "ytjjjlpnbniofjab", sum := "2988af1cffa25f0ea520a3f7da6917be0643fab088dc0921fd05aa5e4629e742", func := "loop.example/eventstreams/laws.FnAddTimer", spec := "fnAddTimer", unfollowed := true, recurses := true, apart := false }
def FnAddTimerSaid : Prop := fnAddTimerRow.holds Try.pinned (OpenSpec.ofChange fnAddTimerSpec)

/-- ITS FALSE NEIGHBOUR: 'it returns false'. Refute it at one input. -/
def fnAddTimerWrong : ChangeSpec := { name := "fnAddTimer", fn := fun _ => fun
  | [d] => { results := [.lit (.bool false)], args := [d] }
  | _ => none }
def FnAddTimerWrongFalsely : Prop := fnAddTimerRow.holds Try.pinned (OpenSpec.ofChange fnAddTimerWrong)

/-- 'laws.FnAddRemoveTimer': WHATEVER THE INPUT: true; the input reads as it did. -/
def fnAddRemoveTimerSpec : ChangeSpec := { name := "fnAddRemoveTimer", fn := fun _ => fun
  | [d] => { results := [.lit (.bool true)], args := [d] }
  | _ => none }
def fnAddRemoveTimerRow : OpenClaim := { program := "ytjjjlpnbniofjab", sum := "2988af1cffa25f0ea520a3f7da6917be0643fab088dc0921fd05aa5e4629e742", func := "loop.example/eventstreams/laws.FnAddRemoveTimer", spec := "fnAddRemoveTimer", unfollowed := true, recurses := true, apart := false }
def FnAddRemoveTimerSaid : Prop := fnAddRemoveTimerRow.holds Try.pinned (OpenSpec.ofChange fnAddRemoveTimerSpec)

/-- ITS FALSE NEIGHBOUR: 'it returns false'. Refute it at one input. -/
def fnAddRemoveTimerWrong : ChangeSpec := { name := "fnAddRemoveTimer", fn := fun _ => fun
  | [d] => { results := [.lit (.bool false)], args := [d] }
  | _ => none }
def FnAddRemoveTimerWrongFalsely : Prop := fnAddRemoveTimerRow.holds Try.pinned (OpenSpec.ofChange fnAddRemoveTimerWrong)

/-- 'laws.FnRemoveTimer': WHATEVER THE INPUT: true; the input reads as it did. -/
def fnRemoveTimerSpec : ChangeSpec := { name := "fnRemoveTimer", fn := fun _ => fun
  | [d] => { results := [.lit (.bool true)], args := [d] }
  | _ => none }
def fnRemoveTimerRow : OpenClaim := { program := "ytjjjlpnbniofjab", sum := "2988af1cffa25f0ea520a3f7da6917be0643fab088dc0921fd05aa5e4629e742", func := "loop.example/eventstreams/laws.FnRemoveTimer", spec := "fnRemoveTimer", unfollowed := true, recurses := true, apart := false }
def FnRemoveTimerSaid : Prop := fnRemoveTimerRow.holds Try.pinned (OpenSpec.ofChange fnRemoveTimerSpec)

/-- ITS FALSE NEIGHBOUR: 'it returns false'. Refute it at one input. -/
def fnRemoveTimerWrong : ChangeSpec := { name := "fnRemoveTimer", fn := fun _ => fun
  | [d] => { results := [.lit (.bool false)], args := [d] }
  | _ => none }
def FnRemoveTimerWrongFalsely : Prop := fnRemoveTimerRow.holds Try.pinned (OpenSpec.ofChange fnRemoveTimerWrong)

/-- 'laws.FnFireTimers': WHATEVER THE INPUT: true; the input reads as it did. -/
def fnFireTimersSpec : ChangeSpec := { name := "fnFireTimers", fn := fun _ => fun
  | [d] => { results := [.lit (.bool true)], args := [d] }
  | _ => none }
def fnFireTimersRow : OpenClaim := { program := "ytjjjlpnbniofjab", sum := "2988af1cffa25f0ea520a3f7da6917be0643fab088dc0921fd05aa5e4629e742", func := "loop.example/eventstreams/laws.FnFireTimers", spec := "fnFireTimers", unfollowed := true, recurses := true, apart := false }
def FnFireTimersSaid : Prop := fnFireTimersRow.holds Try.pinned (OpenSpec.ofChange fnFireTimersSpec)

/-- ITS FALSE NEIGHBOUR: 'it returns false'. Refute it at one input. -/
def fnFireTimersWrong : ChangeSpec := { name := "fnFireTimers", fn := fun _ => fun
  | [d] => { results := [.lit (.bool false)], args := [d] }
  | _ => none }
def FnFireTimersWrongFalsely : Prop := fnFireTimersRow.holds Try.pinned (OpenSpec.ofChange fnFireTimersWrong)

/-- 'laws.FnNextTimer': WHATEVER THE INPUT: true; the input reads as it did. -/
def fnNextTimerSpec : ChangeSpec := { name := "fnNextTimer", fn := fun _ => fun
  | [d] => { results := [.lit (.bool true)], args := [d] }
  | _ => none }
def fnNextTimerRow : OpenClaim := { program := "ytjjjlpnbniofjab", sum := "2988af1cffa25f0ea520a3f7da6917be0643fab088dc0921fd05aa5e4629e742", func := "loop.example/eventstreams/laws.FnNextTimer", spec := "fnNextTimer", unfollowed := true, recurses := true, apart := false }
def FnNextTimerSaid : Prop := fnNextTimerRow.holds Try.pinned (OpenSpec.ofChange fnNextTimerSpec)

/-- ITS FALSE NEIGHBOUR: 'it returns false'. Refute it at one input. -/
def fnNextTimerWrong : ChangeSpec := { name := "fnNextTimer", fn := fun _ => fun
  | [d] => { results := [.lit (.bool false)], args := [d] }
  | _ => none }
def FnNextTimerWrongFalsely : Prop := fnNextTimerRow.holds Try.pinned (OpenSpec.ofChange fnNextTimerWrong)

/-- 'laws.FnPutVersion': WHATEVER THE INPUT: true; the input reads as it did. -/
def fnPutVersionSpec : ChangeSpec := { name := "fnPutVersion", fn := fun _ => fun
  | [d] => { results := [.lit (.bool true)], args := [d] }
  | _ => none }
def fnPutVersionRow : OpenClaim := { program := "ytjjjlpnbniofjab", sum := "2988af1cffa25f0ea520a3f7da6917be0643fab088dc0921fd05aa5e4629e742", func := "loop.example/eventstreams/laws.FnPutVersion", spec := "fnPutVersion", unfollowed := true, recurses := true, apart := false }
def FnPutVersionSaid : Prop := fnPutVersionRow.holds Try.pinned (OpenSpec.ofChange fnPutVersionSpec)

/-- ITS FALSE NEIGHBOUR: 'it returns false'. Refute it at one input. -/
def fnPutVersionWrong : ChangeSpec := { name := "fnPutVersion", fn := fun _ => fun
  | [d] => { results := [.lit (.bool false)], args := [d] }
  | _ => none }
def FnPutVersionWrongFalsely : Prop := fnPutVersionRow.holds Try.pinned (OpenSpec.ofChange fnPutVersionWrong)

/-- 'laws.FnPutVersionKeys': WHATEVER THE INPUT: true; the input reads as it did. -/
def fnPutVersionKeysSpec : ChangeSpec := { name := "fnPutVersionKeys", fn := fun _ => fun
  | [d] => { results := [.lit (.bool true)], args := [d] }
  | _ => none }
def fnPutVersionKeysRow : OpenClaim := { program := "ytjjjlpnbniofjab", sum := "2988af1cffa25f0ea520a3f7da6917be0643fab088dc0921fd05aa5e4629e742", func := "loop.example/eventstreams/laws.FnPutVersionKeys", spec := "fnPutVersionKeys", unfollowed := true, recurses := true, apart := false }
def FnPutVersionKeysSaid : Prop := fnPutVersionKeysRow.holds Try.pinned (OpenSpec.ofChange fnPutVersionKeysSpec)

/-- ITS FALSE NEIGHBOUR: 'it returns false'. Refute it at one input. -/
def fnPutVersionKeysWrong : ChangeSpec := { name := "fnPutVersionKeys", fn := fun _ => fun
  | [d] => { results := [.lit (.bool false)], args := [d] }
  | _ => none }
def FnPutVersionKeysWrongFalsely : Prop := fnPutVersionKeysRow.holds Try.pinned (OpenSpec.ofChange fnPutVersionKeysWrong)

/-- 'laws.FnVersionAt': WHATEVER THE INPUT: true; the input reads as it did. -/
def fnVersionAtSpec : ChangeSpec := { name := "fnVersionAt", fn := fun _ => fun
  | [d] => { results := [.lit (.bool true)], args := [d] }
  | _ => none }
def fnVersionAtRow : OpenClaim := { program := "ytjjjlpnbniofjab", sum := "2988af1cffa25f0ea520a3f7da6917be0643fab088dc0921fd05aa5e4629e742", func := "loop.example/eventstreams/laws.FnVersionAt", spec := "fnVersionAt", unfollowed := true, recurses := true, apart := false }
def FnVersionAtSaid : Prop := fnVersionAtRow.holds Try.pinned (OpenSpec.ofChange fnVersionAtSpec)

/-- ITS FALSE NEIGHBOUR: 'it returns false'. Refute it at one input. -/
def fnVersionAtWrong : ChangeSpec := { name := "fnVersionAt", fn := fun _ => fun
  | [d] => { results := [.lit (.bool false)], args := [d] }
  | _ => none }
def FnVersionAtWrongFalsely : Prop := fnVersionAtRow.holds Try.pinned (OpenSpec.ofChange fnVersionAtWrong)

/-- 'laws.FnTemporalJoin': WHATEVER THE INPUT: true; the input reads as it did. -/
def fnTemporalJoinSpec : ChangeSpec := { name := "fnTemporalJoin", fn := fun _ => fun
  | [d] => { results := [.lit (.bool true)], args := [d] }
  | _ => none }
def fnTemporalJoinRow : OpenClaim := { program := "ytjjjlpnbniofjab", sum := "2988af1cffa25f0ea520a3f7da6917be0643fab088dc0921fd05aa5e4629e742", func := "loop.example/eventstreams/laws.FnTemporalJoin", spec := "fnTemporalJoin", unfollowed := true, recurses := true, apart := false }
def FnTemporalJoinSaid : Prop := fnTemporalJoinRow.holds Try.pinned (OpenSpec.ofChange fnTemporalJoinSpec)

/-- ITS FALSE NEIGHBOUR: 'it returns false'. Refute it at one input. -/
def fnTemporalJoinWrong : ChangeSpec := { name := "fnTemporalJoin", fn := fun _ => fun
  | [d] => { results := [.lit (.bool false)], args := [d] }
  | _ => none }
def FnTemporalJoinWrongFalsely : Prop := fnTemporalJoinRow.holds Try.pinned (OpenSpec.ofChange fnTemporalJoinWrong)

/-- 'laws.FnPurgeVersions': WHATEVER THE INPUT: true; the input reads as it did. -/
def fnPurgeVersionsSpec : ChangeSpec := { name := "fnPurgeVersions", fn := fun _ => fun
  | [d] => { results := [.lit (.bool true)], args := [d] }
  | _ => none }
def fnPurgeVersionsRow : OpenClaim := { program := "ytjjjlpnbniofjab", sum := "2988af1cffa25f0ea520a3f7da6917be0643fab088dc0921fd05aa5e4629e742", func := "loop.example/eventstreams/laws.FnPurgeVersions", spec := "fnPurgeVersions", unfollowed := true, recurses := true, apart := false }
def FnPurgeVersionsSaid : Prop := fnPurgeVersionsRow.holds Try.pinned (OpenSpec.ofChange fnPurgeVersionsSpec)

/-- ITS FALSE NEIGHBOUR: 'it returns false'. Refute it at one input. -/
def fnPurgeVersionsWrong : ChangeSpec := { name := "fnPurgeVersions", fn := fun _ => fun
  | [d] => { results := [.lit (.bool false)], args := [d] }
  | _ => none }
def FnPurgeVersionsWrongFalsely : Prop := fnPurgeVersionsRow.holds Try.pinned (OpenSpec.ofChange fnPurgeVersionsWrong)

/-- 'laws.FnFilterEvents': WHATEVER THE INPUT: true; the input reads as it did. -/
def fnFilterEventsSpec : ChangeSpec := { name := "fnFilterEvents", fn := fun _ => fun
  | [d] => { results := [.lit (.bool true)], args := [d] }
  | _ => none }
def fnFilterEventsRow : OpenClaim := { program := "ytjjjlpnbniofjab", sum := "2988af1cffa25f0ea520a3f7da6917be0643fab088dc0921fd05aa5e4629e742", func := "loop.example/eventstreams/laws.FnFilterEvents", spec := "fnFilterEvents", unfollowed := true, recurses := true, apart := false }
def FnFilterEventsSaid : Prop := fnFilterEventsRow.holds Try.pinned (OpenSpec.ofChange fnFilterEventsSpec)

/-- ITS FALSE NEIGHBOUR: 'it returns false'. Refute it at one input. -/
def fnFilterEventsWrong : ChangeSpec := { name := "fnFilterEvents", fn := fun _ => fun
  | [d] => { results := [.lit (.bool false)], args := [d] }
  | _ => none }
def FnFilterEventsWrongFalsely : Prop := fnFilterEventsRow.holds Try.pinned (OpenSpec.ofChange fnFilterEventsWrong)

/-- 'laws.FnMarksOf': WHATEVER THE INPUT: true; the input reads as it did. -/
def fnMarksOfSpec : ChangeSpec := { name := "fnMarksOf", fn := fun _ => fun
  | [d] => { results := [.lit (.bool true)], args := [d] }
  | _ => none }
def fnMarksOfRow : OpenClaim := { program := "ytjjjlpnbniofjab", sum := "2988af1cffa25f0ea520a3f7da6917be0643fab088dc0921fd05aa5e4629e742", func := "loop.example/eventstreams/laws.FnMarksOf", spec := "fnMarksOf", unfollowed := true, recurses := true, apart := false }
def FnMarksOfSaid : Prop := fnMarksOfRow.holds Try.pinned (OpenSpec.ofChange fnMarksOfSpec)

/-- ITS FALSE NEIGHBOUR: 'it returns false'. Refute it at one input. -/
def fnMarksOfWrong : ChangeSpec := { name := "fnMarksOf", fn := fun _ => fun
  | [d] => { results := [.lit (.bool false)], args := [d] }
  | _ => none }
def FnMarksOfWrongFalsely : Prop := fnMarksOfRow.holds Try.pinned (OpenSpec.ofChange fnMarksOfWrong)

/- THE SECOND FORM. 'bulk': how many values and letters a reading holds, each counted each time it is reached (what is shared counts as often as it is met; a slice's spare places count too). A statement '..UptoSaid' is the law's where the arguments, and the package variables that the reading takes, are together of bulk at most 1048576: NARROWER than '..Said'. Prove '..Said' where nothing that the law and all that it calls make is longer than what came in: it says more and counts as full. Else prove '..UptoSaid'. A law counts once. -/
mutual
def uptoBulk {H : Type} : DataW H → Nat
  | .lit (.string bytes) => bytes.length + 1
  | .lit _ => 1
  | .nil => 1
  | .ptr d => uptoBulk d + 1
  | .slice elems spare => uptoBulkAll elems + uptoBulkAll spare + 1
  | .agg parts => uptoBulkAll parts + 1
  | .iface _ d => uptoBulk d + 1
  | .map entries => uptoBulkEntries entries + 1
  | .held _ => 1
def uptoBulkAll {H : Type} : List (DataW H) → Nat
  | [] => 0
  | d :: r => uptoBulk d + uptoBulkAll r
def uptoBulkEntries {H : Type} : List (Lit × DataW H) → Nat
  | [] => 0
  | x :: r => uptoBulkEntry x + uptoBulkEntries r
def uptoBulkEntry {H : Type} : Lit × DataW H → Nat
  | (.string bytes, d) => bytes.length + uptoBulk d + 1
  | (_, d) => uptoBulk d + 1
 end
def uptoSmall : (H : Type) → List (DataW H) → Bool := fun _ ds => decide (uptoBulkAll ds ≤ 1048576)
def OpenSpec.upto (s : _root_.Go.ChangeSpec) : _root_.Go.OpenSpec := { _root_.Go.OpenSpec.ofChange s with cond := some uptoSmall }

/-- 'laws.FnAddTimer', WHERE WHAT IT READS IS OF BULK AT MOST 1048576: true; the input reads as it did. -/
def fnAddTimerUptoRow : OpenClaim := { program := "ytjjjlpnbniofjab", sum := "2988af1cffa25f0ea520a3f7da6917be0643fab088dc0921fd05aa5e4629e742", func := "loop.example/eventstreams/laws.FnAddTimer", spec := "fnAddTimer", unfollowed := true, recurses := true, apart := false, narrowed := true }
def FnAddTimerUptoSaid : Prop := fnAddTimerUptoRow.holds Try.pinned (OpenSpec.upto fnAddTimerSpec)

/-- 'laws.FnAddRemoveTimer', WHERE WHAT IT READS IS OF BULK AT MOST 1048576: true; the input reads as it did. -/
def fnAddRemoveTimerUptoRow : OpenClaim := { program := "ytjjjlpnbniofjab", sum := "2988af1cffa25f0ea520a3f7da6917be0643fab088dc0921fd05aa5e4629e742", func := "loop.example/eventstreams/laws.FnAddRemoveTimer", spec := "fnAddRemoveTimer", unfollowed := true, recurses := true, apart := false, narrowed := true }
def FnAddRemoveTimerUptoSaid : Prop := fnAddRemoveTimerUptoRow.holds Try.pinned (OpenSpec.upto fnAddRemoveTimerSpec)

/-- 'laws.FnRemoveTimer', WHERE WHAT IT READS IS OF BULK AT MOST 1048576: true; the input reads as it did. -/
def fnRemoveTimerUptoRow : OpenClaim := { program := "ytjjjlpnbniofjab", sum := "2988af1cffa25f0ea520a3f7da6917be0643fab088dc0921fd05aa5e4629e742", func := "loop.example/eventstreams/laws.FnRemoveTimer", spec := "fnRemoveTimer", unfollowed := true, recurses := true, apart := false, narrowed := true }
def FnRemoveTimerUptoSaid : Prop := fnRemoveTimerUptoRow.holds Try.pinned (OpenSpec.upto fnRemoveTimerSpec)

/-- 'laws.FnFireTimers', WHERE WHAT IT READS IS OF BULK AT MOST 1048576: true; the input reads as it did. -/
def fnFireTimersUptoRow : OpenClaim := { program := "ytjjjlpnbniofjab", sum := "2988af1cffa25f0ea520a3f7da6917be0643fab088dc0921fd05aa5e4629e742", func := "loop.example/eventstreams/laws.FnFireTimers", spec := "fnFireTimers", unfollowed := true, recurses := true, apart := false, narrowed := true }
def FnFireTimersUptoSaid : Prop := fnFireTimersUptoRow.holds Try.pinned (OpenSpec.upto fnFireTimersSpec)

/-- 'laws.FnNextTimer', WHERE WHAT IT READS IS OF BULK AT MOST 1048576: true; the input reads as it did. -/
def fnNextTimerUptoRow : OpenClaim := { program := "ytjjjlpnbniofjab", sum := "2988af1cffa25f0ea520a3f7da6917be0643fab088dc0921fd05aa5e4629e742", func := "loop.example/eventstreams/laws.FnNextTimer", spec := "fnNextTimer", unfollowed := true, recurses := true, apart := false, narrowed := true }
def FnNextTimerUptoSaid : Prop := fnNextTimerUptoRow.holds Try.pinned (OpenSpec.upto fnNextTimerSpec)

/-- 'laws.FnPutVersion', WHERE WHAT IT READS IS OF BULK AT MOST 1048576: true; the input reads as it did. -/
def fnPutVersionUptoRow : OpenClaim := { program := "ytjjjlpnbniofjab", sum := "2988af1cffa25f0ea520a3f7da6917be0643fab088dc0921fd05aa5e4629e742", func := "loop.example/eventstreams/laws.FnPutVersion", spec := "fnPutVersion", unfollowed := true, recurses := true, apart := false, narrowed := true }
def FnPutVersionUptoSaid : Prop := fnPutVersionUptoRow.holds Try.pinned (OpenSpec.upto fnPutVersionSpec)

/-- 'laws.FnPutVersionKeys', WHERE WHAT IT READS IS OF BULK AT MOST 1048576: true; the input reads as it did. -/
def fnPutVersionKeysUptoRow : OpenClaim := { program := "ytjjjlpnbniofjab", sum := "2988af1cffa25f0ea520a3f7da6917be0643fab088dc0921fd05aa5e4629e742", func := "loop.example/eventstreams/laws.FnPutVersionKeys", spec := "fnPutVersionKeys", unfollowed := true, recurses := true, apart := false, narrowed := true }
def FnPutVersionKeysUptoSaid : Prop := fnPutVersionKeysUptoRow.holds Try.pinned (OpenSpec.upto fnPutVersionKeysSpec)

/-- 'laws.FnVersionAt', WHERE WHAT IT READS IS OF BULK AT MOST 1048576: true; the input reads as it did. -/
def fnVersionAtUptoRow : OpenClaim := { program := "ytjjjlpnbniofjab", sum := "2988af1cffa25f0ea520a3f7da6917be0643fab088dc0921fd05aa5e4629e742", func := "loop.example/eventstreams/laws.FnVersionAt", spec := "fnVersionAt", unfollowed := true, recurses := true, apart := false, narrowed := true }
def FnVersionAtUptoSaid : Prop := fnVersionAtUptoRow.holds Try.pinned (OpenSpec.upto fnVersionAtSpec)

/-- 'laws.FnTemporalJoin', WHERE WHAT IT READS IS OF BULK AT MOST 1048576: true; the input reads as it did. -/
def fnTemporalJoinUptoRow : OpenClaim := { program := "ytjjjlpnbniofjab", sum := "2988af1cffa25f0ea520a3f7da6917be0643fab088dc0921fd05aa5e4629e742", func := "loop.example/eventstreams/laws.FnTemporalJoin", spec := "fnTemporalJoin", unfollowed := true, recurses := true, apart := false, narrowed := true }
def FnTemporalJoinUptoSaid : Prop := fnTemporalJoinUptoRow.holds Try.pinned (OpenSpec.upto fnTemporalJoinSpec)

/-- 'laws.FnPurgeVersions', WHERE WHAT IT READS IS OF BULK AT MOST 1048576: true; the input reads as it did. -/
def fnPurgeVersionsUptoRow : OpenClaim := { program := "ytjjjlpnbniofjab", sum := "2988af1cffa25f0ea520a3f7da6917be0643fab088dc0921fd05aa5e4629e742", func := "loop.example/eventstreams/laws.FnPurgeVersions", spec := "fnPurgeVersions", unfollowed := true, recurses := true, apart := false, narrowed := true }
def FnPurgeVersionsUptoSaid : Prop := fnPurgeVersionsUptoRow.holds Try.pinned (OpenSpec.upto fnPurgeVersionsSpec)

/-- 'laws.FnFilterEvents', WHERE WHAT IT READS IS OF BULK AT MOST 1048576: true; the input reads as it did. -/
def fnFilterEventsUptoRow : OpenClaim := { program := "ytjjjlpnbniofjab", sum := "2988af1cffa25f0ea520a3f7da6917be0643fab088dc0921fd05aa5e4629e742", func := "loop.example/eventstreams/laws.FnFilterEvents", spec := "fnFilterEvents", unfollowed := true, recurses := true, apart := false, narrowed := true }
def FnFilterEventsUptoSaid : Prop := fnFilterEventsUptoRow.holds Try.pinned (OpenSpec.upto fnFilterEventsSpec)

/-- 'laws.FnMarksOf', WHERE WHAT IT READS IS OF BULK AT MOST 1048576: true; the input reads as it did. -/
def fnMarksOfUptoRow : OpenClaim := { program := "ytjjjlpnbniofjab", sum := "2988af1cffa25f0ea520a3f7da6917be0643fab088dc0921fd05aa5e4629e742", func := "loop.example/eventstreams/laws.FnMarksOf", spec := "fnMarksOf", unfollowed := true, recurses := true, apart := false, narrowed := true }
def FnMarksOfUptoSaid : Prop := fnMarksOfUptoRow.holds Try.pinned (OpenSpec.upto fnMarksOfSpec)

end Rows
end Go.Proofs.Ytjjjlpnbniofjab
