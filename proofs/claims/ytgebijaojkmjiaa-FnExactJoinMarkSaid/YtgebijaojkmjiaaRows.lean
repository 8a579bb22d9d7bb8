/-
  No cell of these rows narrows 'for every input' (looked for: loops, veiled, ifaces, maps, wideKeys, modest, calm, conditions, laid).
  DERIVED. THE GIVEN ROWS OF THIS SEAT. 12 by the template 'for every input the law returns true; each argument reads behind the call as it read before'; 0 by the template 'total and deterministic' (their statements: YtgebijaojkmjiaaTotals.lean).
  GIVEN WITH THE SEED: the statements are not yours to turn. If you find one false, say at which input.
  Laid BY PROGRAM, IN A SANDBOX (cutbox-rows.mjs): the forced cells as the released guide's own fill.sh prints them over the translation 84640aceb9ac4505… (all of the seat's roots in one cut). By AI agents, Wed Nov 11 2026. No macro, syntax, notation, axiom, sorry.
-/
import Derived.Test.YtgebijaojkmjiaaChecked
import GoSem.Claim
import GoSem.ClaimJoined
import GoSem.ClaimMapViews
import Derived.JoinedTies
import Derived.KernelRfl
namespace Go.Proofs.Ytgebijaojkmjiaa
/- THE CELL 'sum', in the pinned program and in every row, IS THE sha256 OF THE DUMP (.gsa) THAT YtgebijaojkmjiaaProg.lean LOADS. Nothing in Lean hashes anything: it is a label: what it is worth is what the hold of that sum in a sandbox is worth. -/
noncomputable def Try.pinned : Pinned := { name := "ytgebijaojkmjiaa", sum := "84640aceb9ac45055b08878f4725f9ba893885de33d33e4840c9206113a65086", checked := Try.checked }
namespace Rows
def none {H : Type} : Left H := { results := [], args := [] }

/-- 'laws.FnExactNextTimer': WHATEVER THE INPUT: true; the input reads as it did. -/
def fnExactNextTimerSpec : ChangeSpec := { name := "fnExactNextTimer", fn := fun _ => fun
  | [d1, d2] => { results := [.lit (.bool true)], args := [d1, d2] }
  | _ => none }
def fnExactNextTimerRow : OpenClaim := { program := "ytgebijaojkmjiaa", sum := "84640aceb9ac45055b08878f4725f9ba893885de33d33e4840c9206113a65086", func := "loop.example/eventstreams/laws.FnExactNextTimer", spec := "fnExactNextTimer", unfollowed := true, recurses := true, apart := false }
def FnExactNextTimerSaid : Prop := fnExactNextTimerRow.holds Try.pinned (OpenSpec.ofChange fnExactNextTimerSpec)

/-- ITS FALSE NEIGHBOUR: 'it returns false'. Refute it at one input. -/
def fnExactNextTimerWrong : ChangeSpec := { name := "fnExactNextTimer", fn := fun _ => fun
  | [d1, d2] => { results := [.lit (.bool false)], args := [d1, d2] }
  | _ => none }
def FnExactNextTimerWrongFalsely : Prop := fnExactNextTimerRow.holds Try.pinned (OpenSpec.ofChange fnExactNextTimerWrong)

/-- 'laws.FnExactFireTimers': WHATEVER THE INPUT: true; the input reads as it did. -/
def fnExactFireTimersSpec : ChangeSpec := { name := "fnExactFireTimers", fn := fun _ => fun
  | [d1, d2] => { results := [.lit (.bool true)], args := [d1, d2] }
  | _ => none }
def fnExactFireTimersRow : OpenClaim := { program := "ytgebijaojkmjiaa", sum := "84640aceb9ac45055b08878f4725f9ba893885de33d33e4840c9206113a65086", func := "loop.example/eventstreams/laws.FnExactFireTimers", spec := "fnExactFireTimers", unfollowed := true, recurses := true, apart := false }
def FnExactFireTimersSaid : Prop := fnExactFireTimersRow.holds Try.pinned (OpenSpec.ofChange fnExactFireTimersSpec)

/-- ITS FALSE NEIGHBOUR: 'it returns false'. Refute it at one input. -/
def fnExactFireTimersWrong : ChangeSpec := { name := "fnExactFireTimers", fn := fun _ => fun
  | [d1, d2] => { results := [.lit (.bool false)], args := [d1, d2] }
  | _ => none }
def FnExactFireTimersWrongFalsely : Prop := fnExactFireTimersRow.holds Try.pinned (OpenSpec.ofChange fnExactFireTimersWrong)

/-- 'laws.FnExactRemoveTimer': WHATEVER THE INPUT: true; the input reads as it did. -/
def fnExactRemoveTimerSpec : ChangeSpec := { name := "fnExactRemoveTimer", fn := fun _ => fun
  | [d1, d2] => { results := [.lit (.bool true)], args := [d1, d2] }
  | _ => none }
def fnExactRemoveTimerRow : OpenClaim := { program := "ytgebijaojkmjiaa", sum := "84640aceb9ac45055b08878f4725f9ba893885de33d33e4840c9206113a65086", func := "loop.example/eventstreams/laws.FnExactRemoveTimer", spec := "fnExactRemoveTimer", unfollowed := true, recurses := true, apart := false }
def FnExactRemoveTimerSaid : Prop := fnExactRemoveTimerRow.holds Try.pinned (OpenSpec.ofChange fnExactRemoveTimerSpec)

/-- ITS FALSE NEIGHBOUR: 'it returns false'. Refute it at one input. -/
def fnExactRemoveTimerWrong : ChangeSpec := { name := "fnExactRemoveTimer", fn := fun _ => fun
  | [d1, d2] => { results := [.lit (.bool false)], args := [d1, d2] }
  | _ => none }
def FnExactRemoveTimerWrongFalsely : Prop := fnExactRemoveTimerRow.holds Try.pinned (OpenSpec.ofChange fnExactRemoveTimerWrong)

/-- 'laws.FnExactAddTimer': WHATEVER THE INPUT: true; the input reads as it did. -/
def fnExactAddTimerSpec : ChangeSpec := { name := "fnExactAddTimer", fn := fun _ => fun
  | [d1, d2] => { results := [.lit (.bool true)], args := [d1, d2] }
  | _ => none }
def fnExactAddTimerRow : OpenClaim := { program := "ytgebijaojkmjiaa", sum := "84640aceb9ac45055b08878f4725f9ba893885de33d33e4840c9206113a65086", func := "loop.example/eventstreams/laws.FnExactAddTimer", spec := "fnExactAddTimer", unfollowed := true, recurses := true, apart := false }
def FnExactAddTimerSaid : Prop := fnExactAddTimerRow.holds Try.pinned (OpenSpec.ofChange fnExactAddTimerSpec)

/-- ITS FALSE NEIGHBOUR: 'it returns false'. Refute it at one input. -/
def fnExactAddTimerWrong : ChangeSpec := { name := "fnExactAddTimer", fn := fun _ => fun
  | [d1, d2] => { results := [.lit (.bool false)], args := [d1, d2] }
  | _ => none }
def FnExactAddTimerWrongFalsely : Prop := fnExactAddTimerRow.holds Try.pinned (OpenSpec.ofChange fnExactAddTimerWrong)

/-- 'laws.FnExactVersionAt': WHATEVER THE INPUT: true; the input reads as it did. -/
def fnExactVersionAtSpec : ChangeSpec := { name := "fnExactVersionAt", fn := fun _ => fun
  | [d1, d2, d3] => { results := [.lit (.bool true)], args := [d1, d2, d3] }
  | _ => none }
def fnExactVersionAtRow : OpenClaim := { program := "ytgebijaojkmjiaa", sum := "84640aceb9ac45055b08878f4725f9ba893885de33d33e4840c9206113a65086", func := "loop.example/eventstreams/laws.FnExactVersionAt", spec := "fnExactVersionAt", unfollowed := true, recurses := true, apart := false }
def FnExactVersionAtSaid : Prop := fnExactVersionAtRow.holds Try.pinned (OpenSpec.ofChange fnExactVersionAtSpec)

/-- ITS FALSE NEIGHBOUR: 'it returns false'. Refute it at one input. -/
def fnExactVersionAtWrong : ChangeSpec := { name := "fnExactVersionAt", fn := fun _ => fun
  | [d1, d2, d3] => { results := [.lit (.bool false)], args := [d1, d2, d3] }
  | _ => none }
def FnExactVersionAtWrongFalsely : Prop := fnExactVersionAtRow.holds Try.pinned (OpenSpec.ofChange fnExactVersionAtWrong)

/-- 'laws.FnExactPutVersion': WHATEVER THE INPUT: true; the input reads as it did. -/
def fnExactPutVersionSpec : ChangeSpec := { name := "fnExactPutVersion", fn := fun _ => fun
  | [d1, d2] => { results := [.lit (.bool true)], args := [d1, d2] }
  | _ => none }
def fnExactPutVersionRow : OpenClaim := { program := "ytgebijaojkmjiaa", sum := "84640aceb9ac45055b08878f4725f9ba893885de33d33e4840c9206113a65086", func := "loop.example/eventstreams/laws.FnExactPutVersion", spec := "fnExactPutVersion", unfollowed := true, recurses := true, apart := false }
def FnExactPutVersionSaid : Prop := fnExactPutVersionRow.holds Try.pinned (OpenSpec.ofChange fnExactPutVersionSpec)

/-- ITS FALSE NEIGHBOUR: 'it returns false'. Refute it at one input. -/
def fnExactPutVersionWrong : ChangeSpec := { name := "fnExactPutVersion", fn := fun _ => fun
  | [d1, d2] => { results := [.lit (.bool false)], args := [d1, d2] }
  | _ => none }
def FnExactPutVersionWrongFalsely : Prop := fnExactPutVersionRow.holds Try.pinned (OpenSpec.ofChange fnExactPutVersionWrong)

/-- 'laws.FnExactTemporalJoin': WHATEVER THE INPUT: true; the input reads as it did. -/
def fnExactTemporalJoinSpec : ChangeSpec := { name := "fnExactTemporalJoin", fn := fun _ => fun
  | [d1, d2] => { results := [.lit (.bool true)], args := [d1, d2] }
  | _ => none }
def fnExactTemporalJoinRow : OpenClaim := { program := "ytgebijaojkmjiaa", sum := "84640aceb9ac45055b08878f4725f9ba893885de33d33e4840c9206113a65086", func := "loop.example/eventstreams/laws.FnExactTemporalJoin", spec := "fnExactTemporalJoin", unfollowed := true, recurses := true, apart := false }
def FnExactTemporalJoinSaid : Prop := fnExactTemporalJoinRow.holds Try.pinned (OpenSpec.ofChange fnExactTemporalJoinSpec)

/-- ITS FALSE NEIGHBOUR: 'it returns false'. Refute it at one input. -/
def fnExactTemporalJoinWrong : ChangeSpec := { name := "fnExactTemporalJoin", fn := fun _ => fun
  | [d1, d2] => { results := [.lit (.bool false)], args := [d1, d2] }
  | _ => none }
def FnExactTemporalJoinWrongFalsely : Prop := fnExactTemporalJoinRow.holds Try.pinned (OpenSpec.ofChange fnExactTemporalJoinWrong)

/-- 'laws.FnExactPurgeVersions': WHATEVER THE INPUT: true; the input reads as it did. -/
def fnExactPurgeVersionsSpec : ChangeSpec := { name := "fnExactPurgeVersions", fn := fun _ => fun
  | [d1, d2] => { results := [.lit (.bool true)], args := [d1, d2] }
  | _ => none }
def fnExactPurgeVersionsRow : OpenClaim := { program := "ytgebijaojkmjiaa", sum := "84640aceb9ac45055b08878f4725f9ba893885de33d33e4840c9206113a65086", func := "loop.example/eventstreams/laws.FnExactPurgeVersions", spec := "fnExactPurgeVersions", unfollowed := true, recurses := true, apart := false }
def FnExactPurgeVersionsSaid : Prop := fnExactPurgeVersionsRow.holds Try.pinned (OpenSpec.ofChange fnExactPurgeVersionsSpec)

/-- ITS FALSE NEIGHBOUR: 'it returns false'. Refute it at one input. -/
def fnExactPurgeVersionsWrong : ChangeSpec := { name := "fnExactPurgeVersions", fn := fun _ => fun
  | [d1, d2] => { results := [.lit (.bool false)], args := [d1, d2] }
  | _ => none }
def FnExactPurgeVersionsWrongFalsely : Prop := fnExactPurgeVersionsRow.holds Try.pinned (OpenSpec.ofChange fnExactPurgeVersionsWrong)

/-- 'laws.FnExactIntervalJoin': WHATEVER THE INPUT: true; the input reads as it did. -/
def fnExactIntervalJoinSpec : ChangeSpec := { name := "fnExactIntervalJoin", fn := fun _ => fun
  | [d1, d2, d3, d4] => { results := [.lit (.bool true)], args := [d1, d2, d3, d4] }
  | _ => none }
def fnExactIntervalJoinRow : OpenClaim := { program := "ytgebijaojkmjiaa", sum := "84640aceb9ac45055b08878f4725f9ba893885de33d33e4840c9206113a65086", func := "loop.example/eventstreams/laws.FnExactIntervalJoin", spec := "fnExactIntervalJoin", unfollowed := true, recurses := true, apart := false }
def FnExactIntervalJoinSaid : Prop := fnExactIntervalJoinRow.holds Try.pinned (OpenSpec.ofChange fnExactIntervalJoinSpec)

/-- ITS FALSE NEIGHBOUR: 'it returns false'. Refute it at one input. -/
def fnExactIntervalJoinWrong : ChangeSpec := { name := "fnExactIntervalJoin", fn := fun _ => fun
  | [d1, d2, d3, d4] => { results := [.lit (.bool false)], args := [d1, d2, d3, d4] }
  | _ => none }
def FnExactIntervalJoinWrongFalsely : Prop := fnExactIntervalJoinRow.holds Try.pinned (OpenSpec.ofChange fnExactIntervalJoinWrong)

/-- 'laws.FnExactJoinEvent': WHATEVER THE INPUT: true; the input reads as it did. -/
def fnExactJoinEventSpec : ChangeSpec := { name := "fnExactJoinEvent", fn := fun _ => fun
  | [d1, d2, d3, d4, d5] => { results := [.lit (.bool true)], args := [d1, d2, d3, d4, d5] }
  | _ => none }
def fnExactJoinEventRow : OpenClaim := { program := "ytgebijaojkmjiaa", sum := "84640aceb9ac45055b08878f4725f9ba893885de33d33e4840c9206113a65086", func := "loop.example/eventstreams/laws.FnExactJoinEvent", spec := "fnExactJoinEvent", unfollowed := true, recurses := true, apart := false }
def FnExactJoinEventSaid : Prop := fnExactJoinEventRow.holds Try.pinned (OpenSpec.ofChange fnExactJoinEventSpec)

/-- ITS FALSE NEIGHBOUR: 'it returns false'. Refute it at one input. -/
def fnExactJoinEventWrong : ChangeSpec := { name := "fnExactJoinEvent", fn := fun _ => fun
  | [d1, d2, d3, d4, d5] => { results := [.lit (.bool false)], args := [d1, d2, d3, d4, d5] }
  | _ => none }
def FnExactJoinEventWrongFalsely : Prop := fnExactJoinEventRow.holds Try.pinned (OpenSpec.ofChange fnExactJoinEventWrong)

/-- 'laws.FnExactJoinMark': WHATEVER THE INPUT: true; the input reads as it did. -/
def fnExactJoinMarkSpec : ChangeSpec := { name := "fnExactJoinMark", fn := fun _ => fun
  | [d1, d2, d3, d4] => { results := [.lit (.bool true)], args := [d1, d2, d3, d4] }
  | _ => none }
def fnExactJoinMarkRow : OpenClaim := { program := "ytgebijaojkmjiaa", sum := "84640aceb9ac45055b08878f4725f9ba893885de33d33e4840c9206113a65086", func := "loop.example/eventstreams/laws.FnExactJoinMark", spec := "fnExactJoinMark", unfollowed := true, recurses := true, apart := false }
def FnExactJoinMarkSaid : Prop := fnExactJoinMarkRow.holds Try.pinned (OpenSpec.ofChange fnExactJoinMarkSpec)

/-- ITS FALSE NEIGHBOUR: 'it returns false'. Refute it at one input. -/
def fnExactJoinMarkWrong : ChangeSpec := { name := "fnExactJoinMark", fn := fun _ => fun
  | [d1, d2, d3, d4] => { results := [.lit (.bool false)], args := [d1, d2, d3, d4] }
  | _ => none }
def FnExactJoinMarkWrongFalsely : Prop := fnExactJoinMarkRow.holds Try.pinned (OpenSpec.ofChange fnExactJoinMarkWrong)

/-- 'laws.FnExactClosedSessions': WHATEVER THE INPUT: true; the input reads as it did. -/
def fnExactClosedSessionsSpec : ChangeSpec := { name := "fnExactClosedSessions", fn := fun _ => fun
  | [d1, d2] => { results := [.lit (.bool true)], args := [d1, d2] }
  | _ => none }
def fnExactClosedSessionsRow : OpenClaim := { program := "ytgebijaojkmjiaa", sum := "84640aceb9ac45055b08878f4725f9ba893885de33d33e4840c9206113a65086", func := "loop.example/eventstreams/laws.FnExactClosedSessions", spec := "fnExactClosedSessions", unfollowed := true, recurses := true, apart := false }
def FnExactClosedSessionsSaid : Prop := fnExactClosedSessionsRow.holds Try.pinned (OpenSpec.ofChange fnExactClosedSessionsSpec)

/-- ITS FALSE NEIGHBOUR: 'it returns false'. Refute it at one input. -/
def fnExactClosedSessionsWrong : ChangeSpec := { name := "fnExactClosedSessions", fn := fun _ => fun
  | [d1, d2] => { results := [.lit (.bool false)], args := [d1, d2] }
  | _ => none }
def FnExactClosedSessionsWrongFalsely : Prop := fnExactClosedSessionsRow.holds Try.pinned (OpenSpec.ofChange fnExactClosedSessionsWrong)

/- THE SECOND FORM. 'bulk': how many values and letters a reading holds, each counted each time it is reached (what is shared counts as often as it is met; a slice's spare places count too). A statement '..UptoSaid' is the law's where the arguments, and the package variables that the reading takes, are together of bulk at most 1048576: NARROWER than '..Said'. Prove '..Said' where nothing that the law and all that it calls make is longer than what came in: it says more and counts as full. Else prove '..UptoSaid'. A law counts once. -/
mutual
def uptoBulk {H : Type} : DataW H → Nat
  | .lit (.string bytes) => bytes.length + 1
  | .lit _ => 1
  | .nil => 1
  | .ptr d => uptoBulk d + 1
  | .slice elems spare => uptoBulkAll elems + uptoBulkAll spare + 1
  | .agg parts => uptoBulkAll parts + 1
  | .iface _ d => uptoBulk d + 1
  | .map entries => uptoBulkEntries entries + 1
  | .held _ => 1
def uptoBulkAll {H : Type} : List (DataW H) → Nat
  | [] => 0
  | d :: r => uptoBulk d + uptoBulkAll r
def uptoBulkEntries {H : Type} : List (Lit × DataW H) → Nat
  | [] => 0
  | x :: r => uptoBulkEntry x + uptoBulkEntries r
def uptoBulkEntry {H : Type} : Lit × DataW H → Nat
  | (.string bytes, d) => bytes.length + uptoBulk d + 1
  | (_, d) => uptoBulk d + 1
 end
def uptoSmall : (H : Type) → List (DataW H) → Bool := fun _ ds => decide (uptoBulkAll ds ≤ 1048576)
def OpenSpec.upto (s : _root_.Go.ChangeSpec) : _root_.Go.OpenSpec := { _root_.Go.OpenSpec.ofChange s with cond := some uptoSmall }

/-- 'laws.FnExactNextTimer', WHERE WHAT IT READS IS OF BULK AT MOST 1048576: true; the input reads as it did. -/
def fnExactNextTimerUptoRow : OpenClaim := { program := "ytgebijaojkmjiaa", sum := "84640aceb9ac45055b08878f4725f9ba893885de33d33e4840c9206113a65086", func := "loop.example/eventstreams/laws.FnExactNextTimer", spec := "fnExactNextTimer", unfollowed := true, recurses := true, apart := false, narrowed := true }
def FnExactNextTimerUptoSaid : Prop := fnExactNextTimerUptoRow.holds Try.pinned (OpenSpec.upto fnExactNextTimerSpec)

/-- 'laws.FnExactFireTimers', WHERE WHAT IT READS IS OF BULK AT MOST 1048576: true; the input reads as it did. -/
def fnExactFireTimersUptoRow : OpenClaim := { program := "ytgebijaojkmjiaa", sum := "84640aceb9ac45055b08878f4725f9ba893885de33d33e4840c9206113a65086", func := "loop.example/eventstreams/laws.FnExactFireTimers", spec := "fnExactFireTimers", unfollowed := true, recurses := true, apart := false, narrowed := true }
def FnExactFireTimersUptoSaid : Prop := fnExactFireTimersUptoRow.holds Try.pinned (OpenSpec.upto fnExactFireTimersSpec)

/-- 'laws.FnExactRemoveTimer', WHERE WHAT IT READS IS OF BULK AT MOST 1048576: true; the input reads as it did. -/
def fnExactRemoveTimerUptoRow : OpenClaim := { program := "ytgebijaojkmjiaa", sum := "84640aceb9ac45055b08878f4725f9ba893885de33d33e4840c9206113a65086", func := "loop.example/eventstreams/laws.FnExactRemoveTimer", spec := "fnExactRemoveTimer", unfollowed := true, recurses := true, apart := false, narrowed := true }
def FnExactRemoveTimerUptoSaid : Prop := fnExactRemoveTimerUptoRow.holds Try.pinned (OpenSpec.upto fnExactRemoveTimerSpec)

/-- 'laws.FnExactAddTimer', WHERE WHAT IT READS IS OF BULK AT MOST 1048576: true; the input reads as it did. -/
def fnExactAddTimerUptoRow : OpenClaim := { program := "ytgebijaojkmjiaa", sum := "84640aceb9ac45055b08878f4725f9ba893885de33d33e4840c9206113a65086", func := "loop.example/eventstreams/laws.FnExactAddTimer", spec := "fnExactAddTimer", unfollowed := true, recurses := true, apart := false, narrowed := true }
def FnExactAddTimerUptoSaid : Prop := fnExactAddTimerUptoRow.holds Try.pinned (OpenSpec.upto fnExactAddTimerSpec)

/-- 'laws.FnExactVersionAt', WHERE WHAT IT READS IS OF BULK AT MOST 1048576: true; the input reads as it did. -/
def fnExactVersionAtUptoRow : OpenClaim := { program := "ytgebijaojkmjiaa", sum := "84640aceb9ac45055b08878f4725f9ba893885de33d33e4840c9206113a65086", func := "loop.example/eventstreams/laws.FnExactVersionAt", spec := "fnExactVersionAt", unfollowed := true, recurses := true, apart := false, narrowed := true }
def FnExactVersionAtUptoSaid : Prop := fnExactVersionAtUptoRow.holds Try.pinned (OpenSpec.upto fnExactVersionAtSpec)

/-- 'laws.FnExactPutVersion', WHERE WHAT IT READS IS OF BULK AT MOST 1048576: true; the input reads as it did. -/
def fnExactPutVersionUptoRow : OpenClaim := { program := "ytgebijaojkmjiaa", sum := "84640aceb9ac45055b08878f4725f9ba893885de33d33e4840c9206113a65086", func := "loop.example/eventstreams/laws.FnExactPutVersion", spec := "fnExactPutVersion", unfollowed := true, recurses := true, apart := false, narrowed := true }
def FnExactPutVersionUptoSaid : Prop := fnExactPutVersionUptoRow.holds Try.pinned (OpenSpec.upto fnExactPutVersionSpec)

/-- 'laws.FnExactTemporalJoin', WHERE WHAT IT READS IS OF BULK AT MOST 1048576: true; the input reads as it did. -/
def fnExactTemporalJoinUptoRow : OpenClaim := { program := "ytgebijaojkmjiaa", sum := "84640aceb9ac45055b08878f4725f9ba893885de33d33e4840c9206113a65086", func := "loop.example/eventstreams/laws.FnExactTemporalJoin", spec := "fnExactTemporalJoin", unfollowed := true, recurses := true, apart := false, narrowed := true }
def FnExactTemporalJoinUptoSaid : Prop := fnExactTemporalJoinUptoRow.holds Try.pinned (OpenSpec.upto fnExactTemporalJoinSpec)

/-- 'laws.FnExactPurgeVersions', WHERE WHAT IT READS IS OF BULK AT MOST 1048576: true; the input reads as it did. -/
def fnExactPurgeVersionsUptoRow : OpenClaim := { program := "ytgebijaojkmjiaa", sum := "84640aceb9ac45055b08878f4725f9ba893885de33d33e4840c9206113a65086", func := "loop.example/eventstreams/laws.FnExactPurgeVersions", spec := "fnExactPurgeVersions", unfollowed := true, recurses := true, apart := false, narrowed := true }
def FnExactPurgeVersionsUptoSaid : Prop := fnExactPurgeVersionsUptoRow.holds Try.pinned (OpenSpec.upto fnExactPurgeVersionsSpec)

/-- 'laws.FnExactIntervalJoin', WHERE WHAT IT READS IS OF BULK AT MOST 1048576: true; the input reads as it did. -/
def fnExactIntervalJoinUptoRow : OpenClaim := { program := "ytgebijaojkmjiaa", sum := "84640aceb9ac45055b08878f4725f9ba893885de33d33e4840c9206113a65086", func := "loop.example/eventstreams/laws.FnExactIntervalJoin", spec := "fnExactIntervalJoin", unfollowed := true, recurses := true, apart := false, narrowed := true }
def FnExactIntervalJoinUptoSaid : Prop := fnExactIntervalJoinUptoRow.holds Try.pinned (OpenSpec.upto fnExactIntervalJoinSpec)

/-- 'laws.FnExactJoinEvent', WHERE WHAT IT READS IS OF BULK AT MOST 1048576: true; the input reads as it did. -/
def fnExactJoinEventUptoRow : OpenClaim := { program := "ytgebijaojkmjiaa", sum := "84640aceb9ac45055b08878f4725f9ba893885de33d33e4840c9206113a65086", func := "loop.example/eventstreams/laws.FnExactJoinEvent", spec := "fnExactJoinEvent", unfollowed := true, recurses := true, apart := false, narrowed := true }
def FnExactJoinEventUptoSaid : Prop := fnExactJoinEventUptoRow.holds Try.pinned (OpenSpec.upto fnExactJoinEventSpec)

/-- 'laws.FnExactJoinMark', WHERE WHAT IT READS IS OF BULK AT MOST 1048576: true; the input reads as it did. -/
def fnExactJoinMarkUptoRow : OpenClaim := { program := "ytgebijaojkmjiaa", sum := "84640aceb9ac45055b08878f4725f9ba893885de33d33e4840c9206113a65086", func := "loop.example/eventstreams/laws.FnExactJoinMark", spec := "fnExactJoinMark", unfollowed := true, recurses := true, apart := false, narrowed := true }
def FnExactJoinMarkUptoSaid : Prop := fnExactJoinMarkUptoRow.holds Try.pinned (OpenSpec.upto fnExactJoinMarkSpec)

/-- 'laws.FnExactClosedSessions', WHERE WHAT IT READS IS OF BULK AT MOST 1048576: true; the input reads as it did. -/
def fnExactClosedSessionsUptoRow : OpenClaim := { program := "ytgebijaojkmjiaa", sum := "84640aceb9ac45055b08878f4725f9ba893885de33d33e4840c9206113a65086", func := "loop.example/eventstreams/laws.FnExactClosedSessions", spec := "fnExactClosedSessions", unfollowed := true, recurses := true, apart := false, narrowed := true }
def FnExactClosedSessionsUptoSaid : Prop := fnExactClosedSessionsUptoRow.holds Try.pinned (OpenSpec.upto fnExactClosedSessionsSpec)

end Rows
end Go.Proofs.Ytgebijaojkmjiaa
