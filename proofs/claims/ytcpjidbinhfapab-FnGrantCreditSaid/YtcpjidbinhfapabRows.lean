/-
  No cell of these rows narrows 'for every input' (looked for: loops, veiled, ifaces, maps, wideKeys, modest, calm, conditions, laid).
  DERIVED. THE GIVEN ROWS OF THIS SEAT. 6 by the template 'for every input the law returns true; each argument reads behind the call as it read before'; 0 by the template 'total and deterministic' (their statements: YtcpjidbinhfapabTotals.lean).
  GIVEN WITH THE SEED: the statements are not yours to turn. If you find one false, say at which input.
  Laid BY PROGRAM, IN A SANDBOX (cutbox-rows.mjs): the forced cells as the released guide's own fill.sh prints them over the translation cf2c120e9b6a2f85… (all of the seat's roots in one cut). By AI agents, Wed Nov 11 2026. No macro, syntax, notation, axiom, sorry.
-/
import Derived.Test.YtcpjidbinhfapabChecked
import GoSem.Claim
import GoSem.ClaimJoined
import GoSem.ClaimMapViews
import Derived.JoinedTies
import Derived.KernelRfl
namespace Go.Proofs.Ytcpjidbinhfapab
/- THE CELL 'sum', in the pinned program and in every row, IS THE sha256 OF THE DUMP (.gsa) THAT YtcpjidbinhfapabProg.lean LOADS. Nothing in Lean hashes anything: it is a label: what it is worth is what the hold of that sum in a sandbox is worth. -/
noncomputable def Try.pinned : Pinned := { name := "ytcpjidbinhfapab", sum := "cf2c120e9b6a2f85c1388ec1fc3ef912490dd671e35696fe3d7fb1b3f7a3fe3e", checked := Try.checked }
namespace Rows
def none {H : Type} : Left H := { results := [], args := [] }

/-- 'laws.FnChannelNew': WHATEVER THE INPUT: true; the input reads as it did. -/
def fnChannelNewSpec : ChangeSpec := { name := "fnChannelNew", fn := fun _ => fun
  | [d] => { results := [.lit (.bool true)], args := [d] }
  | _ => none }
def fnChannelNewRow : OpenClaim := { program := "ytcpjidbinhfapab", sum := "cf2c120e9b6a2f85c1388ec1fc3ef912490dd671e35696fe3d7fb1b3f7a3fe3e", func := "loop.example/eventstreams/laws.FnChannelNew", spec := "fnChannelNew", unfollowed := true, recurses := true, apart := false }
def FnChannelNewSaid : Prop := fnChannelNewRow.holds Try.pinned (OpenSpec.ofChange fnChannelNewSpec)

/-- ITS FALSE NEIGHBOUR: 'it returns false'. Refute it at one input. -/
def fnChannelNewWrong : ChangeSpec := { name := "fnChannelNew", fn := fun _ => fun
  | [d] => { results := [.lit (.bool false)], args := [d] }
  | _ => none }
def FnChannelNewWrongFalsely : Prop := fnChannelNewRow.holds Try.pinned (OpenSpec.ofChange fnChannelNewWrong)

/-- 'laws.FnSendItem': WHATEVER THE INPUT: true; the input reads as it did. -/
def fnSendItemSpec : ChangeSpec := { name := "fnSendItem", fn := fun _ => fun
  | [d] => { results := [.lit (.bool true)], args := [d] }
  | _ => none }
def fnSendItemRow : OpenClaim := { program := "ytcpjidbinhfapab", sum := "cf2c120e9b6a2f85c1388ec1fc3ef912490dd671e35696fe3d7fb1b3f7a3fe3e", func := "loop.example/eventstreams/laws.FnSendItem", spec := "fnSendItem", unfollowed := true, recurses := true, apart := false }
def FnSendItemSaid : Prop := fnSendItemRow.holds Try.pinned (OpenSpec.ofChange fnSendItemSpec)

/-- ITS FALSE NEIGHBOUR: 'it returns false'. Refute it at one input. -/
def fnSendItemWrong : ChangeSpec := { name := "fnSendItem", fn := fun _ => fun
  | [d] => { results := [.lit (.bool false)], args := [d] }
  | _ => none }
def FnSendItemWrongFalsely : Prop := fnSendItemRow.holds Try.pinned (OpenSpec.ofChange fnSendItemWrong)

/-- 'laws.FnTakeItem': WHATEVER THE INPUT: true; the input reads as it did. -/
def fnTakeItemSpec : ChangeSpec := { name := "fnTakeItem", fn := fun _ => fun
  | [d] => { results := [.lit (.bool true)], args := [d] }
  | _ => none }
def fnTakeItemRow : OpenClaim := { program := "ytcpjidbinhfapab", sum := "cf2c120e9b6a2f85c1388ec1fc3ef912490dd671e35696fe3d7fb1b3f7a3fe3e", func := "loop.example/eventstreams/laws.FnTakeItem", spec := "fnTakeItem", unfollowed := true, recurses := true, apart := false }
def FnTakeItemSaid : Prop := fnTakeItemRow.holds Try.pinned (OpenSpec.ofChange fnTakeItemSpec)

/-- ITS FALSE NEIGHBOUR: 'it returns false'. Refute it at one input. -/
def fnTakeItemWrong : ChangeSpec := { name := "fnTakeItem", fn := fun _ => fun
  | [d] => { results := [.lit (.bool false)], args := [d] }
  | _ => none }
def FnTakeItemWrongFalsely : Prop := fnTakeItemRow.holds Try.pinned (OpenSpec.ofChange fnTakeItemWrong)

/-- 'laws.FnGrantCredit': WHATEVER THE INPUT: true; the input reads as it did. -/
def fnGrantCreditSpec : ChangeSpec := { name := "fnGrantCredit", fn := fun _ => fun
  | [d] => { results := [.lit (.bool true)], args := [d] }
  | _ => none }
def fnGrantCreditRow : OpenClaim := { program := "ytcpjidbinhfapab", sum := "cf2c120e9b6a2f85c1388ec1fc3ef912490dd671e35696fe3d7fb1b3f7a3fe3e", func := "loop.example/eventstreams/laws.FnGrantCredit", spec := "fnGrantCredit", unfollowed := true, recurses := true, apart := false }
def FnGrantCreditSaid : Prop := fnGrantCreditRow.holds Try.pinned (OpenSpec.ofChange fnGrantCreditSpec)

/-- ITS FALSE NEIGHBOUR: 'it returns false'. Refute it at one input. -/
def fnGrantCreditWrong : ChangeSpec := { name := "fnGrantCredit", fn := fun _ => fun
  | [d] => { results := [.lit (.bool false)], args := [d] }
  | _ => none }
def FnGrantCreditWrongFalsely : Prop := fnGrantCreditRow.holds Try.pinned (OpenSpec.ofChange fnGrantCreditWrong)

/-- 'laws.FnExactJoinEvent': WHATEVER THE INPUT: true; the input reads as it did. -/
def fnExactJoinEventSpec : ChangeSpec := { name := "fnExactJoinEvent", fn := fun _ => fun
  | [d1, d2, d3, d4, d5] => { results := [.lit (.bool true)], args := [d1, d2, d3, d4, d5] }
  | _ => none }
def fnExactJoinEventRow : OpenClaim := { program := "ytcpjidbinhfapab", sum := "cf2c120e9b6a2f85c1388ec1fc3ef912490dd671e35696fe3d7fb1b3f7a3fe3e", func := "loop.example/eventstreams/laws.FnExactJoinEvent", spec := "fnExactJoinEvent", unfollowed := true, recurses := true, apart := false }
def FnExactJoinEventSaid : Prop := fnExactJoinEventRow.holds Try.pinned (OpenSpec.ofChange fnExactJoinEventSpec)

/-- ITS FALSE NEIGHBOUR: 'it returns false'. Refute it at one input. -/
def fnExactJoinEventWrong : ChangeSpec := { name := "fnExactJoinEvent", fn := fun _ => fun
  | [d1, d2, d3, d4, d5] => { results := [.lit (.bool false)], args := [d1, d2, d3, d4, d5] }
  | _ => none }
def FnExactJoinEventWrongFalsely : Prop := fnExactJoinEventRow.holds Try.pinned (OpenSpec.ofChange fnExactJoinEventWrong)

/-- 'laws.FnExactGateNew': WHATEVER THE INPUT: true; the input reads as it did. -/
def fnExactGateNewSpec : ChangeSpec := { name := "fnExactGateNew", fn := fun _ => fun
  | [d] => { results := [.lit (.bool true)], args := [d] }
  | _ => none }
def fnExactGateNewRow : OpenClaim := { program := "ytcpjidbinhfapab", sum := "cf2c120e9b6a2f85c1388ec1fc3ef912490dd671e35696fe3d7fb1b3f7a3fe3e", func := "loop.example/eventstreams/laws.FnExactGateNew", spec := "fnExactGateNew", apart := false }
def FnExactGateNewSaid : Prop := fnExactGateNewRow.holds Try.pinned (OpenSpec.ofChange fnExactGateNewSpec)

/-- ITS FALSE NEIGHBOUR: 'it returns false'. Refute it at one input. -/
def fnExactGateNewWrong : ChangeSpec := { name := "fnExactGateNew", fn := fun _ => fun
  | [d] => { results := [.lit (.bool false)], args := [d] }
  | _ => none }
def FnExactGateNewWrongFalsely : Prop := fnExactGateNewRow.holds Try.pinned (OpenSpec.ofChange fnExactGateNewWrong)

/- THE SECOND FORM. 'bulk': how many values and letters a reading holds, each counted each time it is reached (what is shared counts as often as it is met; a slice's spare places count too). A statement '..UptoSaid' is the law's where the arguments, and the package variables that the reading takes, are together of bulk at most 1048576: NARROWER than '..Said'. Prove '..Said' where nothing that the law and all that it calls make is longer than what came in: it says more and counts as full. Else prove '..UptoSaid'. A law counts once. -/
mutual
def uptoBulk {H : Type} : DataW H → Nat
  | .lit (.string bytes) => bytes.length + 1
  | .lit _ => 1
  | .nil => 1
  | .ptr d => uptoBulk d + 1
  | .slice elems spare => uptoBulkAll elems + uptoBulkAll spare + 1
  | .agg parts => uptoBulkAll parts + 1
  | .iface _ d => uptoBulk d + 1
  | .map entries => uptoBulkEntries entries + 1
  | .held _ => 1
def uptoBulkAll {H : Type} : List (DataW H) → Nat
  | [] => 0
  | d :: r => uptoBulk d + uptoBulkAll r
def uptoBulkEntries {H : Type} : List (Lit × DataW H) → Nat
  | [] => 0
  | x :: r => uptoBulkEntry x + uptoBulkEntries r
def uptoBulkEntry {H : Type} : Lit × DataW H → Nat
  | (.string bytes, d) => bytes.length + uptoBulk d + 1
  | (_, d) => uptoBulk d + 1
 end
def uptoSmall : (H : Type) → List (DataW H) → Bool := fun _ ds => decide (uptoBulkAll ds ≤ 1048576)
def OpenSpec.upto (s : _root_.Go.ChangeSpec) : _root_.Go.OpenSpec := { _root_.Go.OpenSpec.ofChange s with cond := some uptoSmall }

/-- 'laws.FnChannelNew', WHERE WHAT IT READS IS OF BULK AT MOST 1048576: true; the input reads as it did. -/
def fnChannelNewUptoRow : OpenClaim := { program := "ytcpjidbinhfapab", sum := "cf2c120e9b6a2f85c1388ec1fc3ef912490dd671e35696fe3d7fb1b3f7a3fe3e", func := "loop.example/eventstreams/laws.FnChannelNew", spec := "fnChannelNew", unfollowed := true, recurses := true, apart := false, narrowed := true }
def FnChannelNewUptoSaid : Prop := fnChannelNewUptoRow.holds Try.pinned (OpenSpec.upto fnChannelNewSpec)

/-- 'laws.FnSendItem', WHERE WHAT IT READS IS OF BULK AT MOST 1048576: true; the input reads as it did. -/
def fnSendItemUptoRow : OpenClaim := { program := "ytcpjidbinhfapab", sum := "cf2c120e9b6a2f85c1388ec1fc3ef912490dd671e35696fe3d7fb1b3f7a3fe3e", func := "loop.example/eventstreams/laws.FnSendItem", spec := "fnSendItem", unfollowed := true, recurses := true, apart := false, narrowed := true }
def FnSendItemUptoSaid : Prop := fnSendItemUptoRow.holds Try.pinned (OpenSpec.upto fnSendItemSpec)

/-- 'laws.FnTakeItem', WHERE WHAT IT READS IS OF BULK AT MOST 1048576: true; the input reads as it did. -/
def fnTakeItemUptoRow : OpenClaim := { program := "ytcpjidbinhfapab", sum := "cf2c120e9b6a2f85c1388ec1fc3ef912490dd671e35696fe3d7fb1b3f7a3fe3e", func := "loop.example/eventstreams/laws.FnTakeItem", spec := "fnTakeItem", unfollowed := true, recurses := true, apart := false, narrowed := true }
def FnTakeItemUptoSaid : Prop := fnTakeItemUptoRow.holds Try.pinned (OpenSpec.upto fnTakeItemSpec)

/-- 'laws.FnGrantCredit', WHERE WHAT IT READS IS OF BULK AT MOST 1048576: true; the input reads as it did. -/
def fnGrantCreditUptoRow : OpenClaim := { program := "ytcpjidbinhfapab", sum := "cf2c120e9b6a2f85c1388ec1fc3ef912490dd671e35696fe3d7fb1b3f7a3fe3e", func := "loop.example/eventstreams/laws.FnGrantCredit", spec := "fnGrantCredit", unfollowed := true, recurses := true, apart := false, narrowed := true }
def FnGrantCreditUptoSaid : Prop := fnGrantCreditUptoRow.holds Try.pinned (OpenSpec.upto fnGrantCreditSpec)

/-- 'laws.FnExactJoinEvent', WHERE WHAT IT READS IS OF BULK AT MOST 1048576: true; the input reads as it did. -/
def fnExactJoinEventUptoRow : OpenClaim := { program := "ytcpjidbinhfapab", sum := "cf2c120e9b6a2f85c1388ec1fc3ef912490dd671e35696fe3d7fb1b3f7a3fe3e", func := "loop.example/eventstreams/laws.FnExactJoinEvent", spec := "fnExactJoinEvent", unfollowed := true, recurses := true, apart := false, narrowed := true }
def FnExactJoinEventUptoSaid : Prop := fnExactJoinEventUptoRow.holds Try.pinned (OpenSpec.upto fnExactJoinEventSpec)

/-- 'laws.FnExactGateNew', WHERE WHAT IT READS IS OF BULK AT MOST 1048576: true; the input reads as it did. -/
def fnExactGateNewUptoRow : OpenClaim := { program := "ytcpjidbinhfapab", sum := "cf2c120e9b6a2f85c1388ec1fc3ef912490dd671e35696fe3d7fb1b3f7a3fe3e", func := "loop.example/eventstreams/laws.FnExactGateNew", spec := "fnExactGateNew", apart := false, narrowed := true }
def FnExactGateNewUptoSaid : Prop := fnExactGateNewUptoRow.holds Try.pinned (OpenSpec.upto fnExactGateNewSpec)

end Rows
end Go.Proofs.Ytcpjidbinhfapab
