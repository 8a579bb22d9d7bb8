/-
  No cell of these rows narrows 'for every input' (looked for: loops, veiled, ifaces, maps, wideKeys, modest, calm, conditions, laid).
  DERIVED. THE GIVEN ROWS OF THIS SEAT. 12 by the template 'for every input the law returns true; each argument reads behind the call as it read before'; 0 by the template 'total and deterministic' (their statements: YtehedhkadjidpabTotals.lean).
  GIVEN WITH THE SEED: the statements are not yours to turn. If you find one false, say at which input.
  Laid BY PROGRAM, IN A SANDBOX (cutbox-rows.mjs): the forced cells as the released guide's own fill.sh prints them over the translation 72bdb33a3c10d087… (all of the seat's roots in one cut). By AI agents, Wed Nov 11 2026. No macro, syntax, notation, axiom, sorry.
-/
import Derived.Test.YtehedhkadjidpabChecked
import GoSem.Claim
import GoSem.ClaimJoined
import GoSem.ClaimMapViews
import Derived.JoinedTies
import Derived.KernelRfl
namespace Go.Proofs.Ytehedhkadjidpab
/- THE CELL 'sum', in the pinned program and in every row, IS THE sha256 OF THE DUMP (.gsa) THAT YtehedhkadjidpabProg.lean LOADS. Nothing in Lean hashes anything: it is a label: what it is worth is what the hold of that sum in a sandbox is worth. -/
noncomputable def Try.pinned : Pinned := { name := "ytehedhkadjidpab", sum := "72bdb33a3c10d08755c51293a9f6dfb2006f26a0abb5e803e4edca6a39e445b4", checked := Try.checked }
namespace Rows
def none {H : Type} : Left H := { results := [], args := [] }

/-- 'laws.FnIdleInputs': WHATEVER THE INPUT: true; the input reads as it did. -/
def fnIdleInputsSpec : ChangeSpec := { name := "fnIdleInputs", fn := fun _ => fun
  | [d] => { results := [.lit (.bool true)], args := [d] }
  | _ => none }
def fnIdleInputsRow : OpenClaim := { program := "ytehedhkadjidpab", sum := "72bdb33a3c10d08755c51293a9f6dfb2006f26a0abb5e803e4edca6a39e445b4", func := "loop.example/eventstreams/laws.FnIdleInputs", spec := "fnIdleInputs", unfollowed := true, recurses := true, apart := false }
def FnIdleInputsSaid : Prop := fnIdleInputsRow.holds Try.pinned (OpenSpec.ofChange fnIdleInputsSpec)

/-- ITS FALSE NEIGHBOUR: 'it returns false'. Refute it at one input. -/
def fnIdleInputsWrong : ChangeSpec := { name := "fnIdleInputs", fn := fun _ => fun
  | [d] => { results := [.lit (.bool false)], args := [d] }
  | _ => none }
def FnIdleInputsWrongFalsely : Prop := fnIdleInputsRow.holds Try.pinned (OpenSpec.ofChange fnIdleInputsWrong)

/-- 'laws.FnMergeMarks': WHATEVER THE INPUT: true; the input reads as it did. -/
def fnMergeMarksSpec : ChangeSpec := { name := "fnMergeMarks", fn := fun _ => fun
  | [d] => { results := [.lit (.bool true)], args := [d] }
  | _ => none }
def fnMergeMarksRow : OpenClaim := { program := "ytehedhkadjidpab", sum := "72bdb33a3c10d08755c51293a9f6dfb2006f26a0abb5e803e4edca6a39e445b4", func := "loop.example/eventstreams/laws.FnMergeMarks", spec := "fnMergeMarks", unfollowed := true, recurses := true, apart := false }
def FnMergeMarksSaid : Prop := fnMergeMarksRow.holds Try.pinned (OpenSpec.ofChange fnMergeMarksSpec)

/-- ITS FALSE NEIGHBOUR: 'it returns false'. Refute it at one input. -/
def fnMergeMarksWrong : ChangeSpec := { name := "fnMergeMarks", fn := fun _ => fun
  | [d] => { results := [.lit (.bool false)], args := [d] }
  | _ => none }
def FnMergeMarksWrongFalsely : Prop := fnMergeMarksRow.holds Try.pinned (OpenSpec.ofChange fnMergeMarksWrong)

/-- 'laws.FnUpdateInput': WHATEVER THE INPUT: true; the input reads as it did. -/
def fnUpdateInputSpec : ChangeSpec := { name := "fnUpdateInput", fn := fun _ => fun
  | [d] => { results := [.lit (.bool true)], args := [d] }
  | _ => none }
def fnUpdateInputRow : OpenClaim := { program := "ytehedhkadjidpab", sum := "72bdb33a3c10d08755c51293a9f6dfb2006f26a0abb5e803e4edca6a39e445b4", func := "loop.example/eventstreams/laws.FnUpdateInput", spec := "fnUpdateInput", unfollowed := true, recurses := true, apart := false }
def FnUpdateInputSaid : Prop := fnUpdateInputRow.holds Try.pinned (OpenSpec.ofChange fnUpdateInputSpec)

/-- ITS FALSE NEIGHBOUR: 'it returns false'. Refute it at one input. -/
def fnUpdateInputWrong : ChangeSpec := { name := "fnUpdateInput", fn := fun _ => fun
  | [d] => { results := [.lit (.bool false)], args := [d] }
  | _ => none }
def FnUpdateInputWrongFalsely : Prop := fnUpdateInputRow.holds Try.pinned (OpenSpec.ofChange fnUpdateInputWrong)

/-- 'laws.FnUpdateInputMark': WHATEVER THE INPUT: true; the input reads as it did. -/
def fnUpdateInputMarkSpec : ChangeSpec := { name := "fnUpdateInputMark", fn := fun _ => fun
  | [d] => { results := [.lit (.bool true)], args := [d] }
  | _ => none }
def fnUpdateInputMarkRow : OpenClaim := { program := "ytehedhkadjidpab", sum := "72bdb33a3c10d08755c51293a9f6dfb2006f26a0abb5e803e4edca6a39e445b4", func := "loop.example/eventstreams/laws.FnUpdateInputMark", spec := "fnUpdateInputMark", unfollowed := true, recurses := true, apart := false }
def FnUpdateInputMarkSaid : Prop := fnUpdateInputMarkRow.holds Try.pinned (OpenSpec.ofChange fnUpdateInputMarkSpec)

/-- ITS FALSE NEIGHBOUR: 'it returns false'. Refute it at one input. -/
def fnUpdateInputMarkWrong : ChangeSpec := { name := "fnUpdateInputMark", fn := fun _ => fun
  | [d] => { results := [.lit (.bool false)], args := [d] }
  | _ => none }
def FnUpdateInputMarkWrongFalsely : Prop := fnUpdateInputMarkRow.holds Try.pinned (OpenSpec.ofChange fnUpdateInputMarkWrong)

/-- 'laws.FnNextMark': WHATEVER THE INPUT: true; the input reads as it did. -/
def fnNextMarkSpec : ChangeSpec := { name := "fnNextMark", fn := fun _ => fun
  | [d] => { results := [.lit (.bool true)], args := [d] }
  | _ => none }
def fnNextMarkRow : OpenClaim := { program := "ytehedhkadjidpab", sum := "72bdb33a3c10d08755c51293a9f6dfb2006f26a0abb5e803e4edca6a39e445b4", func := "loop.example/eventstreams/laws.FnNextMark", spec := "fnNextMark", unfollowed := true, recurses := true, apart := false }
def FnNextMarkSaid : Prop := fnNextMarkRow.holds Try.pinned (OpenSpec.ofChange fnNextMarkSpec)

/-- ITS FALSE NEIGHBOUR: 'it returns false'. Refute it at one input. -/
def fnNextMarkWrong : ChangeSpec := { name := "fnNextMark", fn := fun _ => fun
  | [d] => { results := [.lit (.bool false)], args := [d] }
  | _ => none }
def FnNextMarkWrongFalsely : Prop := fnNextMarkRow.holds Try.pinned (OpenSpec.ofChange fnNextMarkWrong)

/-- 'laws.FnExactMergeMarks': WHATEVER THE INPUT: true; the input reads as it did. -/
def fnExactMergeMarksSpec : ChangeSpec := { name := "fnExactMergeMarks", fn := fun _ => fun
  | [d1, d2, d3] => { results := [.lit (.bool true)], args := [d1, d2, d3] }
  | _ => none }
def fnExactMergeMarksRow : OpenClaim := { program := "ytehedhkadjidpab", sum := "72bdb33a3c10d08755c51293a9f6dfb2006f26a0abb5e803e4edca6a39e445b4", func := "loop.example/eventstreams/laws.FnExactMergeMarks", spec := "fnExactMergeMarks", unfollowed := true, recurses := true, apart := false }
def FnExactMergeMarksSaid : Prop := fnExactMergeMarksRow.holds Try.pinned (OpenSpec.ofChange fnExactMergeMarksSpec)

/-- ITS FALSE NEIGHBOUR: 'it returns false'. Refute it at one input. -/
def fnExactMergeMarksWrong : ChangeSpec := { name := "fnExactMergeMarks", fn := fun _ => fun
  | [d1, d2, d3] => { results := [.lit (.bool false)], args := [d1, d2, d3] }
  | _ => none }
def FnExactMergeMarksWrongFalsely : Prop := fnExactMergeMarksRow.holds Try.pinned (OpenSpec.ofChange fnExactMergeMarksWrong)

/-- 'laws.FnExactNextMark': WHATEVER THE INPUT: true; the input reads as it did. -/
def fnExactNextMarkSpec : ChangeSpec := { name := "fnExactNextMark", fn := fun _ => fun
  | [d1, d2, d3, d4] => { results := [.lit (.bool true)], args := [d1, d2, d3, d4] }
  | _ => none }
def fnExactNextMarkRow : OpenClaim := { program := "ytehedhkadjidpab", sum := "72bdb33a3c10d08755c51293a9f6dfb2006f26a0abb5e803e4edca6a39e445b4", func := "loop.example/eventstreams/laws.FnExactNextMark", spec := "fnExactNextMark", unfollowed := true, recurses := true, apart := false }
def FnExactNextMarkSaid : Prop := fnExactNextMarkRow.holds Try.pinned (OpenSpec.ofChange fnExactNextMarkSpec)

/-- ITS FALSE NEIGHBOUR: 'it returns false'. Refute it at one input. -/
def fnExactNextMarkWrong : ChangeSpec := { name := "fnExactNextMark", fn := fun _ => fun
  | [d1, d2, d3, d4] => { results := [.lit (.bool false)], args := [d1, d2, d3, d4] }
  | _ => none }
def FnExactNextMarkWrongFalsely : Prop := fnExactNextMarkRow.holds Try.pinned (OpenSpec.ofChange fnExactNextMarkWrong)

/-- 'laws.FnMergeAcc': WHATEVER THE INPUT: true; the input reads as it did. -/
def fnMergeAccSpec : ChangeSpec := { name := "fnMergeAcc", fn := fun _ => fun
  | [d] => { results := [.lit (.bool true)], args := [d] }
  | _ => none }
def fnMergeAccRow : OpenClaim := { program := "ytehedhkadjidpab", sum := "72bdb33a3c10d08755c51293a9f6dfb2006f26a0abb5e803e4edca6a39e445b4", func := "loop.example/eventstreams/laws.FnMergeAcc", spec := "fnMergeAcc", apart := false }
def FnMergeAccSaid : Prop := fnMergeAccRow.holds Try.pinned (OpenSpec.ofChange fnMergeAccSpec)

/-- ITS FALSE NEIGHBOUR: 'it returns false'. Refute it at one input. -/
def fnMergeAccWrong : ChangeSpec := { name := "fnMergeAcc", fn := fun _ => fun
  | [d] => { results := [.lit (.bool false)], args := [d] }
  | _ => none }
def FnMergeAccWrongFalsely : Prop := fnMergeAccRow.holds Try.pinned (OpenSpec.ofChange fnMergeAccWrong)

/-- 'laws.FnMergeAccThree': WHATEVER THE INPUT: true; the input reads as it did. -/
def fnMergeAccThreeSpec : ChangeSpec := { name := "fnMergeAccThree", fn := fun _ => fun
  | [d] => { results := [.lit (.bool true)], args := [d] }
  | _ => none }
def fnMergeAccThreeRow : OpenClaim := { program := "ytehedhkadjidpab", sum := "72bdb33a3c10d08755c51293a9f6dfb2006f26a0abb5e803e4edca6a39e445b4", func := "loop.example/eventstreams/laws.FnMergeAccThree", spec := "fnMergeAccThree", apart := false }
def FnMergeAccThreeSaid : Prop := fnMergeAccThreeRow.holds Try.pinned (OpenSpec.ofChange fnMergeAccThreeSpec)

/-- ITS FALSE NEIGHBOUR: 'it returns false'. Refute it at one input. -/
def fnMergeAccThreeWrong : ChangeSpec := { name := "fnMergeAccThree", fn := fun _ => fun
  | [d] => { results := [.lit (.bool false)], args := [d] }
  | _ => none }
def FnMergeAccThreeWrongFalsely : Prop := fnMergeAccThreeRow.holds Try.pinned (OpenSpec.ofChange fnMergeAccThreeWrong)

/-- 'laws.FnAddAcc': WHATEVER THE INPUT: true; the input reads as it did. -/
def fnAddAccSpec : ChangeSpec := { name := "fnAddAcc", fn := fun _ => fun
  | [d] => { results := [.lit (.bool true)], args := [d] }
  | _ => none }
def fnAddAccRow : OpenClaim := { program := "ytehedhkadjidpab", sum := "72bdb33a3c10d08755c51293a9f6dfb2006f26a0abb5e803e4edca6a39e445b4", func := "loop.example/eventstreams/laws.FnAddAcc", spec := "fnAddAcc", apart := false }
def FnAddAccSaid : Prop := fnAddAccRow.holds Try.pinned (OpenSpec.ofChange fnAddAccSpec)

/-- ITS FALSE NEIGHBOUR: 'it returns false'. Refute it at one input. -/
def fnAddAccWrong : ChangeSpec := { name := "fnAddAcc", fn := fun _ => fun
  | [d] => { results := [.lit (.bool false)], args := [d] }
  | _ => none }
def FnAddAccWrongFalsely : Prop := fnAddAccRow.holds Try.pinned (OpenSpec.ofChange fnAddAccWrong)

/-- 'laws.FnAverageOf': WHATEVER THE INPUT: true; the input reads as it did. -/
def fnAverageOfSpec : ChangeSpec := { name := "fnAverageOf", fn := fun _ => fun
  | [d] => { results := [.lit (.bool true)], args := [d] }
  | _ => none }
def fnAverageOfRow : OpenClaim := { program := "ytehedhkadjidpab", sum := "72bdb33a3c10d08755c51293a9f6dfb2006f26a0abb5e803e4edca6a39e445b4", func := "loop.example/eventstreams/laws.FnAverageOf", spec := "fnAverageOf", apart := false }
def FnAverageOfSaid : Prop := fnAverageOfRow.holds Try.pinned (OpenSpec.ofChange fnAverageOfSpec)

/-- ITS FALSE NEIGHBOUR: 'it returns false'. Refute it at one input. -/
def fnAverageOfWrong : ChangeSpec := { name := "fnAverageOf", fn := fun _ => fun
  | [d] => { results := [.lit (.bool false)], args := [d] }
  | _ => none }
def FnAverageOfWrongFalsely : Prop := fnAverageOfRow.holds Try.pinned (OpenSpec.ofChange fnAverageOfWrong)

/-- 'laws.FnExactUpdateInput': WHATEVER THE INPUT: true; the input reads as it did. -/
def fnExactUpdateInputSpec : ChangeSpec := { name := "fnExactUpdateInput", fn := fun _ => fun
  | [d1, d2, d3, d4] => { results := [.lit (.bool true)], args := [d1, d2, d3, d4] }
  | _ => none }
def fnExactUpdateInputRow : OpenClaim := { program := "ytehedhkadjidpab", sum := "72bdb33a3c10d08755c51293a9f6dfb2006f26a0abb5e803e4edca6a39e445b4", func := "loop.example/eventstreams/laws.FnExactUpdateInput", spec := "fnExactUpdateInput", unfollowed := true, recurses := true, apart := false }
def FnExactUpdateInputSaid : Prop := fnExactUpdateInputRow.holds Try.pinned (OpenSpec.ofChange fnExactUpdateInputSpec)

/-- ITS FALSE NEIGHBOUR: 'it returns false'. Refute it at one input. -/
def fnExactUpdateInputWrong : ChangeSpec := { name := "fnExactUpdateInput", fn := fun _ => fun
  | [d1, d2, d3, d4] => { results := [.lit (.bool false)], args := [d1, d2, d3, d4] }
  | _ => none }
def FnExactUpdateInputWrongFalsely : Prop := fnExactUpdateInputRow.holds Try.pinned (OpenSpec.ofChange fnExactUpdateInputWrong)

/- THE SECOND FORM. 'bulk': how many values and letters a reading holds, each counted each time it is reached (what is shared counts as often as it is met; a slice's spare places count too). A statement '..UptoSaid' is the law's where the arguments, and the package variables that the reading takes, are together of bulk at most 1048576: NARROWER than '..Said'. Prove '..Said' where nothing that the law and all that it calls make is longer than what came in: it says more and counts as full. Else prove '..UptoSaid'. A law counts once. -/
mutual
def uptoBulk {H : Type} : DataW H → Nat
  | .lit (.string bytes) => bytes.length + 1
  | .lit _ => 1
  | .nil => 1
  | .ptr d => uptoBulk d + 1
  | .slice elems spare => uptoBulkAll elems + uptoBulkAll spare + 1
  | .agg parts => uptoBulkAll parts + 1
  | .iface _ d => uptoBulk d + 1
  | .map entries => uptoBulkEntries entries + 1
  | .held _ => 1
def uptoBulkAll {H : Type} : List (DataW H) → Nat
  | [] => 0
  | d :: r => uptoBulk d + uptoBulkAll r
def uptoBulkEntries {H : Type} : List (Lit × DataW H) → Nat
  | [] => 0
  | x :: r => uptoBulkEntry x + uptoBulkEntries r
def uptoBulkEntry {H : Type} : Lit × DataW H → Nat
  | (.string bytes, d) => bytes.length + uptoBulk d + 1
  | (_, d) => uptoBulk d + 1
 end
def uptoSmall : (H : Type) → List (DataW H) → Bool := fun _ ds => decide (uptoBulkAll ds ≤ 1048576)
def OpenSpec.upto (s : _root_.Go.ChangeSpec) : _root_.Go.OpenSpec := { _root_.Go.OpenSpec.ofChange s with cond := some uptoSmall }

/-- 'laws.FnIdleInputs', WHERE WHAT IT READS IS OF BULK AT MOST 1048576: true; the input reads as it did. -/
def fnIdleInputsUptoRow : OpenClaim := { program := "ytehedhkadjidpab", sum := "72bdb33a3c10d08755c51293a9f6dfb2006f26a0abb5e803e4edca6a39e445b4", func := "loop.example/eventstreams/laws.FnIdleInputs", spec := "fnIdleInputs", unfollowed := true, recurses := true, apart := false, narrowed := true }
def FnIdleInputsUptoSaid : Prop := fnIdleInputsUptoRow.holds Try.pinned (OpenSpec.upto fnIdleInputsSpec)

/-- 'laws.FnMergeMarks', WHERE WHAT IT READS IS OF BULK AT MOST 1048576: true; the input reads as it did. -/
def fnMergeMarksUptoRow : OpenClaim := { program := "ytehedhkadjidpab", sum := "72bdb33a3c10d08755c51293a9f6dfb2006f26a0abb5e803e4edca6a39e445b4", func := "loop.example/eventstreams/laws.FnMergeMarks", spec := "fnMergeMarks", unfollowed := true, recurses := true, apart := false, narrowed := true }
def FnMergeMarksUptoSaid : Prop := fnMergeMarksUptoRow.holds Try.pinned (OpenSpec.upto fnMergeMarksSpec)

/-- 'laws.FnUpdateInput', WHERE WHAT IT READS IS OF BULK AT MOST 1048576: true; the input reads as it did. -/
def fnUpdateInputUptoRow : OpenClaim := { program := "ytehedhkadjidpab", sum := "72bdb33a3c10d08755c51293a9f6dfb2006f26a0abb5e803e4edca6a39e445b4", func := "loop.example/eventstreams/laws.FnUpdateInput", spec := "fnUpdateInput", unfollowed := true, recurses := true, apart := false, narrowed := true }
def FnUpdateInputUptoSaid : Prop := fnUpdateInputUptoRow.holds Try.pinned (OpenSpec.upto fnUpdateInputSpec)

/-- 'laws.FnUpdateInputMark', WHERE WHAT IT READS IS OF BULK AT MOST 1048576: true; the input reads as it did. -/
def fnUpdateInputMarkUptoRow : OpenClaim := { program := "ytehedhkadjidpab", sum := "72bdb33a3c10d08755c51293a9f6dfb2006f26a0abb5e803e4edca6a39e445b4", func := "loop.example/eventstreams/laws.FnUpdateInputMark", spec := "fnUpdateInputMark", unfollowed := true, recurses := true, apart := false, narrowed := true }
def FnUpdateInputMarkUptoSaid : Prop := fnUpdateInputMarkUptoRow.holds Try.pinned (OpenSpec.upto fnUpdateInputMarkSpec)

/-- 'laws.FnNextMark', WHERE WHAT IT READS IS OF BULK AT MOST 1048576: true; the input reads as it did. -/
def fnNextMarkUptoRow : OpenClaim := { program := "ytehedhkadjidpab", sum := "72bdb33a3c10d08755c51293a9f6dfb2006f26a0abb5e803e4edca6a39e445b4", func := "loop.example/eventstreams/laws.FnNextMark", spec := "fnNextMark", unfollowed := true, recurses := true, apart := false, narrowed := true }
def FnNextMarkUptoSaid : Prop := fnNextMarkUptoRow.holds Try.pinned (OpenSpec.upto fnNextMarkSpec)

/-- 'laws.FnExactMergeMarks', WHERE WHAT IT READS IS OF BULK AT MOST 1048576: true; the input reads as it did. -/
def fnExactMergeMarksUptoRow : OpenClaim := { program := "ytehedhkadjidpab", sum := "72bdb33a3c10d08755c51293a9f6dfb2006f26a0abb5e803e4edca6a39e445b4", func := "loop.example/eventstreams/laws.FnExactMergeMarks", spec := "fnExactMergeMarks", unfollowed := true, recurses := true, apart := false, narrowed := true }
def FnExactMergeMarksUptoSaid : Prop := fnExactMergeMarksUptoRow.holds Try.pinned (OpenSpec.upto fnExactMergeMarksSpec)

/-- 'laws.FnExactNextMark', WHERE WHAT IT READS IS OF BULK AT MOST 1048576: true; the input reads as it did. -/
def fnExactNextMarkUptoRow : OpenClaim := { program := "ytehedhkadjidpab", sum := "72bdb33a3c10d08755c51293a9f6dfb2006f26a0abb5e803e4edca6a39e445b4", func := "loop.example/eventstreams/laws.FnExactNextMark", spec := "fnExactNextMark", unfollowed := true, recurses := true, apart := false, narrowed := true }
def FnExactNextMarkUptoSaid : Prop := fnExactNextMarkUptoRow.holds Try.pinned (OpenSpec.upto fnExactNextMarkSpec)

/-- 'laws.FnMergeAcc', WHERE WHAT IT READS IS OF BULK AT MOST 1048576: true; the input reads as it did. -/
def fnMergeAccUptoRow : OpenClaim := { program := "ytehedhkadjidpab", sum := "72bdb33a3c10d08755c51293a9f6dfb2006f26a0abb5e803e4edca6a39e445b4", func := "loop.example/eventstreams/laws.FnMergeAcc", spec := "fnMergeAcc", apart := false, narrowed := true }
def FnMergeAccUptoSaid : Prop := fnMergeAccUptoRow.holds Try.pinned (OpenSpec.upto fnMergeAccSpec)

/-- 'laws.FnMergeAccThree', WHERE WHAT IT READS IS OF BULK AT MOST 1048576: true; the input reads as it did. -/
def fnMergeAccThreeUptoRow : OpenClaim := { program := "ytehedhkadjidpab", sum := "72bdb33a3c10d08755c51293a9f6dfb2006f26a0abb5e803e4edca6a39e445b4", func := "loop.example/eventstreams/laws.FnMergeAccThree", spec := "fnMergeAccThree", apart := false, narrowed := true }
def FnMergeAccThreeUptoSaid : Prop := fnMergeAccThreeUptoRow.holds Try.pinned (OpenSpec.upto fnMergeAccThreeSpec)

/-- 'laws.FnAddAcc', WHERE WHAT IT READS IS OF BULK AT MOST 1048576: true; the input reads as it did. -/
def fnAddAccUptoRow : OpenClaim := { program := "ytehedhkadjidpab", sum := "72bdb33a3c10d08755c51293a9f6dfb2006f26a0abb5e803e4edca6a39e445b4", func := "loop.example/eventstreams/laws.FnAddAcc", spec := "fnAddAcc", apart := false, narrowed := true }
def FnAddAccUptoSaid : Prop := fnAddAccUptoRow.holds Try.pinned (OpenSpec.upto fnAddAccSpec)

/-- 'laws.FnAverageOf', WHERE WHAT IT READS IS OF BULK AT MOST 1048576: true; the input reads as it did. -/
def fnAverageOfUptoRow : OpenClaim := { program := "ytehedhkadjidpab", sum := "72bdb33a3c10d08755c51293a9f6dfb2006f26a0abb5e803e4edca6a39e445b4", func := "loop.example/eventstreams/laws.FnAverageOf", spec := "fnAverageOf", apart := false, narrowed := true }
def FnAverageOfUptoSaid : Prop := fnAverageOfUptoRow.holds Try.pinned (OpenSpec.upto fnAverageOfSpec)

/-- 'laws.FnExactUpdateInput', WHERE WHAT IT READS IS OF BULK AT MOST 1048576: true; the input reads as it did. -/
def fnExactUpdateInputUptoRow : OpenClaim := { program := "ytehedhkadjidpab", sum := "72bdb33a3c10d08755c51293a9f6dfb2006f26a0abb5e803e4edca6a39e445b4", func := "loop.example/eventstreams/laws.FnExactUpdateInput", spec := "fnExactUpdateInput", unfollowed := true, recurses := true, apart := false, narrowed := true }
def FnExactUpdateInputUptoSaid : Prop := fnExactUpdateInputUptoRow.holds Try.pinned (OpenSpec.upto fnExactUpdateInputSpec)

end Rows
end Go.Proofs.Ytehedhkadjidpab
