/- The law FnExactAverageOf answers true at every input and leaves its arguments as they were; no condition. -/
import Derived.Test.YtpfcmejcgkfjmaaRows
import Derived.WalkKit
import Derived.WalkSpells
import Derived.WalkLawsBesides
import Derived.ProofKit
import Derived.OpenShut
import Derived.ShutString
import Derived.ChangeOld
import Derived.Below
import Derived.Lib.SmallJoins
import Derived.Handy
import Derived.Test.YtpfcmejcgkfjmaaAvg
namespace Go.Proofs.Ytpfcmejcgkfjmaa.fnExactAverageOf
open Go.ChangeShapes Go.WideShapes Go.ChangeAt Go.RowKit Go.Joins
open Go.ChangeMaps (open_string shut_string)
set_option linter.unusedVariables false

theorem own : ownKnob Try.prog.godebug = none := by kernel_rfl
theorem laidOut : laidOutB Try.prog = true := by kernel_rfl
theorem cells33 : Try.prog.cellsOf 33 = 4 := by kernel_rfl
set_option maxHeartbeats 2000000 in
theorem walk (x0Count : Int) (x0Sum : Int) (x0Least : Int) (x0Most : Int) (w : World) (l0_0 : -9223372036854775808 ≤ x0Count) (u0_0 : x0Count ≤ 9223372036854775807) (l0_1 : -9223372036854775808 ≤ x0Sum) (u0_1 : x0Sum ≤ 9223372036854775807) (l0_2 : -9223372036854775808 ≤ x0Least) (u0_2 : x0Least ≤ 9223372036854775807) (l0_3 : -9223372036854775808 ≤ x0Most) (u0_3 : x0Most ≤ 9223372036854775807) :
    Calls Try.prog 7 #[.agg #[.int .i64 x0Count, .int .i64 x0Sum, .int .i64 x0Least, .int .i64 x0Most]] w fun e w' => e = .returned (.bool true) ∧ Below w.heap.size w w' := by
  have BB : Below w.heap.size w (w.alloc (.cells #[.int .i64 x0Count, .int .i64 x0Sum, .int .i64 x0Least, .int .i64 x0Most] 33)) := by go_grown
  go_enter Try.func7, Try.ntmps7
  go_wp2_with (first | (go_at_call 19; refine (toAcc_any _ _ _ _ _).mono ?_; rintro e wn ⟨rfl, hb⟩; obtain ⟨hc, hf⟩ := bcell hb; have hz : w.heap.size < wn.heap.size := (by have := hb.size; (try simp at this); omega); replace BB := BB.trans (hb.mono BB.size)) | (go_at_call 24; refine (avgS_any _ _ _ _ _).mono ?_; rintro e wn ⟨rfl, hb⟩; obtain ⟨hc, hf⟩ := bcell hb; have hz : w.heap.size < wn.heap.size := (by have := hb.size; (try simp at this); omega); replace BB := BB.trans (hb.mono BB.size)) | (go_at_call 25; refine (avgI_any _ _ _ _ _).mono ?_; rintro e wn ⟨rfl, hb⟩; obtain ⟨hc, hf⟩ := bcell hb; have hz : w.heap.size < wn.heap.size := (by have := hb.size; (try simp at this); omega); replace BB := BB.trans (hb.mono BB.size)) | go_in)
  all_goals go_returns
  all_goals exact ⟨by first | rfl | simp, BB⟩
set_option maxRecDepth 100000 in
theorem lifted (os : Os) (started : os.Started) (H : Type) (enc : TypeId × Value → H) :
    ReturnsInHanded {} Try.checked os 7 .any (Rows.fnExactAverageOfSpec.pre6 enc Try.prog Try.f7 Rows.fnExactAverageOfRow.domain false) (Rows.fnExactAverageOfSpec.post enc Try.prog Try.f7 false true false false) := by
  refine returnsInHanded_of_change (C := Try.checked) own started (by kernel_rfl) Try.func7
    (ChangeSpec.witness6 (enc := enc) (C := Try.checked) false ⟨#[], #[.agg #[.int .i64 0, .int .i64 0, .int .i64 0, .int .i64 0]], []⟩ 8 (by kernel_rfl) (by kernel_rfl) (by kernel_rfl) (by kernel_rfl)) ?_
  intro W base args ds gs before hval0 hW hcnd _
  have hval : ∀ (j : Nat) t v, Try.f7.params[j]? = some t → args[j]? = some v → Value.okWide Try.prog W .any base t v := hval0
  have hW' := hW
  obtain ⟨p, q, hA0, hV, rfl, hfz, hnd⟩ := hW
  have hA : DataW.TrodAll enc Try.prog W 0 (fun _ => true) true Try.f7.params.toList args.toList ds p := hA0
  rw [Try.params7] at hA hval
  obtain ⟨v0, vs0, d0, ds0, p0, q0, hargs, rfl, rfl, h0, r0⟩ := trodAll_cons hA
  obtain ⟨rfl, rfl, rfl⟩ := trodAll_nil r0
  obtain rfl : args = #[v0] := by cases args; simp_all
  obtain ⟨rfl, rfl⟩ := trodVars_none hV
  have k0 := h0
  have lt0 : ∀ x ∈ p0, x.block < W.heap.size := by obtain ⟨m, hm⟩ := k0; exact DataW.trod_lt m _ _ _ hm
  obtain ⟨c0_0, c0_1, c0_2, c0_3, y0_0, y0_1, y0_2, y0_3, mm0, rfl, rfl, rfl, hy0_0, hy0_1, hy0_2, hy0_3⟩ := open_agg4 Try.underlying33 (by kernel_rfl) cells33 (hval 0 33 v0 rfl rfl) h0
  obtain ⟨x0Count, e0_0, rfl, wx0_0⟩ := DataW.trod_int Try.underlying3 hy0_0
  simp only [List.cons.injEq, and_true] at e0_0
  subst e0_0
  have b0_0 := bounds_i64 wx0_0
  obtain ⟨x0Sum, e0_1, rfl, wx0_1⟩ := DataW.trod_int Try.underlying3 hy0_1
  simp only [List.cons.injEq, and_true] at e0_1
  subst e0_1
  have b0_1 := bounds_i64 wx0_1
  obtain ⟨x0Least, e0_2, rfl, wx0_2⟩ := DataW.trod_int Try.underlying3 hy0_2
  simp only [List.cons.injEq, and_true] at e0_2
  subst e0_2
  have b0_2 := bounds_i64 wx0_2
  obtain ⟨x0Most, e0_3, rfl, wx0_3⟩ := DataW.trod_int Try.underlying3 hy0_3
  simp only [List.cons.injEq, and_true] at e0_3
  subst e0_3
  have b0_3 := bounds_i64 wx0_3
  clear hA0 hval0
  refine (walk x0Count x0Sum x0Least x0Most W b0_0.1 b0_0.2 b0_1.1 b0_1.2 b0_2.1 b0_2.2 b0_3.1 b0_3.2).mono fun e W' ⟨he, bel⟩ => ?_
  subst he
  exact ⟨_, rfl, _, _, _, [], _, [], hW', trodAll_mk1 (shut_bool Try.underlying4 _), (trodAll_cons_mk (Below.trod laidOut (by kernel_rfl) (of_decide_eq_true (by kernel_rfl)) k0 bel lt0) trodAll_mk0), rfl, bel.frame _, fun h => by cases h⟩

theorem over : Rows.fnExactAverageOfRow.holds Try.pinned (OpenSpec.ofChange Rows.fnExactAverageOfSpec) :=
  OpenClaim.holds_of_wide 7 Try.f7 rfl rfl rfl rfl rfl rfl rfl ⟨rfl, rfl, rfl, rfl, rfl⟩ rfl rfl rfl rfl rfl (by kernel_rfl) Try.func7 (by kernel_rfl)
    (of_decide_eq_true (by kernel_rfl)) (by unfold Func.isWrapper; first | (rw [if_pos (by decide +kernel)]; kernel_rfl) | (rw [if_neg (by decide +kernel)]; exact ⟨rfl, rfl⟩))
    (fun os started H enc _ => lifted os started H enc)

theorem proved : Rows.FnExactAverageOfSaid := over
#print axioms proved
end Go.Proofs.Ytpfcmejcgkfjmaa.fnExactAverageOf
