/- The law FnExactCompareEvents answers true at every input and leaves its arguments as they were; no condition. -/
import Derived.Test.YtmbhpnjhhhcjiacRows
import Derived.WalkKit
import Derived.WalkSpells
import Derived.WalkLawsBesides
import Derived.ProofKit
import Derived.OpenShut
import Derived.ShutString
import Derived.ChangeOld
import Derived.Below
import Derived.Lib.SmallJoins
import Derived.Handy
import Derived.Test.YtmbhpnjhhhcjiacCmp
import Derived.Test.YtmbhpnjhhhcjiacToEv
import Derived.Deep.RegionHeld3
namespace Go.Proofs.Ytmbhpnjhhhcjiac.fnExactCompareEvents
open Go.ChangeShapes Go.WideShapes Go.ChangeAt Go.RowKit Go.Joins
open Go.ChangeMaps (open_string shut_string)
set_option linter.unusedVariables false

theorem own : ownKnob Try.prog.godebug = none := by kernel_rfl
theorem laidOut : laidOutB Try.prog = true := by kernel_rfl
theorem cells35 : Try.prog.cellsOf 35 = 3 := by kernel_rfl
set_option maxHeartbeats 1000000 in
theorem walk (x0Time : Int) (x0Key : Int) (x0Value : Int) (x1Time : Int) (x1Key : Int) (x1Value : Int) (w : World) (l0_0 : -9223372036854775808 ≤ x0Time) (u0_0 : x0Time ≤ 9223372036854775807) (l0_1 : -9223372036854775808 ≤ x0Key) (u0_1 : x0Key ≤ 9223372036854775807) (l0_2 : -9223372036854775808 ≤ x0Value) (u0_2 : x0Value ≤ 9223372036854775807) (l1_0 : -9223372036854775808 ≤ x1Time) (u1_0 : x1Time ≤ 9223372036854775807) (l1_1 : -9223372036854775808 ≤ x1Key) (u1_1 : x1Key ≤ 9223372036854775807) (l1_2 : -9223372036854775808 ≤ x1Value) (u1_2 : x1Value ≤ 9223372036854775807) :
    Calls Try.prog 6 #[.agg #[.int .i64 x0Time, .int .i64 x0Key, .int .i64 x0Value], .agg #[.int .i64 x1Time, .int .i64 x1Key, .int .i64 x1Value]] w fun e w' => e = .returned (.bool true) ∧ Below w.heap.size w w' := by
  go_enter Try.func6, Try.ntmps6
  have hB0 : Below w.heap.size w ((w.alloc (.cells #[.int .i64 x0Time, .int .i64 x0Key, .int .i64 x0Value] 35)).alloc (.cells #[.int .i64 x1Time, .int .i64 x1Key, .int .i64 x1Value] 35)).drew := by go_grown
  go_wp2_with fail
  go_region_held3 (fun w' => w'.cell? ⟨w.heap.size, 0, none⟩ = some (.int .i64 x0Time) ∧ w'.cell? ⟨w.heap.size, 1, none⟩ = some (.int .i64 x0Key) ∧ w'.cell? ⟨w.heap.size, 2, none⟩ = some (.int .i64 x0Value) ∧ w'.cell? ⟨w.heap.size + 1, 0, none⟩ = some (.int .i64 x1Time) ∧ w'.cell? ⟨w.heap.size + 1, 1, none⟩ = some (.int .i64 x1Key) ∧ w'.cell? ⟨w.heap.size + 1, 2, none⟩ = some (.int .i64 x1Value) ∧ w.heap.size + 2 ≤ w'.heap.size ∧ Below w.heap.size w w') (first | go_keep | (go_split_ands; have hz := hb.size; refine ⟨?_, ?_, ?_, ?_, ?_, ?_, ?_, ?_⟩ <;> first | omega | (refine (hb.cell (by first | omega | (simp; done) | (simp; omega))).trans ?_; assumption) | (refine Below.trans ?_ (hb.mono (by first | omega | (simp; done) | (simp; omega))); assumption))) (first | (go_at_call 24; refine (toEvent_any _ _ _ _).mono ?_; rintro e w1 ⟨rfl, hb⟩) | (go_at_call 26; refine (cmpSpec_any _ _ _ _ _ _ _).mono ?_; rintro e w1 ⟨rfl, hb⟩))
  rename_i hS
  clear hb hB0
  obtain ⟨s0, s1, s2, s3, s4, s5, s6, s7⟩ := hS
  have s7d := s7.drew
  generalize hn : cmpE x0Time x0Key x0Value x1Time x1Key x1Value = n at *
  have Hn := Lib.hid hn
  clear hn
  go_wp2_with fail
  go_region_held3 (fun w' => w'.cell? ⟨w.heap.size, 0, none⟩ = some (.int .i64 x0Time) ∧ w'.cell? ⟨w.heap.size, 1, none⟩ = some (.int .i64 x0Key) ∧ w'.cell? ⟨w.heap.size, 2, none⟩ = some (.int .i64 x0Value) ∧ w'.cell? ⟨w.heap.size + 1, 0, none⟩ = some (.int .i64 x1Time) ∧ w'.cell? ⟨w.heap.size + 1, 1, none⟩ = some (.int .i64 x1Key) ∧ w'.cell? ⟨w.heap.size + 1, 2, none⟩ = some (.int .i64 x1Value) ∧ w.heap.size + 2 ≤ w'.heap.size ∧ Below w.heap.size w w') (first | go_keep | (go_split_ands; have hz := hb.size; refine ⟨?_, ?_, ?_, ?_, ?_, ?_, ?_, ?_⟩ <;> first | omega | (refine (hb.cell (by first | omega | (simp; done) | (simp; omega))).trans ?_; assumption) | (refine Below.trans ?_ (hb.mono (by first | omega | (simp; done) | (simp; omega))); assumption))) (first | (go_at_call 24; refine (toEvent_any _ _ _ _).mono ?_; rintro e w1 ⟨rfl, hb⟩) | (go_at_call 27; refine (cmpImpl_any _ _ _ _ _ _ _).mono ?_; rintro e w1 ⟨rfl, hb⟩))
  rename_i hS
  obtain ⟨s0, s1, s2, s3, s4, s5, s6, s7⟩ := hS
  rw [Hn.out]
  go_wp2
  all_goals go_returns
  all_goals exact ⟨rfl, s7⟩
set_option maxRecDepth 100000 in
theorem lifted (os : Os) (started : os.Started) (H : Type) (enc : TypeId × Value → H) :
    ReturnsInHanded {} Try.checked os 6 .any (Rows.fnExactCompareEventsSpec.pre6 enc Try.prog Try.f6 Rows.fnExactCompareEventsRow.domain false) (Rows.fnExactCompareEventsSpec.post enc Try.prog Try.f6 false true false false) := by
  refine returnsInHanded_of_change (C := Try.checked) own started (by kernel_rfl) Try.func6
    (ChangeSpec.witness6 (enc := enc) (C := Try.checked) false ⟨#[], #[.agg #[.int .i64 0, .int .i64 0, .int .i64 0], .agg #[.int .i64 0, .int .i64 0, .int .i64 0]], []⟩ 8 (by kernel_rfl) (by kernel_rfl) (by kernel_rfl) (by kernel_rfl)) ?_
  intro W base args ds gs before hval0 hW hcnd _
  have hval : ∀ (j : Nat) t v, Try.f6.params[j]? = some t → args[j]? = some v → Value.okWide Try.prog W .any base t v := hval0
  have hW' := hW
  obtain ⟨p, q, hA0, hV, rfl, hfz, hnd⟩ := hW
  have hA : DataW.TrodAll enc Try.prog W 0 (fun _ => true) true Try.f6.params.toList args.toList ds p := hA0
  rw [Try.params6] at hA hval
  obtain ⟨v0, vs0, d0, ds0, p0, q0, hargs, rfl, rfl, h0, r0⟩ := trodAll_cons hA
  obtain ⟨v1, vs1, d1, ds1, p1, q1, rfl, rfl, rfl, h1, r1⟩ := trodAll_cons r0
  obtain ⟨rfl, rfl, rfl⟩ := trodAll_nil r1
  obtain rfl : args = #[v0, v1] := by cases args; simp_all
  obtain ⟨rfl, rfl⟩ := trodVars_none hV
  have k0 := h0
  have lt0 : ∀ x ∈ p0, x.block < W.heap.size := by obtain ⟨m, hm⟩ := k0; exact DataW.trod_lt m _ _ _ hm
  obtain ⟨c0_0, c0_1, c0_2, y0_0, y0_1, y0_2, mm0, rfl, rfl, rfl, hy0_0, hy0_1, hy0_2⟩ := open_agg3 Try.underlying35 (by kernel_rfl) cells35 (hval 0 35 v0 rfl rfl) h0
  obtain ⟨x0Time, e0_0, rfl, wx0_0⟩ := DataW.trod_int Try.underlying3 hy0_0
  simp only [List.cons.injEq, and_true] at e0_0
  subst e0_0
  have b0_0 := bounds_i64 wx0_0
  obtain ⟨x0Key, e0_1, rfl, wx0_1⟩ := DataW.trod_int Try.underlying3 hy0_1
  simp only [List.cons.injEq, and_true] at e0_1
  subst e0_1
  have b0_1 := bounds_i64 wx0_1
  obtain ⟨x0Value, e0_2, rfl, wx0_2⟩ := DataW.trod_int Try.underlying3 hy0_2
  simp only [List.cons.injEq, and_true] at e0_2
  subst e0_2
  have b0_2 := bounds_i64 wx0_2
  have k1 := h1
  have lt1 : ∀ x ∈ p1, x.block < W.heap.size := by obtain ⟨m, hm⟩ := k1; exact DataW.trod_lt m _ _ _ hm
  obtain ⟨c1_0, c1_1, c1_2, y1_0, y1_1, y1_2, mm1, rfl, rfl, rfl, hy1_0, hy1_1, hy1_2⟩ := open_agg3 Try.underlying35 (by kernel_rfl) cells35 (hval 1 35 v1 rfl rfl) h1
  obtain ⟨x1Time, e1_0, rfl, wx1_0⟩ := DataW.trod_int Try.underlying3 hy1_0
  simp only [List.cons.injEq, and_true] at e1_0
  subst e1_0
  have b1_0 := bounds_i64 wx1_0
  obtain ⟨x1Key, e1_1, rfl, wx1_1⟩ := DataW.trod_int Try.underlying3 hy1_1
  simp only [List.cons.injEq, and_true] at e1_1
  subst e1_1
  have b1_1 := bounds_i64 wx1_1
  obtain ⟨x1Value, e1_2, rfl, wx1_2⟩ := DataW.trod_int Try.underlying3 hy1_2
  simp only [List.cons.injEq, and_true] at e1_2
  subst e1_2
  have b1_2 := bounds_i64 wx1_2
  clear hA0 hval0
  refine (walk x0Time x0Key x0Value x1Time x1Key x1Value W b0_0.1 b0_0.2 b0_1.1 b0_1.2 b0_2.1 b0_2.2 b1_0.1 b1_0.2 b1_1.1 b1_1.2 b1_2.1 b1_2.2).mono fun e W' ⟨he, bel⟩ => ?_
  subst he
  exact ⟨_, rfl, _, _, _, [], _, [], hW', trodAll_mk1 (shut_bool Try.underlying4 _), (trodAll_cons_mk (Below.trod laidOut (by kernel_rfl) (of_decide_eq_true (by kernel_rfl)) k0 bel lt0) (trodAll_cons_mk (Below.trod laidOut (by kernel_rfl) (of_decide_eq_true (by kernel_rfl)) k1 bel lt1) trodAll_mk0)), rfl, bel.frame _, fun h => by cases h⟩

theorem over : Rows.fnExactCompareEventsRow.holds Try.pinned (OpenSpec.ofChange Rows.fnExactCompareEventsSpec) :=
  OpenClaim.holds_of_wide 6 Try.f6 rfl rfl rfl rfl rfl rfl rfl ⟨rfl, rfl, rfl, rfl, rfl⟩ rfl rfl rfl rfl rfl (by kernel_rfl) Try.func6 (by kernel_rfl)
    (of_decide_eq_true (by kernel_rfl)) (by unfold Func.isWrapper; first | (rw [if_pos (by decide +kernel)]; kernel_rfl) | (rw [if_neg (by decide +kernel)]; exact ⟨rfl, rfl⟩))
    (fun os started H enc _ => lifted os started H enc)

theorem proved : Rows.FnExactCompareEventsSaid := over
#print axioms proved
end Go.Proofs.Ytmbhpnjhhhcjiac.fnExactCompareEvents
