/- The law FnExactTriggerMark answers true at every input and leaves its arguments as they were; no condition. -/
import Derived.Test.YthhcjpbgmloacaaRows
import Derived.WalkKit
import Derived.WalkSpells
import Derived.WalkLawsBesides
import Derived.ProofKit
import Derived.OpenShut
import Derived.ShutString
import Derived.ChangeOld
import Derived.Below
import Derived.Lib.SmallJoins
import Derived.Handy
import Derived.Test.YthhcjpbgmloacaaMkT
import Derived.Test.YthhcjpbgmloacaaScTom
namespace Go.Proofs.Ythhcjpbgmloacaa.fnExactTriggerMark
open Go.ChangeShapes Go.WideShapes Go.ChangeAt Go.RowKit Go.Joins
open Go.ChangeMaps (open_string shut_string)
set_option linter.unusedVariables false

theorem own : ownKnob Try.prog.godebug = none := by kernel_rfl
theorem laidOut : laidOutB Try.prog = true := by kernel_rfl
theorem cells23 : Try.prog.cellsOf 23 = 2 := by kernel_rfl
theorem cells25 : Try.prog.cellsOf 25 = 2 := by kernel_rfl
set_option maxRecDepth 100000 in
set_option maxHeartbeats 1000000 in
theorem walk (x0Every : Int) (x0Lateness : Int) (x1Start : Int) (x1End : Int) (x2 : Int) (x3 : Int) (w : World) (l0_0 : -9223372036854775808 ≤ x0Every) (u0_0 : x0Every ≤ 9223372036854775807) (l0_1 : -9223372036854775808 ≤ x0Lateness) (u0_1 : x0Lateness ≤ 9223372036854775807) (l1_0 : -9223372036854775808 ≤ x1Start) (u1_0 : x1Start ≤ 9223372036854775807) (l1_1 : -9223372036854775808 ≤ x1End) (u1_1 : x1End ≤ 9223372036854775807) (l2 : -9223372036854775808 ≤ x2) (u2 : x2 ≤ 9223372036854775807) (l3 : -9223372036854775808 ≤ x3) (u3 : x3 ≤ 9223372036854775807) :
    Calls Try.prog 3 #[.agg #[.int .i64 x0Every, .int .i64 x0Lateness], .agg #[.int .i64 x1Start, .int .i64 x1End], .int .i64 x2, .int .i64 x3] w fun e w' => e = .returned (.bool true) ∧ Below w.heap.size w w' := by
  go_enter Try.func3, Try.ntmps3
  have hB0 : Below w.heap.size w ((w.alloc (.cells #[.int .i64 x0Every, .int .i64 x0Lateness] 23)).alloc (.cells #[.int .i64 x1Start, .int .i64 x1End] 25)).drew := by go_grown
  go_wp2_with fail
  go_region_held3 (fun w' => w'.cell? ⟨w.heap.size, 0, none⟩ = some (.int .i64 x0Every) ∧ w'.cell? ⟨w.heap.size, 1, none⟩ = some (.int .i64 x0Lateness) ∧ w'.cell? ⟨w.heap.size + 1, 0, none⟩ = some (.int .i64 x1Start) ∧ w'.cell? ⟨w.heap.size + 1, 1, none⟩ = some (.int .i64 x1End) ∧ w.heap.size + 2 ≤ w'.heap.size ∧ Below w.heap.size w w') (first | (refine ⟨?_, ?_, ?_, ?_, ?_, ?_⟩ <;> first | assumption | (simp only [World.cell?_drew]; assumption) | (simp only [World.size_drew]; omega) | omega | (go_keep; done)) | go_keep | (go_split_ands; have hz := hb.size; refine ⟨?_, ?_, ?_, ?_, ?_, ?_⟩ <;> first | omega | assumption | (refine (hb.cell (by first | omega | (simp; done) | (simp; omega))).trans ?_; assumption) | (refine Below.trans ?_ (hb.mono (by first | omega | (simp; done) | (simp; omega))); assumption))) (first | (go_at_call 8; refine (toTrigger_any _ _ _).mono ?_; rintro e w1 ⟨rfl, hb⟩) | (go_at_call 9; refine (toWindow_any _ _ _).mono ?_; rintro e w1 ⟨rfl, hb⟩) | (go_at_call 7; refine (mkS_any _ _ _ _ _ _ _).mono ?_; rintro e w1 ⟨rfl, hb⟩))
  rename_i hS
  obtain ⟨s0, s1, s2, s3, s4, s5⟩ := hS
  clear hb hB0
  have sd := s5.drew
  generalize hn0 : mkFire x0Every x0Lateness x1Start x1End x2 x3 = n0 at *
  have Hn0 := Lib.hid hn0
  clear hn0
  generalize hn1 : mkClean x0Every x0Lateness x1Start x1End x2 x3 = n1 at *
  have Hn1 := Lib.hid hn1
  clear hn1
  generalize hn2 : mkOk x0Every x0Lateness x1Start x1End x2 x3 = n2 at *
  have Hn2 := Lib.hid hn2
  clear hn2
  go_wp2_with fail
  go_region_held3 (fun w' => w'.cell? ⟨w.heap.size, 0, none⟩ = some (.int .i64 x0Every) ∧ w'.cell? ⟨w.heap.size, 1, none⟩ = some (.int .i64 x0Lateness) ∧ w'.cell? ⟨w.heap.size + 1, 0, none⟩ = some (.int .i64 x1Start) ∧ w'.cell? ⟨w.heap.size + 1, 1, none⟩ = some (.int .i64 x1End) ∧ w.heap.size + 2 ≤ w'.heap.size ∧ Below w.heap.size w w') (first | (refine ⟨?_, ?_, ?_, ?_, ?_, ?_⟩ <;> first | assumption | (simp only [World.cell?_drew]; assumption) | (simp only [World.size_drew]; omega) | omega | (go_keep; done)) | go_keep | (go_split_ands; have hz := hb.size; refine ⟨?_, ?_, ?_, ?_, ?_, ?_⟩ <;> first | omega | assumption | (refine (hb.cell (by first | omega | (simp; done) | (simp; omega))).trans ?_; assumption) | (refine Below.trans ?_ (hb.mono (by first | omega | (simp; done) | (simp; omega))); assumption))) (first | (go_at_call 8; refine (toTrigger_any _ _ _).mono ?_; rintro e w1 ⟨rfl, hb⟩) | (go_at_call 9; refine (toWindow_any _ _ _).mono ?_; rintro e w1 ⟨rfl, hb⟩) | (go_at_call 10; refine (mkI_any _ _ _ _ _ _ _).mono ?_; rintro e w1 ⟨rfl, hb⟩))
  rename_i hS
  obtain ⟨s0, s1, s2, s3, s4, s5⟩ := hS
  rw [Hn0.out, Hn1.out, Hn2.out]
  go_wp2
  all_goals go_returns
  all_goals exact ⟨by first | rfl | simp, s5⟩
set_option maxRecDepth 100000 in
theorem lifted (os : Os) (started : os.Started) (H : Type) (enc : TypeId × Value → H) :
    ReturnsInHanded {} Try.checked os 3 .any (Rows.fnExactTriggerMarkSpec.pre6 enc Try.prog Try.f3 Rows.fnExactTriggerMarkRow.domain false) (Rows.fnExactTriggerMarkSpec.post enc Try.prog Try.f3 false true false false) := by
  refine returnsInHanded_of_change (C := Try.checked) own started (by kernel_rfl) Try.func3
    (ChangeSpec.witness6 (enc := enc) (C := Try.checked) false ⟨#[], #[.agg #[.int .i64 0, .int .i64 0], .agg #[.int .i64 0, .int .i64 0], .int .i64 0, .int .i64 0], []⟩ 8 (by kernel_rfl) (by kernel_rfl) (by kernel_rfl) (by kernel_rfl)) ?_
  intro W base args ds gs before hval0 hW hcnd _
  have hval : ∀ (j : Nat) t v, Try.f3.params[j]? = some t → args[j]? = some v → Value.okWide Try.prog W .any base t v := hval0
  have hW' := hW
  obtain ⟨p, q, hA0, hV, rfl, hfz, hnd⟩ := hW
  have hA : DataW.TrodAll enc Try.prog W 0 (fun _ => true) true Try.f3.params.toList args.toList ds p := hA0
  rw [Try.params3] at hA hval
  obtain ⟨v0, vs0, d0, ds0, p0, q0, hargs, rfl, rfl, h0, r0⟩ := trodAll_cons hA
  obtain ⟨v1, vs1, d1, ds1, p1, q1, rfl, rfl, rfl, h1, r1⟩ := trodAll_cons r0
  obtain ⟨v2, vs2, d2, ds2, p2, q2, rfl, rfl, rfl, h2, r2⟩ := trodAll_cons r1
  obtain ⟨v3, vs3, d3, ds3, p3, q3, rfl, rfl, rfl, h3, r3⟩ := trodAll_cons r2
  obtain ⟨rfl, rfl, rfl⟩ := trodAll_nil r3
  obtain rfl : args = #[v0, v1, v2, v3] := by cases args; simp_all
  obtain ⟨rfl, rfl⟩ := trodVars_none hV
  have k0 := h0
  have lt0 : ∀ x ∈ p0, x.block < W.heap.size := by obtain ⟨m, hm⟩ := k0; exact DataW.trod_lt m _ _ _ hm
  obtain ⟨c0_0, c0_1, y0_0, y0_1, mm0, rfl, rfl, rfl, hy0_0, hy0_1⟩ := open_agg2 Try.underlying23 (by kernel_rfl) cells23 (hval 0 23 v0 rfl rfl) h0
  obtain ⟨x0Every, e0_0, rfl, wx0_0⟩ := DataW.trod_int Try.underlying3 hy0_0
  simp only [List.cons.injEq, and_true] at e0_0
  subst e0_0
  have b0_0 := bounds_i64 wx0_0
  obtain ⟨x0Lateness, e0_1, rfl, wx0_1⟩ := DataW.trod_int Try.underlying3 hy0_1
  simp only [List.cons.injEq, and_true] at e0_1
  subst e0_1
  have b0_1 := bounds_i64 wx0_1
  have k1 := h1
  have lt1 : ∀ x ∈ p1, x.block < W.heap.size := by obtain ⟨m, hm⟩ := k1; exact DataW.trod_lt m _ _ _ hm
  obtain ⟨c1_0, c1_1, y1_0, y1_1, mm1, rfl, rfl, rfl, hy1_0, hy1_1⟩ := open_agg2 Try.underlying25 (by kernel_rfl) cells25 (hval 1 25 v1 rfl rfl) h1
  obtain ⟨x1Start, e1_0, rfl, wx1_0⟩ := DataW.trod_int Try.underlying3 hy1_0
  simp only [List.cons.injEq, and_true] at e1_0
  subst e1_0
  have b1_0 := bounds_i64 wx1_0
  obtain ⟨x1End, e1_1, rfl, wx1_1⟩ := DataW.trod_int Try.underlying3 hy1_1
  simp only [List.cons.injEq, and_true] at e1_1
  subst e1_1
  have b1_1 := bounds_i64 wx1_1
  have k2 := h2
  have lt2 : ∀ x ∈ p2, x.block < W.heap.size := by obtain ⟨m, hm⟩ := k2; exact DataW.trod_lt m _ _ _ hm
  obtain ⟨x2, rfl, rfl, rfl, wx2⟩ := open_int Try.underlying3 (hval 2 3 v2 rfl rfl) h2
  have b2 := bounds_i64 wx2
  have k3 := h3
  have lt3 : ∀ x ∈ p3, x.block < W.heap.size := by obtain ⟨m, hm⟩ := k3; exact DataW.trod_lt m _ _ _ hm
  obtain ⟨x3, rfl, rfl, rfl, wx3⟩ := open_int Try.underlying3 (hval 3 3 v3 rfl rfl) h3
  have b3 := bounds_i64 wx3
  clear hA0 hval0
  refine (walk x0Every x0Lateness x1Start x1End x2 x3 W b0_0.1 b0_0.2 b0_1.1 b0_1.2 b1_0.1 b1_0.2 b1_1.1 b1_1.2 b2.1 b2.2 b3.1 b3.2).mono fun e W' ⟨he, bel⟩ => ?_
  subst he
  exact ⟨_, rfl, _, _, _, [], _, [], hW', trodAll_mk1 (shut_bool Try.underlying4 _), (trodAll_cons_mk (Below.trod laidOut (by kernel_rfl) (of_decide_eq_true (by kernel_rfl)) k0 bel lt0) (trodAll_cons_mk (Below.trod laidOut (by kernel_rfl) (of_decide_eq_true (by kernel_rfl)) k1 bel lt1) (trodAll_cons_mk (Below.trod laidOut (by kernel_rfl) (of_decide_eq_true (by kernel_rfl)) k2 bel lt2) (trodAll_cons_mk (Below.trod laidOut (by kernel_rfl) (of_decide_eq_true (by kernel_rfl)) k3 bel lt3) trodAll_mk0)))), rfl, bel.frame _, fun h => by cases h⟩

theorem over : Rows.fnExactTriggerMarkRow.holds Try.pinned (OpenSpec.ofChange Rows.fnExactTriggerMarkSpec) :=
  OpenClaim.holds_of_wide 3 Try.f3 rfl rfl rfl rfl rfl rfl rfl ⟨rfl, rfl, rfl, rfl, rfl⟩ rfl rfl rfl rfl rfl (by kernel_rfl) Try.func3 (by kernel_rfl)
    (of_decide_eq_true (by kernel_rfl)) (by unfold Func.isWrapper; first | (rw [if_pos (by decide +kernel)]; kernel_rfl) | (rw [if_neg (by decide +kernel)]; exact ⟨rfl, rfl⟩))
    (fun os started H enc _ => lifted os started H enc)

theorem proved : Rows.FnExactTriggerMarkSaid := over
#print axioms proved
end Go.Proofs.Ythhcjpbgmloacaa.fnExactTriggerMark
