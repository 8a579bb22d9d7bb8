/- The law FnExactMergeMarks answers true at every input and leaves its arguments as they were; no condition. -/
import Derived.Test.YtehedhkadjidpabRows
import Derived.WalkKit
import Derived.WalkSpells
import Derived.WalkLawsBesides
import Derived.ProofKit
import Derived.OpenShut
import Derived.ShutString
import Derived.ChangeOld
import Derived.Below
import Derived.Lib.SmallJoins
import Derived.Handy
import Derived.Test.YtehedhkadjidpabMay
import Derived.Test.YtehedhkadjidpabMmN
import Derived.Test.YtehedhkadjidpabTyOpenInput
namespace Go.Proofs.Ytehedhkadjidpab.fnExactMergeMarks
open Go.ChangeShapes Go.WideShapes Go.ChangeAt Go.RowKit Go.Joins
open Go.ChangeMaps (open_string shut_string)
set_option linter.unusedVariables false

theorem own : ownKnob Try.prog.godebug = none := by kernel_rfl
theorem laidOut : laidOutB Try.prog = true := by kernel_rfl
set_option maxRecDepth 100000 in
set_option maxHeartbeats 1000000 in
theorem walk (a0 : Option Addr) (cap0 : Nat) (l0 : List InputR) (x1 : Int) (x2 : Int) (w : World) (m0 : l0.length ≤ maxLen) (w0 : RowA InputR.enc 2 w a0 l0) (l1 : -9223372036854775808 ≤ x1) (u1 : x1 ≤ 9223372036854775807) (l2 : -9223372036854775808 ≤ x2) (u2 : x2 ≤ 9223372036854775807) :
    Calls Try.prog 8 #[.slice a0 l0.length cap0, .int .i64 x1, .int .i64 x2] w fun e w' => e = .returned (.bool true) ∧ Below w.heap.size w w' := by
  have hlb0 := m0
  by_cases hlen0 : l0.length ≤ 1048576
  · have ha0 : Row InputR.enc 2 w a0 l0 := ⟨by omega, w0⟩
    have B0 : Below w.heap.size w w := Below.refl _ _
    clear hlb0 m0 w0
    go_enter Try.func8, Try.ntmps8
    go_wp2_with fail
    refine (szInputS_ok a0 l0.length cap0 _ (by omega)).mono ?_
    rintro e w0 ⟨rfl, rfl⟩
    go_wp2_with fail
    refine (toInputS_any a0 cap0 l0 w (ha0.keep B0)).mono ?_
    rintro e w1 ⟨A1, c1, rfl, o1_1, b1⟩
    have B1 := B0.trans (b1.mono B0.size)
    have z1 := b1.size
    clear b1
    have lo1 : ∀ g, Value.ownBlock (.slice A1 (l0).length c1) = some g → w.heap.size ≤ g := fun g hg => (o1_1.lt g hg).1
    have hi1 : ∀ g, Value.ownBlock (.slice A1 (l0).length c1) = some g → g < w1.heap.size := fun g hg => (o1_1.lt g hg).2
    go_wp2_with fail
    refine (specMM_any A1 c1 l0 x1 x2 w1 (o1_1.row InputR.enc_len)).mono ?_
    rintro e w2 ⟨rfl, b2⟩
    have B2 := B1.trans (b2.mono B1.size)
    have z2 := b2.size
    have o1_2 := o1_1.keep b2
    clear o1_1
    clear b2
    clear o1_2
    go_wp2_with fail
    refine (toInputS_any a0 cap0 l0 w2 (ha0.keep B2)).mono ?_
    rintro e w3 ⟨A2, c2, rfl, o2_3, b3⟩
    have B3 := B2.trans (b3.mono B2.size)
    have z3 := b3.size
    clear b3
    have lo2 : ∀ g, Value.ownBlock (.slice A2 (l0).length c2) = some g → w2.heap.size ≤ g := fun g hg => (o2_3.lt g hg).1
    have hi2 : ∀ g, Value.ownBlock (.slice A2 (l0).length c2) = some g → g < w3.heap.size := fun g hg => (o2_3.lt g hg).2
    go_wp2_with fail
    refine (implMM_any A2 c2 l0 x1 x2 w3 (o2_3.row InputR.enc_len) o2_3.lenCap).mono ?_
    rintro e w4 ⟨rfl, b4⟩
    have B4 := B3.trans (b4.mono B3.size)
    have z4 := b4.size
    have o2_4 := o2_3.keep b4
    clear o2_3
    clear b4
    go_wp2_with fail
    refine (toInputS_any a0 cap0 l0 w4 (ha0.keep B4)).mono ?_
    rintro e w5 ⟨A3, c3, rfl, o3_5, b5⟩
    have B5 := B4.trans (b5.mono B4.size)
    have z5 := b5.size
    have o2_5 := o2_4.keep b5
    clear o2_4
    clear b5
    have lo3 : ∀ g, Value.ownBlock (.slice A3 (l0).length c3) = some g → w4.heap.size ≤ g := fun g hg => (o3_5.lt g hg).1
    have hi3 : ∀ g, Value.ownBlock (.slice A3 (l0).length c3) = some g → g < w5.heap.size := fun g hg => (o3_5.lt g hg).2
    go_wp2_with fail
    refine (eqInputS_same A2 A3 c2 c3 _ w5 (o2_5.row InputR.enc_len) (o3_5.row InputR.enc_len)).mono ?_
    rintro e w6 ⟨rfl, b6⟩
    have B6 := B5.trans (b6.mono B5.size)
    have z6 := b6.size
    have o2_6 := o2_5.keep b6
    clear o2_5
    have o3_6 := o3_5.keep b6
    clear o3_5
    clear b6
    clear o3_6
    go_wp2
    all_goals go_returns
    all_goals exact ⟨rfl, B6⟩
  · go_enter Try.func8, Try.ntmps8
    go_wp2_with fail
    refine (szInputS_big a0 l0.length cap0 _ (by omega) hlb0).mono ?_
    rintro e w1 ⟨rfl, rfl⟩
    go_wp2
    all_goals go_returns
    all_goals exact ⟨rfl, by go_grown⟩
set_option maxRecDepth 100000 in
theorem lifted (os : Os) (started : os.Started) (H : Type) (enc : TypeId × Value → H) :
    ReturnsInHanded {} Try.checked os 8 .any (Rows.fnExactMergeMarksSpec.pre6 enc Try.prog Try.f8 Rows.fnExactMergeMarksRow.domain false) (Rows.fnExactMergeMarksSpec.post enc Try.prog Try.f8 false true false false) := by
  refine returnsInHanded_of_change (C := Try.checked) own started (by kernel_rfl) Try.func8
    (ChangeSpec.witness6 (enc := enc) (C := Try.checked) false ⟨#[], #[.slice none 0 0, .int .i64 0, .int .i64 0], []⟩ 8 (by kernel_rfl) (by kernel_rfl) (by kernel_rfl) (by kernel_rfl)) ?_
  intro W base args ds gs before hval0 hW hcnd _
  have hval : ∀ (j : Nat) t v, Try.f8.params[j]? = some t → args[j]? = some v → Value.okWide Try.prog W .any base t v := hval0
  have hW' := hW
  obtain ⟨p, q, hA0, hV, rfl, hfz, hnd⟩ := hW
  have hA : DataW.TrodAll enc Try.prog W 0 (fun _ => true) true Try.f8.params.toList args.toList ds p := hA0
  rw [Try.params8] at hA hval
  obtain ⟨v0, vs0, d0, ds0, p0, q0, hargs, rfl, rfl, h0, r0⟩ := trodAll_cons hA
  obtain ⟨v1, vs1, d1, ds1, p1, q1, rfl, rfl, rfl, h1, r1⟩ := trodAll_cons r0
  obtain ⟨v2, vs2, d2, ds2, p2, q2, rfl, rfl, rfl, h2, r2⟩ := trodAll_cons r1
  obtain ⟨rfl, rfl, rfl⟩ := trodAll_nil r2
  obtain rfl : args = #[v0, v1, v2] := by cases args; simp_all
  obtain ⟨rfl, rfl⟩ := trodVars_none hV
  have k0 := h0
  have lt0 : ∀ x ∈ p0, x.block < W.heap.size := by obtain ⟨m, hm⟩ := k0; exact DataW.trod_lt m _ _ _ hm
  obtain ⟨a0, cap0, l0, rfl, m0, w0⟩ := open_InputS (hval 0 42 v0 rfl rfl) h0
  have k1 := h1
  have lt1 : ∀ x ∈ p1, x.block < W.heap.size := by obtain ⟨m, hm⟩ := k1; exact DataW.trod_lt m _ _ _ hm
  obtain ⟨x1, rfl, rfl, rfl, wx1⟩ := open_int Try.underlying3 (hval 1 3 v1 rfl rfl) h1
  have b1 := bounds_i64 wx1
  have k2 := h2
  have lt2 : ∀ x ∈ p2, x.block < W.heap.size := by obtain ⟨m, hm⟩ := k2; exact DataW.trod_lt m _ _ _ hm
  obtain ⟨x2, rfl, rfl, rfl, wx2⟩ := open_int Try.underlying3 (hval 2 3 v2 rfl rfl) h2
  have b2 := bounds_i64 wx2
  clear hA0 hval0
  refine (walk a0 cap0 l0 x1 x2 W m0 w0 b1.1 b1.2 b2.1 b2.2).mono fun e W' ⟨he, bel⟩ => ?_
  subst he
  exact ⟨_, rfl, _, _, _, [], _, [], hW', trodAll_mk1 (shut_bool Try.underlying4 _), (trodAll_cons_mk (Below.trod laidOut (by kernel_rfl) (of_decide_eq_true (by kernel_rfl)) k0 bel lt0) (trodAll_cons_mk (Below.trod laidOut (by kernel_rfl) (of_decide_eq_true (by kernel_rfl)) k1 bel lt1) (trodAll_cons_mk (Below.trod laidOut (by kernel_rfl) (of_decide_eq_true (by kernel_rfl)) k2 bel lt2) trodAll_mk0))), rfl, bel.frame _, fun h => by cases h⟩

theorem closed : joinedFacts Try.checked.prog 8 Try.f8 Rows.fnExactMergeMarksSpec Rows.fnExactMergeMarksRow = true := by
  unfold joinedFacts
  rw [mayE, liftE, makeE]
  kernel_rfl

theorem over : Rows.fnExactMergeMarksRow.holds Try.pinned (OpenSpec.ofChange Rows.fnExactMergeMarksSpec) :=
  OpenClaim.holds_of_wide 8 Try.f8 rfl rfl rfl rfl rfl rfl rfl ⟨rfl, rfl, rfl, rfl, rfl⟩ rfl rfl rfl rfl rfl (by kernel_rfl) Try.func8 closed
    (of_decide_eq_true (by kernel_rfl)) (by unfold Func.isWrapper; first | (rw [if_pos (by decide +kernel)]; kernel_rfl) | (rw [if_neg (by decide +kernel)]; exact ⟨rfl, rfl⟩))
    (fun os started H enc _ => lifted os started H enc)

theorem proved : Rows.FnExactMergeMarksSaid := over
#print axioms proved
end Go.Proofs.Ytehedhkadjidpab.fnExactMergeMarks
