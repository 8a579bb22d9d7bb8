/- The law FnExactMovedGroups answers true at every input and leaves its arguments as they were; no condition. -/
import Derived.Test.YtcpjidbinhfapaaRows
import Derived.WalkKit
import Derived.WalkSpells
import Derived.WalkLawsBesides
import Derived.ProofKit
import Derived.OpenShut
import Derived.ShutString
import Derived.ChangeOld
import Derived.Below
import Derived.Lib.SmallJoins
import Derived.Handy
import Derived.Test.YtcpjidbinhfapaaMv
namespace Go.Proofs.Ytcpjidbinhfapaa.fnExactMovedGroups
open Go.ChangeShapes Go.WideShapes Go.ChangeAt Go.RowKit Go.Joins
open Go.ChangeMaps (open_string shut_string)
set_option linter.unusedVariables false

theorem own : ownKnob Try.prog.godebug = none := by kernel_rfl
theorem laidOut : laidOutB Try.prog = true := by kernel_rfl
set_option maxHeartbeats 1000000 in
theorem walk (x0 : Int) (x1 : Int) (w : World) (l0 : -9223372036854775808 ≤ x0) (u0 : x0 ≤ 9223372036854775807) (l1 : -9223372036854775808 ≤ x1) (u1 : x1 ≤ 9223372036854775807) :
    Calls Try.prog 6 #[.int .i64 x0, .int .i64 x1] w fun e w' => e = .returned (.bool true) ∧ Below w.heap.size w w' := by
  have B0 : Below w.heap.size w w := Below.refl _ _
  go_enter Try.func6, Try.ntmps6
  go_wp2_with fail
  refine (mvS_any x0 x1 w ).mono ?_
  rintro e w1 ⟨A1, c1, rfl, o1_1, b1⟩
  have B1 := B0.trans (b1.mono B0.size)
  have z1 := b1.size
  clear b1
  have lo1 : ∀ g, Value.ownBlock (.slice A1 (mvF x0 x1).length c1) = some g → w.heap.size ≤ g := fun g hg => (o1_1.lt g hg).1
  have hi1 : ∀ g, Value.ownBlock (.slice A1 (mvF x0 x1).length c1) = some g → g < w1.heap.size := fun g hg => (o1_1.lt g hg).2
  go_wp2_with fail
  refine (mvI_any x0 x1 w1 ).mono ?_
  rintro e w2 ⟨A2, c2, rfl, o2_2, b2⟩
  have B2 := B1.trans (b2.mono B1.size)
  have z2 := b2.size
  have o1_2 := o1_1.keep b2
  clear o1_1
  clear b2
  have lo2 : ∀ g, Value.ownBlock (.slice A2 (mvF x0 x1).length c2) = some g → w1.heap.size ≤ g := fun g hg => (o2_2.lt g hg).1
  have hi2 : ∀ g, Value.ownBlock (.slice A2 (mvF x0 x1).length c2) = some g → g < w2.heap.size := fun g hg => (o2_2.lt g hg).2
  go_wp2_with fail
  refine (eqIntS_same A2 A1 c2 c1 _ w2 (o2_2.row IntR.enc_len) (o1_2.row IntR.enc_len)).mono ?_
  rintro e w3 ⟨rfl, b3⟩
  have B3 := B2.trans (b3.mono B2.size)
  have z3 := b3.size
  have o1_3 := o1_2.keep b3
  clear o1_2
  have o2_3 := o2_2.keep b3
  clear o2_2
  clear b3
  go_wp2_with fail
  refine (markIntS_any A2 c2 _ (1) _ _ w3 o2_3.2 o2_3.1 (by omega) (by omega)).mono ?_
  rintro e w4 ⟨rfl, m2_4, g4⟩
  have hF2 := o2_3.1
  have B4 := B3.trans (below_of_gb (B0 := w.heap.size) g4 B3.size (fun g hg => by have := lo2 g hg; have := B1.size; omega))
  have z4 := g4.size
  have o1_4 := o1_3.far g4 (fun g g' hg hg' => by have h1 := hi1 g hg; have h2 := lo2 g' hg'; omega)
  clear o1_3
  clear o2_3 g4
  go_wp2_with fail
  refine (heldIntS_any A2 c2 _ (1) _ w4 m2_4 hF2 (by omega) (by omega)).mono ?_
  rintro e wx ⟨rfl, rfl⟩
  go_wp2_with fail
  refine (mvI_any x0 x1 w4 ).mono ?_
  rintro e w5 ⟨A3, c3, rfl, o3_5, b5⟩
  have B5 := B4.trans (b5.mono B4.size)
  have z5 := b5.size
  have o1_5 := o1_4.keep b5
  clear o1_4
  have m2_5 := ownsRow_keep m2_4 b5
  clear m2_4
  clear b5
  have lo3 : ∀ g, Value.ownBlock (.slice A3 (mvF x0 x1).length c3) = some g → w4.heap.size ≤ g := fun g hg => (o3_5.lt g hg).1
  have hi3 : ∀ g, Value.ownBlock (.slice A3 (mvF x0 x1).length c3) = some g → g < w5.heap.size := fun g hg => (o3_5.lt g hg).2
  go_wp2_with fail
  refine (eqIntS_same A3 A1 c3 c1 _ w5 (o3_5.row IntR.enc_len) (o1_5.row IntR.enc_len)).mono ?_
  rintro e w6 ⟨rfl, b6⟩
  have B6 := B5.trans (b6.mono B5.size)
  have z6 := b6.size
  have o1_6 := o1_5.keep b6
  clear o1_5
  have o3_6 := o3_5.keep b6
  clear o3_5
  have m2_6 := ownsRow_keep m2_5 b6
  clear m2_5
  clear b6
  go_wp2_with fail
  refine (heldIntS_any A2 c2 _ (1) _ w6 m2_6 hF2 (by omega) (by omega)).mono ?_
  rintro e wx ⟨rfl, rfl⟩
  go_wp2
  all_goals go_returns
  all_goals exact ⟨rfl, B6⟩
set_option maxRecDepth 100000 in
theorem lifted (os : Os) (started : os.Started) (H : Type) (enc : TypeId × Value → H) :
    ReturnsInHanded {} Try.checked os 6 .any (Rows.fnExactMovedGroupsSpec.pre6 enc Try.prog Try.f6 Rows.fnExactMovedGroupsRow.domain false) (Rows.fnExactMovedGroupsSpec.post enc Try.prog Try.f6 false true false false) := by
  refine returnsInHanded_of_change (C := Try.checked) own started (by kernel_rfl) Try.func6
    (ChangeSpec.witness6 (enc := enc) (C := Try.checked) false ⟨#[], #[.int .i64 0, .int .i64 0], []⟩ 8 (by kernel_rfl) (by kernel_rfl) (by kernel_rfl) (by kernel_rfl)) ?_
  intro W base args ds gs before hval0 hW hcnd _
  have hval : ∀ (j : Nat) t v, Try.f6.params[j]? = some t → args[j]? = some v → Value.okWide Try.prog W .any base t v := hval0
  have hW' := hW
  obtain ⟨p, q, hA0, hV, rfl, hfz, hnd⟩ := hW
  have hA : DataW.TrodAll enc Try.prog W 0 (fun _ => true) true Try.f6.params.toList args.toList ds p := hA0
  rw [Try.params6] at hA hval
  obtain ⟨v0, vs0, d0, ds0, p0, q0, hargs, rfl, rfl, h0, r0⟩ := trodAll_cons hA
  obtain ⟨v1, vs1, d1, ds1, p1, q1, rfl, rfl, rfl, h1, r1⟩ := trodAll_cons r0
  obtain ⟨rfl, rfl, rfl⟩ := trodAll_nil r1
  obtain rfl : args = #[v0, v1] := by cases args; simp_all
  obtain ⟨rfl, rfl⟩ := trodVars_none hV
  have k0 := h0
  have lt0 : ∀ x ∈ p0, x.block < W.heap.size := by obtain ⟨m, hm⟩ := k0; exact DataW.trod_lt m _ _ _ hm
  obtain ⟨x0, rfl, rfl, rfl, wx0⟩ := open_int Try.underlying3 (hval 0 3 v0 rfl rfl) h0
  have b0 := bounds_i64 wx0
  have k1 := h1
  have lt1 : ∀ x ∈ p1, x.block < W.heap.size := by obtain ⟨m, hm⟩ := k1; exact DataW.trod_lt m _ _ _ hm
  obtain ⟨x1, rfl, rfl, rfl, wx1⟩ := open_int Try.underlying3 (hval 1 3 v1 rfl rfl) h1
  have b1 := bounds_i64 wx1
  clear hA0 hval0
  refine (walk x0 x1 W b0.1 b0.2 b1.1 b1.2).mono fun e W' ⟨he, bel⟩ => ?_
  subst he
  exact ⟨_, rfl, _, _, _, [], _, [], hW', trodAll_mk1 (shut_bool Try.underlying4 _), (trodAll_cons_mk (Below.trod laidOut (by kernel_rfl) (of_decide_eq_true (by kernel_rfl)) k0 bel lt0) (trodAll_cons_mk (Below.trod laidOut (by kernel_rfl) (of_decide_eq_true (by kernel_rfl)) k1 bel lt1) trodAll_mk0)), rfl, bel.frame _, fun h => by cases h⟩

theorem over : Rows.fnExactMovedGroupsRow.holds Try.pinned (OpenSpec.ofChange Rows.fnExactMovedGroupsSpec) :=
  OpenClaim.holds_of_wide 6 Try.f6 rfl rfl rfl rfl rfl rfl rfl ⟨rfl, rfl, rfl, rfl, rfl⟩ rfl rfl rfl rfl rfl (by kernel_rfl) Try.func6 (by kernel_rfl)
    (of_decide_eq_true (by kernel_rfl)) (by unfold Func.isWrapper; first | (rw [if_pos (by decide +kernel)]; kernel_rfl) | (rw [if_neg (by decide +kernel)]; exact ⟨rfl, rfl⟩))
    (fun os started H enc _ => lifted os started H enc)

theorem proved : Rows.FnExactMovedGroupsSaid := over
#print axioms proved
end Go.Proofs.Ytcpjidbinhfapaa.fnExactMovedGroups
