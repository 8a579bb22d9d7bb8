/- The law FnExactCoordinatorNew answers true at every input and leaves its arguments as they were; no condition. -/
import Derived.Test.YtjjjlpnbniofjaaRows
import Derived.WalkKit
import Derived.WalkSpells
import Derived.WalkLawsBesides
import Derived.ProofKit
import Derived.OpenShut
import Derived.ShutString
import Derived.ChangeOld
import Derived.Below
import Derived.Lib.SmallJoins
import Derived.Handy
import Derived.Test.YtjjjlpnbniofjaaMay
import Derived.Test.YtjjjlpnbniofjaaCn
import Derived.Test.YtjjjlpnbniofjaaMay
namespace Go.Proofs.Ytjjjlpnbniofjaa.fnExactCoordinatorNew
open Go.ChangeShapes Go.WideShapes Go.ChangeAt Go.RowKit Go.Joins
open Go.ChangeMaps (open_string shut_string)
set_option linter.unusedVariables false

theorem own : ownKnob Try.prog.godebug = none := by kernel_rfl
theorem laidOut : laidOutB Try.prog = true := by kernel_rfl
set_option maxRecDepth 100000 in
set_option maxHeartbeats 1000000 in
theorem walk (x0 : Int) (w : World) (l0 : -9223372036854775808 ≤ x0) (u0 : x0 ≤ 9223372036854775807) :
    Calls Try.prog 11 #[.int .i64 x0] w fun e w' => e = .returned (.bool true) ∧ Below w.heap.size w w' := by
  obtain ⟨a, b, c, hS, hI⟩ : ∃ a b c : Int, (∀ w : World, Calls Try.prog 38 #[.int .i64 x0] w (CnPost a b c w)) ∧ (∀ w : World, Calls Try.prog 39 #[.int .i64 x0] w (CnPost a b c w)) := by
    by_cases h : 1 ≤ x0 ∧ x0 ≤ 8
    · exact ⟨x0, 1, 0, fun w => cnS_t x0 w h.1 h.2, fun w => cnI_t x0 w h.1 h.2⟩
    · exact ⟨0, 0, 0, fun w => cnS_f x0 w h, fun w => cnI_f x0 w h⟩
  have B0 : Below w.heap.size w w := Below.refl _ _
  have hu : ∃ u, u = w := ⟨_, rfl⟩
  obtain ⟨u0, hu⟩ := hu
  rw [← hu] at B0
  go_enter Try.func11, Try.ntmps11
  go_wp2_with fail
  have B0 : Below w.heap.size w u0 := by rw [hu]; exact Below.refl _ _
  rw [← hu]
  refine (hS _).mono ?_
  rintro e u1 ⟨rfl, b⟩
  have B1 := B0.trans (b.mono B0.size)
  have z1 := b.size
  clear b
  have bv : Below u1.heap.size u1 (u1.alloc (.cells #[.int .i64 a, .int .i64 b, .int .i64 c, .slice none 0 0] 46)) := (Below.refl _ _).alloc (Nat.le_refl _) _
  have nb := Bo.made u1 #[.int .i64 a, .int .i64 b, .int .i64 c, .slice none 0 0] 46
  have zgW : u1.heap.size < (u1.alloc (.cells #[.int .i64 a, .int .i64 b, .int .i64 c, .slice none 0 0] 46)).heap.size := by simp
  have B2 := B1.trans (bv.mono B1.size)
  have z2 := bv.size
  clear bv
  have W_2 := nb
  clear nb
  go_wp2_with fail
  generalize (u1.alloc (.cells #[.int .i64 a, .int .i64 b, .int .i64 c, .slice none 0 0] 46)) = u2 at *
  refine (hI _).mono ?_
  rintro e u3 ⟨rfl, b⟩
  have B3 := B2.trans (b.mono B2.size)
  have z3 := b.size
  have W_3 := W_2.keep b
  clear W_2 b
  have bv : Below u3.heap.size u3 (u3.alloc (.cells #[.int .i64 a, .int .i64 b, .int .i64 c, .slice none 0 0] 46)) := (Below.refl _ _).alloc (Nat.le_refl _) _
  have nb := Bo.made u3 #[.int .i64 a, .int .i64 b, .int .i64 c, .slice none 0 0] 46
  have zgG : u3.heap.size < (u3.alloc (.cells #[.int .i64 a, .int .i64 b, .int .i64 c, .slice none 0 0] 46)).heap.size := by simp
  have B4 := B3.trans (bv.mono B3.size)
  have z4 := bv.size
  have W_4 := W_3.keep bv
  clear W_3 bv
  have G_4 := nb
  clear nb
  have pG0 := G_4.1 0 _ rfl
  have pG1 := G_4.1 1 _ rfl
  have pG2 := G_4.1 2 _ rfl
  have pG3 := G_4.1 3 _ rfl
  have plG := G_4.2
  have pW0 := W_4.1 0 _ rfl
  have pW1 := W_4.1 1 _ rfl
  have pW2 := W_4.1 2 _ rfl
  have pW3 := W_4.1 3 _ rfl
  have plW := W_4.2
  go_wp2_with fail
  clear pG0 pG1 pG2 pG3 plG
  clear pW0 pW1 pW2 pW3 plW
  generalize (u3.alloc (.cells #[.int .i64 a, .int .i64 b, .int .i64 c, .slice none 0 0] 46)) = u4 at *
  refine (eqCoord_nil a b c _).mono ?_
  rintro e u5 ⟨rfl, b⟩
  have B5 := B4.trans (b.mono B4.size)
  have z5 := b.size
  have W_5 := W_4.keep b
  have G_5 := G_4.keep b
  clear W_4 G_4 b
  have pG0 := G_5.1 0 _ rfl
  have pG1 := G_5.1 1 _ rfl
  have pG2 := G_5.1 2 _ rfl
  have pG3 := G_5.1 3 _ rfl
  have plG := G_5.2
  go_wp2_with fail
  clear pG0 pG1 pG2 pG3 plG
  refine (markCoord_nil a b c _).mono ?_
  rintro e u6 ⟨rfl, b⟩
  have B6 := B5.trans (b.mono B5.size)
  have z6 := b.size
  have W_6 := W_5.keep b
  have G_6 := G_5.keep b
  clear W_5 G_5 b
  have pG0 := G_6.1 0 _ rfl
  have pG1 := G_6.1 1 _ rfl
  have pG2 := G_6.1 2 _ rfl
  have pG3 := G_6.1 3 _ rfl
  have plG := G_6.2
  go_wp2_with fail
  clear pG0 pG1 pG2 pG3 plG
  refine (heldCoord_nil a b c _).mono ?_
  rintro e u7 ⟨rfl, b⟩
  have B7 := B6.trans (b.mono B6.size)
  have z7 := b.size
  have W_7 := W_6.keep b
  have G_7 := G_6.keep b
  clear W_6 G_6 b
  go_wp2_with fail
  refine (hI _).mono ?_
  rintro e u8 ⟨rfl, b⟩
  have B8 := B7.trans (b.mono B7.size)
  have z8 := b.size
  have W_8 := W_7.keep b
  have G_8 := G_7.keep b
  clear W_7 G_7 b
  have bv : Below u8.heap.size u8 (u8.alloc (.cells #[.int .i64 a, .int .i64 b, .int .i64 c, .slice none 0 0] 46)) := (Below.refl _ _).alloc (Nat.le_refl _) _
  have nb := Bo.made u8 #[.int .i64 a, .int .i64 b, .int .i64 c, .slice none 0 0] 46
  have zgH : u8.heap.size < (u8.alloc (.cells #[.int .i64 a, .int .i64 b, .int .i64 c, .slice none 0 0] 46)).heap.size := by simp
  have B9 := B8.trans (bv.mono B8.size)
  have z9 := bv.size
  have W_9 := W_8.keep bv
  have G_9 := G_8.keep bv
  clear W_8 G_8 bv
  have H_9 := nb
  clear nb
  have pH0 := H_9.1 0 _ rfl
  have pH1 := H_9.1 1 _ rfl
  have pH2 := H_9.1 2 _ rfl
  have pH3 := H_9.1 3 _ rfl
  have plH := H_9.2
  have pW0 := W_9.1 0 _ rfl
  have pW1 := W_9.1 1 _ rfl
  have pW2 := W_9.1 2 _ rfl
  have pW3 := W_9.1 3 _ rfl
  have plW := W_9.2
  go_wp2_with fail
  clear pH0 pH1 pH2 pH3 plH
  clear pW0 pW1 pW2 pW3 plW
  generalize (u8.alloc (.cells #[.int .i64 a, .int .i64 b, .int .i64 c, .slice none 0 0] 46)) = u9 at *
  refine (eqCoord_nil a b c _).mono ?_
  rintro e u10 ⟨rfl, b⟩
  have B10 := B9.trans (b.mono B9.size)
  have z10 := b.size
  have W_10 := W_9.keep b
  have G_10 := G_9.keep b
  have H_10 := H_9.keep b
  clear W_9 G_9 H_9 b
  have pG0 := G_10.1 0 _ rfl
  have pG1 := G_10.1 1 _ rfl
  have pG2 := G_10.1 2 _ rfl
  have pG3 := G_10.1 3 _ rfl
  have plG := G_10.2
  go_wp2_with fail
  clear pG0 pG1 pG2 pG3 plG
  refine (heldCoord_nil a b c _).mono ?_
  rintro e u11 ⟨rfl, b⟩
  have B11 := B10.trans (b.mono B10.size)
  have z11 := b.size
  have W_11 := W_10.keep b
  have G_11 := G_10.keep b
  have H_11 := H_10.keep b
  clear W_10 G_10 H_10 b
  go_wp2
  all_goals go_returns
  all_goals exact ⟨rfl, B11⟩
set_option maxRecDepth 100000 in
theorem lifted (os : Os) (started : os.Started) (H : Type) (enc : TypeId × Value → H) :
    ReturnsInHanded {} Try.checked os 11 .any (Rows.fnExactCoordinatorNewSpec.pre6 enc Try.prog Try.f11 Rows.fnExactCoordinatorNewRow.domain false) (Rows.fnExactCoordinatorNewSpec.post enc Try.prog Try.f11 false true false false) := by
  refine returnsInHanded_of_change (C := Try.checked) own started (by kernel_rfl) Try.func11
    (ChangeSpec.witness6 (enc := enc) (C := Try.checked) false ⟨#[], #[.int .i64 0], []⟩ 8 (by kernel_rfl) (by kernel_rfl) (by kernel_rfl) (by kernel_rfl)) ?_
  intro W base args ds gs before hval0 hW hcnd _
  have hval : ∀ (j : Nat) t v, Try.f11.params[j]? = some t → args[j]? = some v → Value.okWide Try.prog W .any base t v := hval0
  have hW' := hW
  obtain ⟨p, q, hA0, hV, rfl, hfz, hnd⟩ := hW
  have hA : DataW.TrodAll enc Try.prog W 0 (fun _ => true) true Try.f11.params.toList args.toList ds p := hA0
  rw [Try.params11] at hA hval
  obtain ⟨v0, vs0, d0, ds0, p0, q0, hargs, rfl, rfl, h0, r0⟩ := trodAll_cons hA
  obtain ⟨rfl, rfl, rfl⟩ := trodAll_nil r0
  obtain rfl : args = #[v0] := by cases args; simp_all
  obtain ⟨rfl, rfl⟩ := trodVars_none hV
  have k0 := h0
  have lt0 : ∀ x ∈ p0, x.block < W.heap.size := by obtain ⟨m, hm⟩ := k0; exact DataW.trod_lt m _ _ _ hm
  obtain ⟨x0, rfl, rfl, rfl, wx0⟩ := open_int Try.underlying3 (hval 0 3 v0 rfl rfl) h0
  have b0 := bounds_i64 wx0
  clear hA0 hval0
  refine (walk x0 W b0.1 b0.2).mono fun e W' ⟨he, bel⟩ => ?_
  subst he
  exact ⟨_, rfl, _, _, _, [], _, [], hW', trodAll_mk1 (shut_bool Try.underlying4 _), (trodAll_cons_mk (Below.trod laidOut (by kernel_rfl) (of_decide_eq_true (by kernel_rfl)) k0 bel lt0) trodAll_mk0), rfl, bel.frame _, fun h => by cases h⟩

theorem closed : joinedFacts Try.checked.prog 11 Try.f11 Rows.fnExactCoordinatorNewSpec Rows.fnExactCoordinatorNewRow = true := by
  unfold joinedFacts
  rw [mayE, liftE, makeE]
  kernel_rfl

theorem over : Rows.fnExactCoordinatorNewRow.holds Try.pinned (OpenSpec.ofChange Rows.fnExactCoordinatorNewSpec) :=
  OpenClaim.holds_of_wide 11 Try.f11 rfl rfl rfl rfl rfl rfl rfl ⟨rfl, rfl, rfl, rfl, rfl⟩ rfl rfl rfl rfl rfl (by kernel_rfl) Try.func11 closed
    (of_decide_eq_true (by kernel_rfl)) (by unfold Func.isWrapper; first | (rw [if_pos (by decide +kernel)]; kernel_rfl) | (rw [if_neg (by decide +kernel)]; exact ⟨rfl, rfl⟩))
    (fun os started H enc _ => lifted os started H enc)

theorem proved : Rows.FnExactCoordinatorNewSaid := over
#print axioms proved
end Go.Proofs.Ytjjjlpnbniofjaa.fnExactCoordinatorNew
