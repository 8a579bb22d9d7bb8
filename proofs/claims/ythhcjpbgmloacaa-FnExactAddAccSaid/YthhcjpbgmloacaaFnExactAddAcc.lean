/- The law FnExactAddAcc answers true at every input and leaves its arguments as they were; no condition. -/
import Derived.Test.YthhcjpbgmloacaaRows
import Derived.WalkKit
import Derived.WalkSpells
import Derived.WalkLawsBesides
import Derived.ProofKit
import Derived.OpenShut
import Derived.ShutString
import Derived.ChangeOld
import Derived.Below
import Derived.Lib.SmallJoins
import Derived.Handy
import Derived.Test.YthhcjpbgmloacaaAdA
namespace Go.Proofs.Ythhcjpbgmloacaa.fnExactAddAcc
open Go.ChangeShapes Go.WideShapes Go.ChangeAt Go.RowKit Go.Joins
open Go.ChangeMaps (open_string shut_string)
set_option linter.unusedVariables false

theorem own : ownKnob Try.prog.godebug = none := by kernel_rfl
theorem laidOut : laidOutB Try.prog = true := by kernel_rfl
theorem cells38 : Try.prog.cellsOf 38 = 4 := by kernel_rfl
set_option maxRecDepth 100000 in
set_option maxHeartbeats 2000000 in
theorem walk (x0Count : Int) (x0Sum : Int) (x0Least : Int) (x0Most : Int) (x1 : Int) (w : World) (l0_0 : -9223372036854775808 ≤ x0Count) (u0_0 : x0Count ≤ 9223372036854775807) (l0_1 : -9223372036854775808 ≤ x0Sum) (u0_1 : x0Sum ≤ 9223372036854775807) (l0_2 : -9223372036854775808 ≤ x0Least) (u0_2 : x0Least ≤ 9223372036854775807) (l0_3 : -9223372036854775808 ≤ x0Most) (u0_3 : x0Most ≤ 9223372036854775807) (l1 : -9223372036854775808 ≤ x1) (u1 : x1 ≤ 9223372036854775807) :
    Calls Try.prog 6 #[.agg #[.int .i64 x0Count, .int .i64 x0Sum, .int .i64 x0Least, .int .i64 x0Most], .int .i64 x1] w fun e w' => e = .returned (.bool true) ∧ Below w.heap.size w w' := by
  have P_0 := Bo.made w #[.int .i64 x0Count, .int .i64 x0Sum, .int .i64 x0Least, .int .i64 x0Most] 38
  have B0 : Below w.heap.size w (w.alloc (.cells #[.int .i64 x0Count, .int .i64 x0Sum, .int .i64 x0Least, .int .i64 x0Most] 38)) := by go_grown
  have zgP : w.heap.size < (w.alloc (.cells #[.int .i64 x0Count, .int .i64 x0Sum, .int .i64 x0Least, .int .i64 x0Most] 38)).heap.size := by simp
  go_enter Try.func6, Try.ntmps6
  go_wp2_with fail
  generalize (w.alloc (.cells #[.int .i64 x0Count, .int .i64 x0Sum, .int .i64 x0Least, .int .i64 x0Most] 38)) = u0 at *
  refine (toAcc_any x0Count x0Sum x0Least x0Most _).mono ?_
  rintro e u1 ⟨rfl, b⟩
  have B1 := B0.trans (b.mono B0.size)
  have z1 := b.size
  have P_1 := P_0.keep b
  clear P_0 b
  go_wp2_with fail
  refine (adS_x x0Count x0Sum x0Least x0Most x1 _).mono ?_
  rintro e u2 ⟨rfl, b⟩
  have B2 := B1.trans (b.mono B1.size)
  have z2 := b.size
  have P_2 := P_1.keep b
  clear P_1 b
  have bv : Below u2.heap.size u2 (u2.alloc (.cells #[.int .i64 (mgC x0Count x0Sum x0Least x0Most 1 x1 x1 x1), .int .i64 (mgS x0Count x0Sum x0Least x0Most 1 x1 x1 x1), .int .i64 (mgL x0Count x0Sum x0Least x0Most 1 x1 x1 x1), .int .i64 (mgM x0Count x0Sum x0Least x0Most 1 x1 x1 x1)] 39)) := (Below.refl _ _).alloc (Nat.le_refl _) _
  have nb := Bo.made u2 #[.int .i64 (mgC x0Count x0Sum x0Least x0Most 1 x1 x1 x1), .int .i64 (mgS x0Count x0Sum x0Least x0Most 1 x1 x1 x1), .int .i64 (mgL x0Count x0Sum x0Least x0Most 1 x1 x1 x1), .int .i64 (mgM x0Count x0Sum x0Least x0Most 1 x1 x1 x1)] 39
  have zgW : u2.heap.size < (u2.alloc (.cells #[.int .i64 (mgC x0Count x0Sum x0Least x0Most 1 x1 x1 x1), .int .i64 (mgS x0Count x0Sum x0Least x0Most 1 x1 x1 x1), .int .i64 (mgL x0Count x0Sum x0Least x0Most 1 x1 x1 x1), .int .i64 (mgM x0Count x0Sum x0Least x0Most 1 x1 x1 x1)] 39)).heap.size := by simp
  have B3 := B2.trans (bv.mono B2.size)
  have z3 := bv.size
  have P_3 := P_2.keep bv
  clear P_2 bv
  have W_3 := nb
  clear nb
  have pP0 := P_3.1 0 _ rfl
  have pP1 := P_3.1 1 _ rfl
  have pP2 := P_3.1 2 _ rfl
  have pP3 := P_3.1 3 _ rfl
  have plP := P_3.2
  go_wp2_with fail
  clear pP0 pP1 pP2 pP3 plP
  generalize (u2.alloc (.cells #[.int .i64 (mgC x0Count x0Sum x0Least x0Most 1 x1 x1 x1), .int .i64 (mgS x0Count x0Sum x0Least x0Most 1 x1 x1 x1), .int .i64 (mgL x0Count x0Sum x0Least x0Most 1 x1 x1 x1), .int .i64 (mgM x0Count x0Sum x0Least x0Most 1 x1 x1 x1)] 39)) = u3 at *
  refine (toAcc_any x0Count x0Sum x0Least x0Most _).mono ?_
  rintro e u4 ⟨rfl, b⟩
  have B4 := B3.trans (b.mono B3.size)
  have z4 := b.size
  have P_4 := P_3.keep b
  have W_4 := W_3.keep b
  clear P_3 W_3 b
  go_wp2_with fail
  refine (adI_x x0Count x0Sum x0Least x0Most x1 _).mono ?_
  rintro e u5 ⟨rfl, b⟩
  have B5 := B4.trans (b.mono B4.size)
  have z5 := b.size
  have P_5 := P_4.keep b
  have W_5 := W_4.keep b
  clear P_4 W_4 b
  have bv : Below u5.heap.size u5 (u5.alloc (.cells #[.int .i64 (mgC x0Count x0Sum x0Least x0Most 1 x1 x1 x1), .int .i64 (mgS x0Count x0Sum x0Least x0Most 1 x1 x1 x1), .int .i64 (mgL x0Count x0Sum x0Least x0Most 1 x1 x1 x1), .int .i64 (mgM x0Count x0Sum x0Least x0Most 1 x1 x1 x1)] 39)) := (Below.refl _ _).alloc (Nat.le_refl _) _
  have nb := Bo.made u5 #[.int .i64 (mgC x0Count x0Sum x0Least x0Most 1 x1 x1 x1), .int .i64 (mgS x0Count x0Sum x0Least x0Most 1 x1 x1 x1), .int .i64 (mgL x0Count x0Sum x0Least x0Most 1 x1 x1 x1), .int .i64 (mgM x0Count x0Sum x0Least x0Most 1 x1 x1 x1)] 39
  have zgG : u5.heap.size < (u5.alloc (.cells #[.int .i64 (mgC x0Count x0Sum x0Least x0Most 1 x1 x1 x1), .int .i64 (mgS x0Count x0Sum x0Least x0Most 1 x1 x1 x1), .int .i64 (mgL x0Count x0Sum x0Least x0Most 1 x1 x1 x1), .int .i64 (mgM x0Count x0Sum x0Least x0Most 1 x1 x1 x1)] 39)).heap.size := by simp
  have B6 := B5.trans (bv.mono B5.size)
  have z6 := bv.size
  have P_6 := P_5.keep bv
  have W_6 := W_5.keep bv
  clear P_5 W_5 bv
  have G_6 := nb
  clear nb
  have pG0 := G_6.1 0 _ rfl
  have pG1 := G_6.1 1 _ rfl
  have pG2 := G_6.1 2 _ rfl
  have pG3 := G_6.1 3 _ rfl
  have plG := G_6.2
  have pW0 := W_6.1 0 _ rfl
  have pW1 := W_6.1 1 _ rfl
  have pW2 := W_6.1 2 _ rfl
  have pW3 := W_6.1 3 _ rfl
  have plW := W_6.2
  go_wp2_with fail
  clear pG0 pG1 pG2 pG3 plG
  clear pW0 pW1 pW2 pW3 plW
  generalize (u5.alloc (.cells #[.int .i64 (mgC x0Count x0Sum x0Least x0Most 1 x1 x1 x1), .int .i64 (mgS x0Count x0Sum x0Least x0Most 1 x1 x1 x1), .int .i64 (mgL x0Count x0Sum x0Least x0Most 1 x1 x1 x1), .int .i64 (mgM x0Count x0Sum x0Least x0Most 1 x1 x1 x1)] 39)) = u6 at *
  refine (eqAcc_same (mgC x0Count x0Sum x0Least x0Most 1 x1 x1 x1) (mgS x0Count x0Sum x0Least x0Most 1 x1 x1 x1) (mgL x0Count x0Sum x0Least x0Most 1 x1 x1 x1) (mgM x0Count x0Sum x0Least x0Most 1 x1 x1 x1) _).mono ?_
  rintro e u7 ⟨rfl, b⟩
  have B7 := B6.trans (b.mono B6.size)
  have z7 := b.size
  have P_7 := P_6.keep b
  have W_7 := W_6.keep b
  have G_7 := G_6.keep b
  clear P_6 W_6 G_6 b
  go_wp2
  all_goals go_returns
  all_goals exact ⟨by first | rfl | simp, B7⟩
set_option maxRecDepth 100000 in
theorem lifted (os : Os) (started : os.Started) (H : Type) (enc : TypeId × Value → H) :
    ReturnsInHanded {} Try.checked os 6 .any (Rows.fnExactAddAccSpec.pre6 enc Try.prog Try.f6 Rows.fnExactAddAccRow.domain false) (Rows.fnExactAddAccSpec.post enc Try.prog Try.f6 false true false false) := by
  refine returnsInHanded_of_change (C := Try.checked) own started (by kernel_rfl) Try.func6
    (ChangeSpec.witness6 (enc := enc) (C := Try.checked) false ⟨#[], #[.agg #[.int .i64 0, .int .i64 0, .int .i64 0, .int .i64 0], .int .i64 0], []⟩ 8 (by kernel_rfl) (by kernel_rfl) (by kernel_rfl) (by kernel_rfl)) ?_
  intro W base args ds gs before hval0 hW hcnd _
  have hval : ∀ (j : Nat) t v, Try.f6.params[j]? = some t → args[j]? = some v → Value.okWide Try.prog W .any base t v := hval0
  have hW' := hW
  obtain ⟨p, q, hA0, hV, rfl, hfz, hnd⟩ := hW
  have hA : DataW.TrodAll enc Try.prog W 0 (fun _ => true) true Try.f6.params.toList args.toList ds p := hA0
  rw [Try.params6] at hA hval
  obtain ⟨v0, vs0, d0, ds0, p0, q0, hargs, rfl, rfl, h0, r0⟩ := trodAll_cons hA
  obtain ⟨v1, vs1, d1, ds1, p1, q1, rfl, rfl, rfl, h1, r1⟩ := trodAll_cons r0
  obtain ⟨rfl, rfl, rfl⟩ := trodAll_nil r1
  obtain rfl : args = #[v0, v1] := by cases args; simp_all
  obtain ⟨rfl, rfl⟩ := trodVars_none hV
  have k0 := h0
  have lt0 : ∀ x ∈ p0, x.block < W.heap.size := by obtain ⟨m, hm⟩ := k0; exact DataW.trod_lt m _ _ _ hm
  obtain ⟨c0_0, c0_1, c0_2, c0_3, y0_0, y0_1, y0_2, y0_3, mm0, rfl, rfl, rfl, hy0_0, hy0_1, hy0_2, hy0_3⟩ := open_agg4 Try.underlying38 (by kernel_rfl) cells38 (hval 0 38 v0 rfl rfl) h0
  obtain ⟨x0Count, e0_0, rfl, wx0_0⟩ := DataW.trod_int Try.underlying3 hy0_0
  simp only [List.cons.injEq, and_true] at e0_0
  subst e0_0
  have b0_0 := bounds_i64 wx0_0
  obtain ⟨x0Sum, e0_1, rfl, wx0_1⟩ := DataW.trod_int Try.underlying3 hy0_1
  simp only [List.cons.injEq, and_true] at e0_1
  subst e0_1
  have b0_1 := bounds_i64 wx0_1
  obtain ⟨x0Least, e0_2, rfl, wx0_2⟩ := DataW.trod_int Try.underlying3 hy0_2
  simp only [List.cons.injEq, and_true] at e0_2
  subst e0_2
  have b0_2 := bounds_i64 wx0_2
  obtain ⟨x0Most, e0_3, rfl, wx0_3⟩ := DataW.trod_int Try.underlying3 hy0_3
  simp only [List.cons.injEq, and_true] at e0_3
  subst e0_3
  have b0_3 := bounds_i64 wx0_3
  have k1 := h1
  have lt1 : ∀ x ∈ p1, x.block < W.heap.size := by obtain ⟨m, hm⟩ := k1; exact DataW.trod_lt m _ _ _ hm
  obtain ⟨x1, rfl, rfl, rfl, wx1⟩ := open_int Try.underlying3 (hval 1 3 v1 rfl rfl) h1
  have b1 := bounds_i64 wx1
  clear hA0 hval0
  refine (walk x0Count x0Sum x0Least x0Most x1 W b0_0.1 b0_0.2 b0_1.1 b0_1.2 b0_2.1 b0_2.2 b0_3.1 b0_3.2 b1.1 b1.2).mono fun e W' ⟨he, bel⟩ => ?_
  subst he
  exact ⟨_, rfl, _, _, _, [], _, [], hW', trodAll_mk1 (shut_bool Try.underlying4 _), (trodAll_cons_mk (Below.trod laidOut (by kernel_rfl) (of_decide_eq_true (by kernel_rfl)) k0 bel lt0) (trodAll_cons_mk (Below.trod laidOut (by kernel_rfl) (of_decide_eq_true (by kernel_rfl)) k1 bel lt1) trodAll_mk0)), rfl, bel.frame _, fun h => by cases h⟩

theorem over : Rows.fnExactAddAccRow.holds Try.pinned (OpenSpec.ofChange Rows.fnExactAddAccSpec) :=
  OpenClaim.holds_of_wide 6 Try.f6 rfl rfl rfl rfl rfl rfl rfl ⟨rfl, rfl, rfl, rfl, rfl⟩ rfl rfl rfl rfl rfl (by kernel_rfl) Try.func6 (by kernel_rfl)
    (of_decide_eq_true (by kernel_rfl)) (by unfold Func.isWrapper; first | (rw [if_pos (by decide +kernel)]; kernel_rfl) | (rw [if_neg (by decide +kernel)]; exact ⟨rfl, rfl⟩))
    (fun os started H enc _ => lifted os started H enc)

theorem proved : Rows.FnExactAddAccSaid := over
#print axioms proved
end Go.Proofs.Ythhcjpbgmloacaa.fnExactAddAcc
