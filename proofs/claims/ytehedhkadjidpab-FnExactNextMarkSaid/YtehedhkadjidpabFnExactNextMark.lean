/- The law FnExactNextMark answers true at every input and leaves its arguments as they were; no condition. -/
import Derived.Test.YtehedhkadjidpabRows
import Derived.WalkKit
import Derived.WalkSpells
import Derived.WalkLawsBesides
import Derived.ProofKit
import Derived.OpenShut
import Derived.ShutString
import Derived.ChangeOld
import Derived.Below
import Derived.Lib.SmallJoins
import Derived.Handy
import Derived.Test.YtehedhkadjidpabMay
import Derived.Test.YtehedhkadjidpabMmN
import Derived.Test.YtehedhkadjidpabTyOpenInput
namespace Go.Proofs.Ytehedhkadjidpab.fnExactNextMark
open Go.ChangeShapes Go.WideShapes Go.ChangeAt Go.RowKit Go.Joins
open Go.ChangeMaps (open_string shut_string)
set_option linter.unusedVariables false

theorem own : ownKnob Try.prog.godebug = none := by kernel_rfl
theorem laidOut : laidOutB Try.prog = true := by kernel_rfl
set_option maxRecDepth 100000 in
set_option maxHeartbeats 1000000 in
theorem walk (x0 : Int) (a1 : Option Addr) (cap1 : Nat) (l1 : List InputR) (x2 : Int) (x3 : Int) (w : World) (l0 : -9223372036854775808 ≤ x0) (u0 : x0 ≤ 9223372036854775807) (m1 : l1.length ≤ maxLen) (w1 : RowA InputR.enc 2 w a1 l1) (l2 : -9223372036854775808 ≤ x2) (u2 : x2 ≤ 9223372036854775807) (l3 : -9223372036854775808 ≤ x3) (u3 : x3 ≤ 9223372036854775807) :
    Calls Try.prog 9 #[.int .i64 x0, .slice a1 l1.length cap1, .int .i64 x2, .int .i64 x3] w fun e w' => e = .returned (.bool true) ∧ Below w.heap.size w w' := by
  have hlb1 := m1
  by_cases hlen1 : l1.length ≤ 1048576
  · have ha1 : Row InputR.enc 2 w a1 l1 := ⟨by omega, w1⟩
    have B0 : Below w.heap.size w w := Below.refl _ _
    clear hlb1 m1 w1
    go_enter Try.func9, Try.ntmps9
    go_wp2_with fail
    refine (szInputS_ok a1 l1.length cap1 _ (by omega)).mono ?_
    rintro e w0 ⟨rfl, rfl⟩
    go_wp2_with fail
    refine (toInputS_any a1 cap1 l1 w (ha1.keep B0)).mono ?_
    rintro e w1 ⟨A1, c1, rfl, o1_1, b1⟩
    have B1 := B0.trans (b1.mono B0.size)
    have z1 := b1.size
    clear b1
    have lo1 : ∀ g, Value.ownBlock (.slice A1 (l1).length c1) = some g → w.heap.size ≤ g := fun g hg => (o1_1.lt g hg).1
    have hi1 : ∀ g, Value.ownBlock (.slice A1 (l1).length c1) = some g → g < w1.heap.size := fun g hg => (o1_1.lt g hg).2
    go_wp2_with fail
    refine (specNM_any A1 c1 l1 x0 x2 x3 w1 (o1_1.row InputR.enc_len)).mono ?_
    rintro e w2 ⟨rfl, b2⟩
    have B2 := B1.trans (b2.mono B1.size)
    have z2 := b2.size
    have o1_2 := o1_1.keep b2
    clear o1_1
    clear b2
    clear o1_2
    go_wp2_with fail
    refine (toInputS_any a1 cap1 l1 w2 (ha1.keep B2)).mono ?_
    rintro e w3 ⟨A2, c2, rfl, o2_3, b3⟩
    have B3 := B2.trans (b3.mono B2.size)
    have z3 := b3.size
    clear b3
    have lo2 : ∀ g, Value.ownBlock (.slice A2 (l1).length c2) = some g → w2.heap.size ≤ g := fun g hg => (o2_3.lt g hg).1
    have hi2 : ∀ g, Value.ownBlock (.slice A2 (l1).length c2) = some g → g < w3.heap.size := fun g hg => (o2_3.lt g hg).2
    go_wp2_with fail
    refine (implNM_any A2 c2 l1 x0 x2 x3 w3 (o2_3.row InputR.enc_len) o2_3.lenCap).mono ?_
    rintro e w4 ⟨rfl, b4⟩
    have B4 := B3.trans (b4.mono B3.size)
    have z4 := b4.size
    have o2_4 := o2_3.keep b4
    clear o2_3
    clear b4
    go_wp2_with fail
    refine (toInputS_any a1 cap1 l1 w4 (ha1.keep B4)).mono ?_
    rintro e w5 ⟨A3, c3, rfl, o3_5, b5⟩
    have B5 := B4.trans (b5.mono B4.size)
    have z5 := b5.size
    have o2_5 := o2_4.keep b5
    clear o2_4
    clear b5
    have lo3 : ∀ g, Value.ownBlock (.slice A3 (l1).length c3) = some g → w4.heap.size ≤ g := fun g hg => (o3_5.lt g hg).1
    have hi3 : ∀ g, Value.ownBlock (.slice A3 (l1).length c3) = some g → g < w5.heap.size := fun g hg => (o3_5.lt g hg).2
    go_wp2_with fail
    refine (eqInputS_same A2 A3 c2 c3 _ w5 (o2_5.row InputR.enc_len) (o3_5.row InputR.enc_len)).mono ?_
    rintro e w6 ⟨rfl, b6⟩
    have B6 := B5.trans (b6.mono B5.size)
    have z6 := b6.size
    have o2_6 := o2_5.keep b6
    clear o2_5
    have o3_6 := o3_5.keep b6
    clear o3_5
    clear b6
    clear o3_6
    go_wp2
    all_goals go_returns
    all_goals exact ⟨rfl, B6⟩
  · go_enter Try.func9, Try.ntmps9
    go_wp2_with fail
    refine (szInputS_big a1 l1.length cap1 _ (by omega) hlb1).mono ?_
    rintro e w1 ⟨rfl, rfl⟩
    go_wp2
    all_goals go_returns
    all_goals exact ⟨rfl, by go_grown⟩
set_option maxRecDepth 100000 in
theorem lifted (os : Os) (started : os.Started) (H : Type) (enc : TypeId × Value → H) :
    ReturnsInHanded {} Try.checked os 9 .any (Rows.fnExactNextMarkSpec.pre6 enc Try.prog Try.f9 Rows.fnExactNextMarkRow.domain false) (Rows.fnExactNextMarkSpec.post enc Try.prog Try.f9 false true false false) := by
  refine returnsInHanded_of_change (C := Try.checked) own started (by kernel_rfl) Try.func9
    (ChangeSpec.witness6 (enc := enc) (C := Try.checked) false ⟨#[], #[.int .i64 0, .slice none 0 0, .int .i64 0, .int .i64 0], []⟩ 8 (by kernel_rfl) (by kernel_rfl) (by kernel_rfl) (by kernel_rfl)) ?_
  intro W base args ds gs before hval0 hW hcnd _
  have hval : ∀ (j : Nat) t v, Try.f9.params[j]? = some t → args[j]? = some v → Value.okWide Try.prog W .any base t v := hval0
  have hW' := hW
  obtain ⟨p, q, hA0, hV, rfl, hfz, hnd⟩ := hW
  have hA : DataW.TrodAll enc Try.prog W 0 (fun _ => true) true Try.f9.params.toList args.toList ds p := hA0
  rw [Try.params9] at hA hval
  obtain ⟨v0, vs0, d0, ds0, p0, q0, hargs, rfl, rfl, h0, r0⟩ := trodAll_cons hA
  obtain ⟨v1, vs1, d1, ds1, p1, q1, rfl, rfl, rfl, h1, r1⟩ := trodAll_cons r0
  obtain ⟨v2, vs2, d2, ds2, p2, q2, rfl, rfl, rfl, h2, r2⟩ := trodAll_cons r1
  obtain ⟨v3, vs3, d3, ds3, p3, q3, rfl, rfl, rfl, h3, r3⟩ := trodAll_cons r2
  obtain ⟨rfl, rfl, rfl⟩ := trodAll_nil r3
  obtain rfl : args = #[v0, v1, v2, v3] := by cases args; simp_all
  obtain ⟨rfl, rfl⟩ := trodVars_none hV
  have k0 := h0
  have lt0 : ∀ x ∈ p0, x.block < W.heap.size := by obtain ⟨m, hm⟩ := k0; exact DataW.trod_lt m _ _ _ hm
  obtain ⟨x0, rfl, rfl, rfl, wx0⟩ := open_int Try.underlying3 (hval 0 3 v0 rfl rfl) h0
  have b0 := bounds_i64 wx0
  have k1 := h1
  have lt1 : ∀ x ∈ p1, x.block < W.heap.size := by obtain ⟨m, hm⟩ := k1; exact DataW.trod_lt m _ _ _ hm
  obtain ⟨a1, cap1, l1, rfl, m1, w1⟩ := open_InputS (hval 1 42 v1 rfl rfl) h1
  have k2 := h2
  have lt2 : ∀ x ∈ p2, x.block < W.heap.size := by obtain ⟨m, hm⟩ := k2; exact DataW.trod_lt m _ _ _ hm
  obtain ⟨x2, rfl, rfl, rfl, wx2⟩ := open_int Try.underlying3 (hval 2 3 v2 rfl rfl) h2
  have b2 := bounds_i64 wx2
  have k3 := h3
  have lt3 : ∀ x ∈ p3, x.block < W.heap.size := by obtain ⟨m, hm⟩ := k3; exact DataW.trod_lt m _ _ _ hm
  obtain ⟨x3, rfl, rfl, rfl, wx3⟩ := open_int Try.underlying3 (hval 3 3 v3 rfl rfl) h3
  have b3 := bounds_i64 wx3
  clear hA0 hval0
  refine (walk x0 a1 cap1 l1 x2 x3 W b0.1 b0.2 m1 w1 b2.1 b2.2 b3.1 b3.2).mono fun e W' ⟨he, bel⟩ => ?_
  subst he
  exact ⟨_, rfl, _, _, _, [], _, [], hW', trodAll_mk1 (shut_bool Try.underlying4 _), (trodAll_cons_mk (Below.trod laidOut (by kernel_rfl) (of_decide_eq_true (by kernel_rfl)) k0 bel lt0) (trodAll_cons_mk (Below.trod laidOut (by kernel_rfl) (of_decide_eq_true (by kernel_rfl)) k1 bel lt1) (trodAll_cons_mk (Below.trod laidOut (by kernel_rfl) (of_decide_eq_true (by kernel_rfl)) k2 bel lt2) (trodAll_cons_mk (Below.trod laidOut (by kernel_rfl) (of_decide_eq_true (by kernel_rfl)) k3 bel lt3) trodAll_mk0)))), rfl, bel.frame _, fun h => by cases h⟩

theorem closed : joinedFacts Try.checked.prog 9 Try.f9 Rows.fnExactNextMarkSpec Rows.fnExactNextMarkRow = true := by
  unfold joinedFacts
  rw [mayE, liftE, makeE]
  kernel_rfl

theorem over : Rows.fnExactNextMarkRow.holds Try.pinned (OpenSpec.ofChange Rows.fnExactNextMarkSpec) :=
  OpenClaim.holds_of_wide 9 Try.f9 rfl rfl rfl rfl rfl rfl rfl ⟨rfl, rfl, rfl, rfl, rfl⟩ rfl rfl rfl rfl rfl (by kernel_rfl) Try.func9 closed
    (of_decide_eq_true (by kernel_rfl)) (by unfold Func.isWrapper; first | (rw [if_pos (by decide +kernel)]; kernel_rfl) | (rw [if_neg (by decide +kernel)]; exact ⟨rfl, rfl⟩))
    (fun os started H enc _ => lifted os started H enc)

theorem proved : Rows.FnExactNextMarkSaid := over
#print axioms proved
end Go.Proofs.Ytehedhkadjidpab.fnExactNextMark
