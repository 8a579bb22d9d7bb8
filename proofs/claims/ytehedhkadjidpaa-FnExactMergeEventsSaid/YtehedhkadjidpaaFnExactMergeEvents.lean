/- The law FnExactMergeEvents answers true at every input and leaves its arguments as they were; no condition. -/
import Derived.Test.YtehedhkadjidpaaRows
import Derived.WalkKit
import Derived.WalkSpells
import Derived.WalkLawsBesides
import Derived.ProofKit
import Derived.OpenShut
import Derived.ShutString
import Derived.ChangeOld
import Derived.Below
import Derived.Lib.SmallJoins
import Derived.Handy
import Derived.Test.YtehedhkadjidpaaMay
import Derived.Test.YtehedhkadjidpaaMgI
import Derived.Test.YtehedhkadjidpaaTyOpenEvent
namespace Go.Proofs.Ytehedhkadjidpaa.fnExactMergeEvents
open Go.ChangeShapes Go.WideShapes Go.ChangeAt Go.RowKit Go.Joins
open Go.ChangeMaps (open_string shut_string)
set_option linter.unusedVariables false

theorem own : ownKnob Try.prog.godebug = none := by kernel_rfl
theorem laidOut : laidOutB Try.prog = true := by kernel_rfl
set_option maxRecDepth 100000 in
set_option maxHeartbeats 1000000 in
theorem walk (a0 : Option Addr) (cap0 : Nat) (l0 : List EventR) (a1 : Option Addr) (cap1 : Nat) (l1 : List EventR) (w : World) (m0 : l0.length ≤ maxLen) (w0 : RowA EventR.enc 3 w a0 l0) (m1 : l1.length ≤ maxLen) (w1 : RowA EventR.enc 3 w a1 l1) :
    Calls Try.prog 3 #[.slice a0 l0.length cap0, .slice a1 l1.length cap1] w fun e w' => e = .returned (.bool true) ∧ Below w.heap.size w w' := by
  have hlb0 := m0
  by_cases hlen0 : l0.length ≤ 1048576
  · have ha0 : Row EventR.enc 3 w a0 l0 := ⟨by omega, w0⟩
    have hlb1 := m1
    by_cases hlen1 : l0.length + l1.length ≤ 1048576
    · have ha1 : Row EventR.enc 3 w a1 l1 := ⟨by omega, w1⟩
      have B0 : Below w.heap.size w w := Below.refl _ _
      clear hlb0 m0 w0 hlb1 m1 w1
      go_enter Try.func3, Try.ntmps3
      go_wp2_with fail
      refine (szEventS_ok a0 l0.length cap0 (1048576) _ (by omega) (by omega)).mono ?_
      rintro e w0 ⟨rfl, rfl⟩
      go_wp2_with fail
      refine (szEventS_ok a1 l1.length cap1 (1048576 - (l0.length : Int)) _ (by omega) (by omega)).mono ?_
      rintro e w0 ⟨rfl, rfl⟩
      go_wp2_with fail
      refine (toEventS_any a0 cap0 l0 w (ha0.keep B0)).mono ?_
      rintro e w1 ⟨A1, c1, rfl, o1_1, b1⟩
      have B1 := B0.trans (b1.mono B0.size)
      have z1 := b1.size
      clear b1
      have lo1 : ∀ g, Value.ownBlock (.slice A1 (l0).length c1) = some g → w.heap.size ≤ g := fun g hg => (o1_1.lt g hg).1
      have hi1 : ∀ g, Value.ownBlock (.slice A1 (l0).length c1) = some g → g < w1.heap.size := fun g hg => (o1_1.lt g hg).2
      go_wp2_with fail
      refine (toEventS_any a1 cap1 l1 w1 (ha1.keep B1)).mono ?_
      rintro e w2 ⟨A2, c2, rfl, o2_2, b2⟩
      have B2 := B1.trans (b2.mono B1.size)
      have z2 := b2.size
      have o1_2 := o1_1.keep b2
      clear o1_1
      clear b2
      have lo2 : ∀ g, Value.ownBlock (.slice A2 (l1).length c2) = some g → w1.heap.size ≤ g := fun g hg => (o2_2.lt g hg).1
      have hi2 : ∀ g, Value.ownBlock (.slice A2 (l1).length c2) = some g → g < w2.heap.size := fun g hg => (o2_2.lt g hg).2
      go_wp2_with fail
      refine (specMerge_any A1 c1 l0 A2 c2 l1 w2 (o1_2.row EventR.enc_len) (o2_2.row EventR.enc_len)).mono ?_
      rintro e w3 ⟨A3, c3, rfl, o3_3, b3⟩
      have B3 := B2.trans (b3.mono B2.size)
      have z3 := b3.size
      have o1_3 := o1_2.keep b3
      clear o1_2
      have o2_3 := o2_2.keep b3
      clear o2_2
      clear b3
      have lo3 : ∀ g, Value.ownBlock (.slice A3 (mgF l0 l1).length c3) = some g → w2.heap.size ≤ g := fun g hg => (o3_3.lt g hg).1
      have hi3 : ∀ g, Value.ownBlock (.slice A3 (mgF l0 l1).length c3) = some g → g < w3.heap.size := fun g hg => (o3_3.lt g hg).2
      clear o1_3
      clear o2_3
      go_wp2_with fail
      refine (toEventS_any a0 cap0 l0 w3 (ha0.keep B3)).mono ?_
      rintro e w4 ⟨A4, c4, rfl, o4_4, b4⟩
      have B4 := B3.trans (b4.mono B3.size)
      have z4 := b4.size
      have o3_4 := o3_3.keep b4
      clear o3_3
      clear b4
      have lo4 : ∀ g, Value.ownBlock (.slice A4 (l0).length c4) = some g → w3.heap.size ≤ g := fun g hg => (o4_4.lt g hg).1
      have hi4 : ∀ g, Value.ownBlock (.slice A4 (l0).length c4) = some g → g < w4.heap.size := fun g hg => (o4_4.lt g hg).2
      go_wp2_with fail
      refine (toEventS_any a1 cap1 l1 w4 (ha1.keep B4)).mono ?_
      rintro e w5 ⟨A5, c5, rfl, o5_5, b5⟩
      have B5 := B4.trans (b5.mono B4.size)
      have z5 := b5.size
      have o3_5 := o3_4.keep b5
      clear o3_4
      have o4_5 := o4_4.keep b5
      clear o4_4
      clear b5
      have lo5 : ∀ g, Value.ownBlock (.slice A5 (l1).length c5) = some g → w4.heap.size ≤ g := fun g hg => (o5_5.lt g hg).1
      have hi5 : ∀ g, Value.ownBlock (.slice A5 (l1).length c5) = some g → g < w5.heap.size := fun g hg => (o5_5.lt g hg).2
      go_wp2_with fail
      refine (implMerge_any A4 c4 l0 A5 c5 l1 w5 (o4_5.row EventR.enc_len) (o5_5.row EventR.enc_len) o4_5.lenCap o5_5.lenCap).mono ?_
      rintro e w6 ⟨A6, c6, rfl, o6_6, b6⟩
      have B6 := B5.trans (b6.mono B5.size)
      have z6 := b6.size
      have o3_6 := o3_5.keep b6
      clear o3_5
      have o4_6 := o4_5.keep b6
      clear o4_5
      have o5_6 := o5_5.keep b6
      clear o5_5
      clear b6
      have lo6 : ∀ g, Value.ownBlock (.slice A6 (mgF l0 l1).length c6) = some g → w5.heap.size ≤ g := fun g hg => (o6_6.lt g hg).1
      have hi6 : ∀ g, Value.ownBlock (.slice A6 (mgF l0 l1).length c6) = some g → g < w6.heap.size := fun g hg => (o6_6.lt g hg).2
      go_wp2_with fail
      refine (eqEventS_same A6 A3 c6 c3 _ w6 (o6_6.row EventR.enc_len) (o3_6.row EventR.enc_len)).mono ?_
      rintro e w7 ⟨rfl, b7⟩
      have B7 := B6.trans (b7.mono B6.size)
      have z7 := b7.size
      have o3_7 := o3_6.keep b7
      clear o3_6
      have o4_7 := o4_6.keep b7
      clear o4_6
      have o5_7 := o5_6.keep b7
      clear o5_6
      have o6_7 := o6_6.keep b7
      clear o6_6
      clear b7
      go_wp2_with fail
      refine (toEventS_any a0 cap0 l0 w7 (ha0.keep B7)).mono ?_
      rintro e w8 ⟨A7, c7, rfl, o7_8, b8⟩
      have B8 := B7.trans (b8.mono B7.size)
      have z8 := b8.size
      have o3_8 := o3_7.keep b8
      clear o3_7
      have o4_8 := o4_7.keep b8
      clear o4_7
      have o5_8 := o5_7.keep b8
      clear o5_7
      have o6_8 := o6_7.keep b8
      clear o6_7
      clear b8
      have lo7 : ∀ g, Value.ownBlock (.slice A7 (l0).length c7) = some g → w7.heap.size ≤ g := fun g hg => (o7_8.lt g hg).1
      have hi7 : ∀ g, Value.ownBlock (.slice A7 (l0).length c7) = some g → g < w8.heap.size := fun g hg => (o7_8.lt g hg).2
      go_wp2_with fail
      refine (eqEventS_same A4 A7 c4 c7 _ w8 (o4_8.row EventR.enc_len) (o7_8.row EventR.enc_len)).mono ?_
      rintro e w9 ⟨rfl, b9⟩
      have B9 := B8.trans (b9.mono B8.size)
      have z9 := b9.size
      have o3_9 := o3_8.keep b9
      clear o3_8
      have o4_9 := o4_8.keep b9
      clear o4_8
      have o5_9 := o5_8.keep b9
      clear o5_8
      have o6_9 := o6_8.keep b9
      clear o6_8
      have o7_9 := o7_8.keep b9
      clear o7_8
      clear b9
      clear o7_9
      go_wp2_with fail
      refine (toEventS_any a1 cap1 l1 w9 (ha1.keep B9)).mono ?_
      rintro e w10 ⟨A8, c8, rfl, o8_10, b10⟩
      have B10 := B9.trans (b10.mono B9.size)
      have z10 := b10.size
      have o3_10 := o3_9.keep b10
      clear o3_9
      have o4_10 := o4_9.keep b10
      clear o4_9
      have o5_10 := o5_9.keep b10
      clear o5_9
      have o6_10 := o6_9.keep b10
      clear o6_9
      clear b10
      have lo8 : ∀ g, Value.ownBlock (.slice A8 (l1).length c8) = some g → w9.heap.size ≤ g := fun g hg => (o8_10.lt g hg).1
      have hi8 : ∀ g, Value.ownBlock (.slice A8 (l1).length c8) = some g → g < w10.heap.size := fun g hg => (o8_10.lt g hg).2
      go_wp2_with fail
      refine (eqEventS_same A5 A8 c5 c8 _ w10 (o5_10.row EventR.enc_len) (o8_10.row EventR.enc_len)).mono ?_
      rintro e w11 ⟨rfl, b11⟩
      have B11 := B10.trans (b11.mono B10.size)
      have z11 := b11.size
      have o3_11 := o3_10.keep b11
      clear o3_10
      have o4_11 := o4_10.keep b11
      clear o4_10
      have o5_11 := o5_10.keep b11
      clear o5_10
      have o6_11 := o6_10.keep b11
      clear o6_10
      have o8_11 := o8_10.keep b11
      clear o8_10
      clear b11
      clear o8_11
      go_wp2_with fail
      refine (markEventS_any A4 c4 _ (1) _ _ w11 o4_11.2 o4_11.1 (by omega) (by omega)).mono ?_
      rintro e w12 ⟨rfl, -, g12⟩
      have B12 := B11.trans (below_of_gb (B0 := w.heap.size) g12 B11.size (fun g hg => by have := lo4 g hg; have := B3.size; omega))
      have z12 := g12.size
      have o3_12 := o3_11.far g12 (fun g g' hg hg' => by have h1 := hi3 g hg; have h2 := lo4 g' hg'; omega)
      clear o3_11
      have o5_12 := o5_11.far g12 (fun g g' hg hg' => by have h1 := lo5 g hg; have h2 := hi4 g' hg'; omega)
      clear o5_11
      have o6_12 := o6_11.far g12 (fun g g' hg hg' => by have h1 := lo6 g hg; have h2 := hi4 g' hg'; omega)
      clear o6_11
      clear o4_11 g12
      go_wp2_with fail
      refine (markEventS_any A5 c5 _ (1 + ((l0).length : Int) * 3) _ _ w12 o5_12.2 o5_12.1 (by omega) (by omega)).mono ?_
      rintro e w13 ⟨rfl, -, g13⟩
      have B13 := B12.trans (below_of_gb (B0 := w.heap.size) g13 B12.size (fun g hg => by have := lo5 g hg; have := B4.size; omega))
      have z13 := g13.size
      have o3_13 := o3_12.far g13 (fun g g' hg hg' => by have h1 := hi3 g hg; have h2 := lo5 g' hg'; omega)
      clear o3_12
      have o6_13 := o6_12.far g13 (fun g g' hg hg' => by have h1 := lo6 g hg; have h2 := hi5 g' hg'; omega)
      clear o6_12
      clear o5_12 g13
      go_wp2_with fail
      refine (eqEventS_same A6 A3 c6 c3 _ w13 (o6_13.row EventR.enc_len) (o3_13.row EventR.enc_len)).mono ?_
      rintro e w14 ⟨rfl, b14⟩
      have B14 := B13.trans (b14.mono B13.size)
      have z14 := b14.size
      have o3_14 := o3_13.keep b14
      clear o3_13
      have o6_14 := o6_13.keep b14
      clear o6_13
      clear b14
      go_wp2_with fail
      refine (markEventS_any A6 c6 _ (1) _ _ w14 o6_14.2 o6_14.1 (by omega) (by omega)).mono ?_
      rintro e w15 ⟨rfl, m6_15, g15⟩
      have hF6 := o6_14.1
      have B15 := B14.trans (below_of_gb (B0 := w.heap.size) g15 B14.size (fun g hg => by have := lo6 g hg; have := B5.size; omega))
      have z15 := g15.size
      have o3_15 := o3_14.far g15 (fun g g' hg hg' => by have h1 := hi3 g hg; have h2 := lo6 g' hg'; omega)
      clear o3_14
      clear o6_14 g15
      go_wp2_with fail
      refine (heldEventS_any A6 c6 _ (1) _ w15 m6_15 hF6 (by omega) (by omega)).mono ?_
      rintro e wx ⟨rfl, rfl⟩
      go_wp2_with fail
      refine (toEventS_any a0 cap0 l0 w15 (ha0.keep B15)).mono ?_
      rintro e w16 ⟨A9, c9, rfl, o9_16, b16⟩
      have B16 := B15.trans (b16.mono B15.size)
      have z16 := b16.size
      have o3_16 := o3_15.keep b16
      clear o3_15
      have m6_16 := ownsRow_keep m6_15 b16
      clear m6_15
      clear b16
      have lo9 : ∀ g, Value.ownBlock (.slice A9 (l0).length c9) = some g → w15.heap.size ≤ g := fun g hg => (o9_16.lt g hg).1
      have hi9 : ∀ g, Value.ownBlock (.slice A9 (l0).length c9) = some g → g < w16.heap.size := fun g hg => (o9_16.lt g hg).2
      go_wp2_with fail
      refine (toEventS_any a1 cap1 l1 w16 (ha1.keep B16)).mono ?_
      rintro e w17 ⟨A10, c10, rfl, o10_17, b17⟩
      have B17 := B16.trans (b17.mono B16.size)
      have z17 := b17.size
      have o3_17 := o3_16.keep b17
      clear o3_16
      have o9_17 := o9_16.keep b17
      clear o9_16
      have m6_17 := ownsRow_keep m6_16 b17
      clear m6_16
      clear b17
      have lo10 : ∀ g, Value.ownBlock (.slice A10 (l1).length c10) = some g → w16.heap.size ≤ g := fun g hg => (o10_17.lt g hg).1
      have hi10 : ∀ g, Value.ownBlock (.slice A10 (l1).length c10) = some g → g < w17.heap.size := fun g hg => (o10_17.lt g hg).2
      go_wp2_with fail
      refine (implMerge_any A9 c9 l0 A10 c10 l1 w17 (o9_17.row EventR.enc_len) (o10_17.row EventR.enc_len) o9_17.lenCap o10_17.lenCap).mono ?_
      rintro e w18 ⟨A11, c11, rfl, o11_18, b18⟩
      have B18 := B17.trans (b18.mono B17.size)
      have z18 := b18.size
      have o3_18 := o3_17.keep b18
      clear o3_17
      have o9_18 := o9_17.keep b18
      clear o9_17
      have o10_18 := o10_17.keep b18
      clear o10_17
      have m6_18 := ownsRow_keep m6_17 b18
      clear m6_17
      clear b18
      have lo11 : ∀ g, Value.ownBlock (.slice A11 (mgF l0 l1).length c11) = some g → w17.heap.size ≤ g := fun g hg => (o11_18.lt g hg).1
      have hi11 : ∀ g, Value.ownBlock (.slice A11 (mgF l0 l1).length c11) = some g → g < w18.heap.size := fun g hg => (o11_18.lt g hg).2
      clear o9_18
      clear o10_18
      go_wp2_with fail
      refine (eqEventS_same A11 A3 c11 c3 _ w18 (o11_18.row EventR.enc_len) (o3_18.row EventR.enc_len)).mono ?_
      rintro e w19 ⟨rfl, b19⟩
      have B19 := B18.trans (b19.mono B18.size)
      have z19 := b19.size
      have o3_19 := o3_18.keep b19
      clear o3_18
      have o11_19 := o11_18.keep b19
      clear o11_18
      have m6_19 := ownsRow_keep m6_18 b19
      clear m6_18
      clear b19
      go_wp2_with fail
      refine (heldEventS_any A6 c6 _ (1) _ w19 m6_19 hF6 (by omega) (by omega)).mono ?_
      rintro e wx ⟨rfl, rfl⟩
      go_wp2
      all_goals go_returns
      all_goals exact ⟨rfl, B19⟩
    · go_enter Try.func3, Try.ntmps3
      go_wp2_with fail
      refine (szEventS_ok a0 l0.length cap0 (1048576) _ (by omega) (by omega)).mono ?_
      rintro e w0 ⟨rfl, rfl⟩
      go_wp2_with fail
      refine (szEventS_big a1 l1.length cap1 (1048576 - (l0.length : Int)) _ (by omega) (by omega) hlb1).mono ?_
      rintro e w1 ⟨rfl, rfl⟩
      go_wp2
      all_goals go_returns
      all_goals exact ⟨rfl, by go_grown⟩
  · go_enter Try.func3, Try.ntmps3
    go_wp2_with fail
    refine (szEventS_big a0 l0.length cap0 (1048576) _ (by omega) (by omega) hlb0).mono ?_
    rintro e w1 ⟨rfl, rfl⟩
    go_wp2
    all_goals go_returns
    all_goals exact ⟨rfl, by go_grown⟩
set_option maxRecDepth 100000 in
theorem lifted (os : Os) (started : os.Started) (H : Type) (enc : TypeId × Value → H) :
    ReturnsInHanded {} Try.checked os 3 .any (Rows.fnExactMergeEventsSpec.pre6 enc Try.prog Try.f3 Rows.fnExactMergeEventsRow.domain false) (Rows.fnExactMergeEventsSpec.post enc Try.prog Try.f3 false true false false) := by
  refine returnsInHanded_of_change (C := Try.checked) own started (by kernel_rfl) Try.func3
    (ChangeSpec.witness6 (enc := enc) (C := Try.checked) false ⟨#[], #[.slice none 0 0, .slice none 0 0], []⟩ 8 (by kernel_rfl) (by kernel_rfl) (by kernel_rfl) (by kernel_rfl)) ?_
  intro W base args ds gs before hval0 hW hcnd _
  have hval : ∀ (j : Nat) t v, Try.f3.params[j]? = some t → args[j]? = some v → Value.okWide Try.prog W .any base t v := hval0
  have hW' := hW
  obtain ⟨p, q, hA0, hV, rfl, hfz, hnd⟩ := hW
  have hA : DataW.TrodAll enc Try.prog W 0 (fun _ => true) true Try.f3.params.toList args.toList ds p := hA0
  rw [Try.params3] at hA hval
  obtain ⟨v0, vs0, d0, ds0, p0, q0, hargs, rfl, rfl, h0, r0⟩ := trodAll_cons hA
  obtain ⟨v1, vs1, d1, ds1, p1, q1, rfl, rfl, rfl, h1, r1⟩ := trodAll_cons r0
  obtain ⟨rfl, rfl, rfl⟩ := trodAll_nil r1
  obtain rfl : args = #[v0, v1] := by cases args; simp_all
  obtain ⟨rfl, rfl⟩ := trodVars_none hV
  have k0 := h0
  have lt0 : ∀ x ∈ p0, x.block < W.heap.size := by obtain ⟨m, hm⟩ := k0; exact DataW.trod_lt m _ _ _ hm
  obtain ⟨a0, cap0, l0, rfl, m0, w0⟩ := open_EventS (hval 0 22 v0 rfl rfl) h0
  have k1 := h1
  have lt1 : ∀ x ∈ p1, x.block < W.heap.size := by obtain ⟨m, hm⟩ := k1; exact DataW.trod_lt m _ _ _ hm
  obtain ⟨a1, cap1, l1, rfl, m1, w1⟩ := open_EventS (hval 1 22 v1 rfl rfl) h1
  clear hA0 hval0
  refine (walk a0 cap0 l0 a1 cap1 l1 W m0 w0 m1 w1).mono fun e W' ⟨he, bel⟩ => ?_
  subst he
  exact ⟨_, rfl, _, _, _, [], _, [], hW', trodAll_mk1 (shut_bool Try.underlying4 _), (trodAll_cons_mk (Below.trod laidOut (by kernel_rfl) (of_decide_eq_true (by kernel_rfl)) k0 bel lt0) (trodAll_cons_mk (Below.trod laidOut (by kernel_rfl) (of_decide_eq_true (by kernel_rfl)) k1 bel lt1) trodAll_mk0)), rfl, bel.frame _, fun h => by cases h⟩

theorem closed : joinedFacts Try.checked.prog 3 Try.f3 Rows.fnExactMergeEventsSpec Rows.fnExactMergeEventsRow = true := by
  unfold joinedFacts
  rw [mayE, liftE, makeE]
  kernel_rfl

theorem over : Rows.fnExactMergeEventsRow.holds Try.pinned (OpenSpec.ofChange Rows.fnExactMergeEventsSpec) :=
  OpenClaim.holds_of_wide 3 Try.f3 rfl rfl rfl rfl rfl rfl rfl ⟨rfl, rfl, rfl, rfl, rfl⟩ rfl rfl rfl rfl rfl (by kernel_rfl) Try.func3 closed
    (of_decide_eq_true (by kernel_rfl)) (by unfold Func.isWrapper; first | (rw [if_pos (by decide +kernel)]; kernel_rfl) | (rw [if_neg (by decide +kernel)]; exact ⟨rfl, rfl⟩))
    (fun os started H enc _ => lifted os started H enc)

theorem proved : Rows.FnExactMergeEventsSaid := over
#print axioms proved
end Go.Proofs.Ytehedhkadjidpaa.fnExactMergeEvents
