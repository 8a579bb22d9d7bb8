/- The law FnExactClosedSessions answers true at every input and leaves its arguments as they were; no condition. -/
import Derived.Test.YtgebijaojkmjiaaRows
import Derived.WalkKit
import Derived.WalkSpells
import Derived.WalkLawsBesides
import Derived.ProofKit
import Derived.OpenShut
import Derived.ShutString
import Derived.ChangeOld
import Derived.Below
import Derived.Lib.SmallJoins
import Derived.Handy
import Derived.Test.YtgebijaojkmjiaaClsI
import Derived.Test.YtgebijaojkmjiaaTyOpenSession
namespace Go.Proofs.Ytgebijaojkmjiaa.fnExactClosedSessions
open Go.ChangeShapes Go.WideShapes Go.ChangeAt Go.RowKit Go.Joins
open Go.ChangeMaps (open_string shut_string)
set_option linter.unusedVariables false

theorem own : ownKnob Try.prog.godebug = none := by kernel_rfl
theorem laidOut : laidOutB Try.prog = true := by kernel_rfl
set_option maxHeartbeats 1000000 in
theorem walk (a0 : Option Addr) (cap0 : Nat) (l0 : List SessionR) (x1 : Int) (w : World) (m0 : l0.length ≤ maxLen) (w0 : RowA SessionR.enc 4 w a0 l0) (l1 : -9223372036854775808 ≤ x1) (u1 : x1 ≤ 9223372036854775807) :
    Calls Try.prog 14 #[.slice a0 l0.length cap0, .int .i64 x1] w fun e w' => e = .returned (.bool true) ∧ Below w.heap.size w w' := by
  have hlb0 := m0
  by_cases hlen0 : l0.length ≤ 1048576
  · have ha0 : Row SessionR.enc 4 w a0 l0 := ⟨by omega, w0⟩
    have B0 : Below w.heap.size w w := Below.refl _ _
    clear hlb0 m0 w0
    go_enter Try.func14, Try.ntmps14
    go_wp2_with fail
    refine (szSessionS_ok a0 l0.length cap0 (1048576) _ (by omega) (by omega)).mono ?_
    rintro e w0 ⟨rfl, rfl⟩
    go_wp2_with fail
    refine (toSessionS_any a0 cap0 l0 w (ha0.keep B0)).mono ?_
    rintro e w1 ⟨A1, c1, rfl, o1_1, b1⟩
    have B1 := B0.trans (b1.mono B0.size)
    have z1 := b1.size
    clear b1
    have lo1 : ∀ g, Value.ownBlock (.slice A1 (l0).length c1) = some g → w.heap.size ≤ g := fun g hg => (o1_1.lt g hg).1
    have hi1 : ∀ g, Value.ownBlock (.slice A1 (l0).length c1) = some g → g < w1.heap.size := fun g hg => (o1_1.lt g hg).2
    go_wp2_with fail
    refine (specCls_any A1 c1 l0 x1 w1 (o1_1.row SessionR.enc_len)).mono ?_
    rintro e w2 ⟨A2, c2, A3, c3, rfl, o2_2, o3_2, d2_3, b2⟩
    have B2 := B1.trans (b2.mono B1.size)
    have z2 := b2.size
    have o1_2 := o1_1.keep b2
    clear o1_1
    clear b2
    have lo2 : ∀ g, Value.ownBlock (.slice A2 (clsA l0 x1).length c2) = some g → w1.heap.size ≤ g := fun g hg => (o2_2.lt g hg).1
    have hi2 : ∀ g, Value.ownBlock (.slice A2 (clsA l0 x1).length c2) = some g → g < w2.heap.size := fun g hg => (o2_2.lt g hg).2
    have lo3 : ∀ g, Value.ownBlock (.slice A3 (clsB l0 x1).length c3) = some g → w1.heap.size ≤ g := fun g hg => (o3_2.lt g hg).1
    have hi3 : ∀ g, Value.ownBlock (.slice A3 (clsB l0 x1).length c3) = some g → g < w2.heap.size := fun g hg => (o3_2.lt g hg).2
    clear o1_2
    go_wp2_with fail
    refine (toSessionS_any a0 cap0 l0 w2 (ha0.keep B2)).mono ?_
    rintro e w3 ⟨A4, c4, rfl, o4_3, b3⟩
    have B3 := B2.trans (b3.mono B2.size)
    have z3 := b3.size
    have o2_3 := o2_2.keep b3
    clear o2_2
    have o3_3 := o3_2.keep b3
    clear o3_2
    clear b3
    have lo4 : ∀ g, Value.ownBlock (.slice A4 (l0).length c4) = some g → w2.heap.size ≤ g := fun g hg => (o4_3.lt g hg).1
    have hi4 : ∀ g, Value.ownBlock (.slice A4 (l0).length c4) = some g → g < w3.heap.size := fun g hg => (o4_3.lt g hg).2
    go_wp2_with fail
    refine (implCls_any A4 c4 l0 x1 w3 (o4_3.row SessionR.enc_len) o4_3.lenCap).mono ?_
    rintro e w4 ⟨A5, c5, A6, c6, rfl, o5_4, o6_4, d5_6, b4⟩
    have B4 := B3.trans (b4.mono B3.size)
    have z4 := b4.size
    have o2_4 := o2_3.keep b4
    clear o2_3
    have o3_4 := o3_3.keep b4
    clear o3_3
    have o4_4 := o4_3.keep b4
    clear o4_3
    clear b4
    have lo5 : ∀ g, Value.ownBlock (.slice A5 (clsA l0 x1).length c5) = some g → w3.heap.size ≤ g := fun g hg => (o5_4.lt g hg).1
    have hi5 : ∀ g, Value.ownBlock (.slice A5 (clsA l0 x1).length c5) = some g → g < w4.heap.size := fun g hg => (o5_4.lt g hg).2
    have lo6 : ∀ g, Value.ownBlock (.slice A6 (clsB l0 x1).length c6) = some g → w3.heap.size ≤ g := fun g hg => (o6_4.lt g hg).1
    have hi6 : ∀ g, Value.ownBlock (.slice A6 (clsB l0 x1).length c6) = some g → g < w4.heap.size := fun g hg => (o6_4.lt g hg).2
    go_wp2_with fail
    refine (eqSessionS_same A5 A2 c5 c2 _ w4 (o5_4.row SessionR.enc_len) (o2_4.row SessionR.enc_len)).mono ?_
    rintro e w5 ⟨rfl, b5⟩
    have B5 := B4.trans (b5.mono B4.size)
    have z5 := b5.size
    have o2_5 := o2_4.keep b5
    clear o2_4
    have o3_5 := o3_4.keep b5
    clear o3_4
    have o4_5 := o4_4.keep b5
    clear o4_4
    have o5_5 := o5_4.keep b5
    clear o5_4
    have o6_5 := o6_4.keep b5
    clear o6_4
    clear b5
    go_wp2_with fail
    refine (eqSessionS_same A6 A3 c6 c3 _ w5 (o6_5.row SessionR.enc_len) (o3_5.row SessionR.enc_len)).mono ?_
    rintro e w6 ⟨rfl, b6⟩
    have B6 := B5.trans (b6.mono B5.size)
    have z6 := b6.size
    have o2_6 := o2_5.keep b6
    clear o2_5
    have o3_6 := o3_5.keep b6
    clear o3_5
    have o4_6 := o4_5.keep b6
    clear o4_5
    have o5_6 := o5_5.keep b6
    clear o5_5
    have o6_6 := o6_5.keep b6
    clear o6_5
    clear b6
    go_wp2_with fail
    refine (toSessionS_any a0 cap0 l0 w6 (ha0.keep B6)).mono ?_
    rintro e w7 ⟨A7, c7, rfl, o7_7, b7⟩
    have B7 := B6.trans (b7.mono B6.size)
    have z7 := b7.size
    have o2_7 := o2_6.keep b7
    clear o2_6
    have o3_7 := o3_6.keep b7
    clear o3_6
    have o4_7 := o4_6.keep b7
    clear o4_6
    have o5_7 := o5_6.keep b7
    clear o5_6
    have o6_7 := o6_6.keep b7
    clear o6_6
    clear b7
    have lo7 : ∀ g, Value.ownBlock (.slice A7 (l0).length c7) = some g → w6.heap.size ≤ g := fun g hg => (o7_7.lt g hg).1
    have hi7 : ∀ g, Value.ownBlock (.slice A7 (l0).length c7) = some g → g < w7.heap.size := fun g hg => (o7_7.lt g hg).2
    go_wp2_with fail
    refine (eqSessionS_same A4 A7 c4 c7 _ w7 (o4_7.row SessionR.enc_len) (o7_7.row SessionR.enc_len)).mono ?_
    rintro e w8 ⟨rfl, b8⟩
    have B8 := B7.trans (b8.mono B7.size)
    have z8 := b8.size
    have o2_8 := o2_7.keep b8
    clear o2_7
    have o3_8 := o3_7.keep b8
    clear o3_7
    have o4_8 := o4_7.keep b8
    clear o4_7
    have o5_8 := o5_7.keep b8
    clear o5_7
    have o6_8 := o6_7.keep b8
    clear o6_7
    have o7_8 := o7_7.keep b8
    clear o7_7
    clear b8
    clear o7_8
    go_wp2_with fail
    refine (markSessionS_any A4 c4 _ (1) _ _ w8 o4_8.2 o4_8.1 (by omega) (by omega)).mono ?_
    rintro e w9 ⟨rfl, -, g9⟩
    have B9 := B8.trans (below_of_gb (B0 := w.heap.size) g9 B8.size (fun g hg => by have := lo4 g hg; have := B2.size; omega))
    have z9 := g9.size
    have o2_9 := o2_8.far g9 (fun g g' hg hg' => by have h1 := hi2 g hg; have h2 := lo4 g' hg'; omega)
    clear o2_8
    have o3_9 := o3_8.far g9 (fun g g' hg hg' => by have h1 := hi3 g hg; have h2 := lo4 g' hg'; omega)
    clear o3_8
    have o5_9 := o5_8.far g9 (fun g g' hg hg' => by have h1 := lo5 g hg; have h2 := hi4 g' hg'; omega)
    clear o5_8
    have o6_9 := o6_8.far g9 (fun g g' hg hg' => by have h1 := lo6 g hg; have h2 := hi4 g' hg'; omega)
    clear o6_8
    clear o4_8 g9
    go_wp2_with fail
    refine (eqSessionS_same A5 A2 c5 c2 _ w9 (o5_9.row SessionR.enc_len) (o2_9.row SessionR.enc_len)).mono ?_
    rintro e w10 ⟨rfl, b10⟩
    have B10 := B9.trans (b10.mono B9.size)
    have z10 := b10.size
    have o2_10 := o2_9.keep b10
    clear o2_9
    have o3_10 := o3_9.keep b10
    clear o3_9
    have o5_10 := o5_9.keep b10
    clear o5_9
    have o6_10 := o6_9.keep b10
    clear o6_9
    clear b10
    go_wp2_with fail
    refine (eqSessionS_same A6 A3 c6 c3 _ w10 (o6_10.row SessionR.enc_len) (o3_10.row SessionR.enc_len)).mono ?_
    rintro e w11 ⟨rfl, b11⟩
    have B11 := B10.trans (b11.mono B10.size)
    have z11 := b11.size
    have o2_11 := o2_10.keep b11
    clear o2_10
    have o3_11 := o3_10.keep b11
    clear o3_10
    have o5_11 := o5_10.keep b11
    clear o5_10
    have o6_11 := o6_10.keep b11
    clear o6_10
    clear b11
    go_wp2_with fail
    refine (markSessionS_any A5 c5 _ (1) _ _ w11 o5_11.2 o5_11.1 (by omega) (by omega)).mono ?_
    rintro e w12 ⟨rfl, m5_12, g12⟩
    have hF5 := o5_11.1
    have B12 := B11.trans (below_of_gb (B0 := w.heap.size) g12 B11.size (fun g hg => by have := lo5 g hg; have := B3.size; omega))
    have z12 := g12.size
    have o2_12 := o2_11.far g12 (fun g g' hg hg' => by have h1 := hi2 g hg; have h2 := lo5 g' hg'; omega)
    clear o2_11
    have o3_12 := o3_11.far g12 (fun g g' hg hg' => by have h1 := hi3 g hg; have h2 := lo5 g' hg'; omega)
    clear o3_11
    have o6_12 := o6_11.far g12 (fun g g' hg hg' => (d5_6 g' g hg' hg).symm)
    clear o6_11
    clear o5_11 g12
    go_wp2_with fail
    refine (markSessionS_any A6 c6 _ (1 + ((clsA l0 x1).length : Int) * 4) _ _ w12 o6_12.2 o6_12.1 (by omega) (by omega)).mono ?_
    rintro e w13 ⟨rfl, m6_13, g13⟩
    have hF6 := o6_12.1
    have B13 := B12.trans (below_of_gb (B0 := w.heap.size) g13 B12.size (fun g hg => by have := lo6 g hg; have := B3.size; omega))
    have z13 := g13.size
    have o2_13 := o2_12.far g13 (fun g g' hg hg' => by have h1 := hi2 g hg; have h2 := lo6 g' hg'; omega)
    clear o2_12
    have o3_13 := o3_12.far g13 (fun g g' hg hg' => by have h1 := hi3 g hg; have h2 := lo6 g' hg'; omega)
    clear o3_12
    have m5_13 := orow_far m5_12 g13 (fun g g' hg hg' => d5_6 g g' hg hg')
    clear m5_12
    clear o6_12 g13
    go_wp2_with fail
    refine (heldSessionS_any A5 c5 _ (1) _ w13 m5_13 hF5 (by omega) (by omega)).mono ?_
    rintro e wx ⟨rfl, rfl⟩
    go_wp2_with fail
    refine (heldSessionS_any A6 c6 _ (1 + ((clsA l0 x1).length : Int) * 4) _ w13 m6_13 hF6 (by omega) (by omega)).mono ?_
    rintro e wx ⟨rfl, rfl⟩
    go_wp2_with fail
    refine (toSessionS_any a0 cap0 l0 w13 (ha0.keep B13)).mono ?_
    rintro e w14 ⟨A8, c8, rfl, o8_14, b14⟩
    have B14 := B13.trans (b14.mono B13.size)
    have z14 := b14.size
    have o2_14 := o2_13.keep b14
    clear o2_13
    have o3_14 := o3_13.keep b14
    clear o3_13
    have m5_14 := ownsRow_keep m5_13 b14
    clear m5_13
    have m6_14 := ownsRow_keep m6_13 b14
    clear m6_13
    clear b14
    have lo8 : ∀ g, Value.ownBlock (.slice A8 (l0).length c8) = some g → w13.heap.size ≤ g := fun g hg => (o8_14.lt g hg).1
    have hi8 : ∀ g, Value.ownBlock (.slice A8 (l0).length c8) = some g → g < w14.heap.size := fun g hg => (o8_14.lt g hg).2
    go_wp2_with fail
    refine (implCls_any A8 c8 l0 x1 w14 (o8_14.row SessionR.enc_len) o8_14.lenCap).mono ?_
    rintro e w15 ⟨A9, c9, A10, c10, rfl, o9_15, o10_15, d9_10, b15⟩
    have B15 := B14.trans (b15.mono B14.size)
    have z15 := b15.size
    have o2_15 := o2_14.keep b15
    clear o2_14
    have o3_15 := o3_14.keep b15
    clear o3_14
    have o8_15 := o8_14.keep b15
    clear o8_14
    have m5_15 := ownsRow_keep m5_14 b15
    clear m5_14
    have m6_15 := ownsRow_keep m6_14 b15
    clear m6_14
    clear b15
    have lo9 : ∀ g, Value.ownBlock (.slice A9 (clsA l0 x1).length c9) = some g → w14.heap.size ≤ g := fun g hg => (o9_15.lt g hg).1
    have hi9 : ∀ g, Value.ownBlock (.slice A9 (clsA l0 x1).length c9) = some g → g < w15.heap.size := fun g hg => (o9_15.lt g hg).2
    have lo10 : ∀ g, Value.ownBlock (.slice A10 (clsB l0 x1).length c10) = some g → w14.heap.size ≤ g := fun g hg => (o10_15.lt g hg).1
    have hi10 : ∀ g, Value.ownBlock (.slice A10 (clsB l0 x1).length c10) = some g → g < w15.heap.size := fun g hg => (o10_15.lt g hg).2
    clear o8_15
    go_wp2_with fail
    refine (eqSessionS_same A9 A2 c9 c2 _ w15 (o9_15.row SessionR.enc_len) (o2_15.row SessionR.enc_len)).mono ?_
    rintro e w16 ⟨rfl, b16⟩
    have B16 := B15.trans (b16.mono B15.size)
    have z16 := b16.size
    have o2_16 := o2_15.keep b16
    clear o2_15
    have o3_16 := o3_15.keep b16
    clear o3_15
    have o9_16 := o9_15.keep b16
    clear o9_15
    have o10_16 := o10_15.keep b16
    clear o10_15
    have m5_16 := ownsRow_keep m5_15 b16
    clear m5_15
    have m6_16 := ownsRow_keep m6_15 b16
    clear m6_15
    clear b16
    go_wp2_with fail
    refine (eqSessionS_same A10 A3 c10 c3 _ w16 (o10_16.row SessionR.enc_len) (o3_16.row SessionR.enc_len)).mono ?_
    rintro e w17 ⟨rfl, b17⟩
    have B17 := B16.trans (b17.mono B16.size)
    have z17 := b17.size
    have o2_17 := o2_16.keep b17
    clear o2_16
    have o3_17 := o3_16.keep b17
    clear o3_16
    have o9_17 := o9_16.keep b17
    clear o9_16
    have o10_17 := o10_16.keep b17
    clear o10_16
    have m5_17 := ownsRow_keep m5_16 b17
    clear m5_16
    have m6_17 := ownsRow_keep m6_16 b17
    clear m6_16
    clear b17
    go_wp2_with fail
    refine (heldSessionS_any A5 c5 _ (1) _ w17 m5_17 hF5 (by omega) (by omega)).mono ?_
    rintro e wx ⟨rfl, rfl⟩
    go_wp2_with fail
    refine (heldSessionS_any A6 c6 _ (1 + ((clsA l0 x1).length : Int) * 4) _ w17 m6_17 hF6 (by omega) (by omega)).mono ?_
    rintro e wx ⟨rfl, rfl⟩
    go_wp2
    all_goals go_returns
    all_goals exact ⟨rfl, B17⟩
  · go_enter Try.func14, Try.ntmps14
    go_wp2_with fail
    refine (szSessionS_big a0 l0.length cap0 (1048576) _ (by omega) (by omega) hlb0).mono ?_
    rintro e w1 ⟨rfl, rfl⟩
    go_wp2
    all_goals go_returns
    all_goals exact ⟨rfl, by go_grown⟩
set_option maxRecDepth 100000 in
theorem lifted (os : Os) (started : os.Started) (H : Type) (enc : TypeId × Value → H) :
    ReturnsInHanded {} Try.checked os 14 .any (Rows.fnExactClosedSessionsSpec.pre6 enc Try.prog Try.f14 Rows.fnExactClosedSessionsRow.domain false) (Rows.fnExactClosedSessionsSpec.post enc Try.prog Try.f14 false true false false) := by
  refine returnsInHanded_of_change (C := Try.checked) own started (by kernel_rfl) Try.func14
    (ChangeSpec.witness6 (enc := enc) (C := Try.checked) false ⟨#[], #[.slice none 0 0, .int .i64 0], []⟩ 8 (by kernel_rfl) (by kernel_rfl) (by kernel_rfl) (by kernel_rfl)) ?_
  intro W base args ds gs before hval0 hW hcnd _
  have hval : ∀ (j : Nat) t v, Try.f14.params[j]? = some t → args[j]? = some v → Value.okWide Try.prog W .any base t v := hval0
  have hW' := hW
  obtain ⟨p, q, hA0, hV, rfl, hfz, hnd⟩ := hW
  have hA : DataW.TrodAll enc Try.prog W 0 (fun _ => true) true Try.f14.params.toList args.toList ds p := hA0
  rw [Try.params14] at hA hval
  obtain ⟨v0, vs0, d0, ds0, p0, q0, hargs, rfl, rfl, h0, r0⟩ := trodAll_cons hA
  obtain ⟨v1, vs1, d1, ds1, p1, q1, rfl, rfl, rfl, h1, r1⟩ := trodAll_cons r0
  obtain ⟨rfl, rfl, rfl⟩ := trodAll_nil r1
  obtain rfl : args = #[v0, v1] := by cases args; simp_all
  obtain ⟨rfl, rfl⟩ := trodVars_none hV
  have k0 := h0
  have lt0 : ∀ x ∈ p0, x.block < W.heap.size := by obtain ⟨m, hm⟩ := k0; exact DataW.trod_lt m _ _ _ hm
  obtain ⟨a0, cap0, l0, rfl, m0, w0⟩ := open_SessionS (hval 0 87 v0 rfl rfl) h0
  have k1 := h1
  have lt1 : ∀ x ∈ p1, x.block < W.heap.size := by obtain ⟨m, hm⟩ := k1; exact DataW.trod_lt m _ _ _ hm
  obtain ⟨x1, rfl, rfl, rfl, wx1⟩ := open_int Try.underlying3 (hval 1 3 v1 rfl rfl) h1
  have b1 := bounds_i64 wx1
  clear hA0 hval0
  refine (walk a0 cap0 l0 x1 W m0 w0 b1.1 b1.2).mono fun e W' ⟨he, bel⟩ => ?_
  subst he
  exact ⟨_, rfl, _, _, _, [], _, [], hW', trodAll_mk1 (shut_bool Try.underlying4 _), (trodAll_cons_mk (Below.trod laidOut (by kernel_rfl) (of_decide_eq_true (by kernel_rfl)) k0 bel lt0) (trodAll_cons_mk (Below.trod laidOut (by kernel_rfl) (of_decide_eq_true (by kernel_rfl)) k1 bel lt1) trodAll_mk0)), rfl, bel.frame _, fun h => by cases h⟩

theorem over : Rows.fnExactClosedSessionsRow.holds Try.pinned (OpenSpec.ofChange Rows.fnExactClosedSessionsSpec) :=
  OpenClaim.holds_of_wide 14 Try.f14 rfl rfl rfl rfl rfl rfl rfl ⟨rfl, rfl, rfl, rfl, rfl⟩ rfl rfl rfl rfl rfl (by kernel_rfl) Try.func14 (by kernel_rfl)
    (of_decide_eq_true (by kernel_rfl)) (by unfold Func.isWrapper; first | (rw [if_pos (by decide +kernel)]; kernel_rfl) | (rw [if_neg (by decide +kernel)]; exact ⟨rfl, rfl⟩))
    (fun os started H enc _ => lifted os started H enc)

theorem proved : Rows.FnExactClosedSessionsSaid := over
#print axioms proved
end Go.Proofs.Ytgebijaojkmjiaa.fnExactClosedSessions
