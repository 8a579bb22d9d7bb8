/- The law FnExactSortEvents answers true at every input and leaves its arguments as they were; no condition. -/
import Derived.Test.YtjjjlpnbniofjaaRows
import Derived.WalkKit
import Derived.WalkSpells
import Derived.WalkLawsBesides
import Derived.ProofKit
import Derived.OpenShut
import Derived.ShutString
import Derived.ChangeOld
import Derived.Below
import Derived.Lib.SmallJoins
import Derived.Handy
import Derived.Test.YtjjjlpnbniofjaaMay
import Derived.Test.YtjjjlpnbniofjaaSoZ
import Derived.Test.YtjjjlpnbniofjaaTyOpenEvent
import Derived.Test.YtjjjlpnbniofjaaMay
namespace Go.Proofs.Ytjjjlpnbniofjaa.fnExactSortEvents
open Go.ChangeShapes Go.WideShapes Go.ChangeAt Go.RowKit Go.Joins
open Go.ChangeMaps (open_string shut_string)
set_option linter.unusedVariables false

theorem own : ownKnob Try.prog.godebug = none := by kernel_rfl
theorem laidOut : laidOutB Try.prog = true := by kernel_rfl
set_option maxRecDepth 100000 in
set_option maxHeartbeats 1000000 in
theorem walk (a0 : Option Addr) (cap0 : Nat) (l0 : List EventR) (w : World) (m0 : l0.length ≤ maxLen) (w0 : RowA EventR.enc 3 w a0 l0) :
    Calls Try.prog 13 #[.slice a0 l0.length cap0] w fun e w' => e = .returned (.bool true) ∧ Below w.heap.size w w' := by
  have hlb0 := m0
  by_cases hlen0 : l0.length ≤ 1048576
  · have ha0 : Row EventR.enc 3 w a0 l0 := ⟨by omega, w0⟩
    have B0 : Below w.heap.size w w := Below.refl _ _
    clear hlb0 m0 w0
    go_enter Try.func13, Try.ntmps13
    go_wp2_with fail
    refine (szEventS_ok a0 l0.length cap0 (1048576) _ (by omega) (by omega)).mono ?_
    rintro e w0 ⟨rfl, rfl⟩
    go_wp2_with fail
    refine (toEventS_any a0 cap0 l0 w (ha0.keep B0)).mono ?_
    rintro e w1 ⟨A1, c1, rfl, o1_1, b1⟩
    have B1 := B0.trans (b1.mono B0.size)
    have z1 := b1.size
    clear b1
    have lo1 : ∀ g, Value.ownBlock (.slice A1 (l0).length c1) = some g → w.heap.size ≤ g := fun g hg => (o1_1.lt g hg).1
    have hi1 : ∀ g, Value.ownBlock (.slice A1 (l0).length c1) = some g → g < w1.heap.size := fun g hg => (o1_1.lt g hg).2
    go_wp2_with fail
    refine (specSort_any A1 c1 l0 w1 (o1_1.row EventR.enc_len)).mono ?_
    rintro e w2 ⟨A2, c2, rfl, o2_2, b2⟩
    have B2 := B1.trans (b2.mono B1.size)
    have z2 := b2.size
    have o1_2 := o1_1.keep b2
    clear o1_1
    clear b2
    have lo2 : ∀ g, Value.ownBlock (.slice A2 (soF l0).length c2) = some g → w1.heap.size ≤ g := fun g hg => (o2_2.lt g hg).1
    have hi2 : ∀ g, Value.ownBlock (.slice A2 (soF l0).length c2) = some g → g < w2.heap.size := fun g hg => (o2_2.lt g hg).2
    clear o1_2
    go_wp2_with fail
    refine (toEventS_any a0 cap0 l0 w2 (ha0.keep B2)).mono ?_
    rintro e w3 ⟨A3, c3, rfl, o3_3, b3⟩
    have B3 := B2.trans (b3.mono B2.size)
    have z3 := b3.size
    have o2_3 := o2_2.keep b3
    clear o2_2
    clear b3
    have lo3 : ∀ g, Value.ownBlock (.slice A3 (l0).length c3) = some g → w2.heap.size ≤ g := fun g hg => (o3_3.lt g hg).1
    have hi3 : ∀ g, Value.ownBlock (.slice A3 (l0).length c3) = some g → g < w3.heap.size := fun g hg => (o3_3.lt g hg).2
    go_wp2_with fail
    refine (implSort_any A3 c3 l0 w3 (o3_3.row EventR.enc_len)).mono ?_
    rintro e w4 ⟨A4, c4, rfl, o4_4, b4⟩
    have B4 := B3.trans (b4.mono B3.size)
    have z4 := b4.size
    have o2_4 := o2_3.keep b4
    clear o2_3
    have o3_4 := o3_3.keep b4
    clear o3_3
    clear b4
    have lo4 : ∀ g, Value.ownBlock (.slice A4 (soF l0).length c4) = some g → w3.heap.size ≤ g := fun g hg => (o4_4.lt g hg).1
    have hi4 : ∀ g, Value.ownBlock (.slice A4 (soF l0).length c4) = some g → g < w4.heap.size := fun g hg => (o4_4.lt g hg).2
    go_wp2_with fail
    refine (eqEventS_same A4 A2 c4 c2 _ w4 (o4_4.row EventR.enc_len) (o2_4.row EventR.enc_len)).mono ?_
    rintro e w5 ⟨rfl, b5⟩
    have B5 := B4.trans (b5.mono B4.size)
    have z5 := b5.size
    have o2_5 := o2_4.keep b5
    clear o2_4
    have o3_5 := o3_4.keep b5
    clear o3_4
    have o4_5 := o4_4.keep b5
    clear o4_4
    clear b5
    go_wp2_with fail
    refine (toEventS_any a0 cap0 l0 w5 (ha0.keep B5)).mono ?_
    rintro e w6 ⟨A5, c5, rfl, o5_6, b6⟩
    have B6 := B5.trans (b6.mono B5.size)
    have z6 := b6.size
    have o2_6 := o2_5.keep b6
    clear o2_5
    have o3_6 := o3_5.keep b6
    clear o3_5
    have o4_6 := o4_5.keep b6
    clear o4_5
    clear b6
    have lo5 : ∀ g, Value.ownBlock (.slice A5 (l0).length c5) = some g → w5.heap.size ≤ g := fun g hg => (o5_6.lt g hg).1
    have hi5 : ∀ g, Value.ownBlock (.slice A5 (l0).length c5) = some g → g < w6.heap.size := fun g hg => (o5_6.lt g hg).2
    go_wp2_with fail
    refine (eqEventS_same A3 A5 c3 c5 _ w6 (o3_6.row EventR.enc_len) (o5_6.row EventR.enc_len)).mono ?_
    rintro e w7 ⟨rfl, b7⟩
    have B7 := B6.trans (b7.mono B6.size)
    have z7 := b7.size
    have o2_7 := o2_6.keep b7
    clear o2_6
    have o3_7 := o3_6.keep b7
    clear o3_6
    have o4_7 := o4_6.keep b7
    clear o4_6
    have o5_7 := o5_6.keep b7
    clear o5_6
    clear b7
    clear o5_7
    go_wp2_with fail
    refine (markEventS_any A3 c3 _ (1) _ _ w7 o3_7.2 o3_7.1 (by omega) (by omega)).mono ?_
    rintro e w8 ⟨rfl, -, g8⟩
    have B8 := B7.trans (below_of_gb (B0 := w.heap.size) g8 B7.size (fun g hg => by have := lo3 g hg; have := B2.size; omega))
    have z8 := g8.size
    have o2_8 := o2_7.far g8 (fun g g' hg hg' => by have h1 := hi2 g hg; have h2 := lo3 g' hg'; omega)
    clear o2_7
    have o4_8 := o4_7.far g8 (fun g g' hg hg' => by have h1 := lo4 g hg; have h2 := hi3 g' hg'; omega)
    clear o4_7
    clear o3_7 g8
    go_wp2_with fail
    refine (eqEventS_same A4 A2 c4 c2 _ w8 (o4_8.row EventR.enc_len) (o2_8.row EventR.enc_len)).mono ?_
    rintro e w9 ⟨rfl, b9⟩
    have B9 := B8.trans (b9.mono B8.size)
    have z9 := b9.size
    have o2_9 := o2_8.keep b9
    clear o2_8
    have o4_9 := o4_8.keep b9
    clear o4_8
    clear b9
    go_wp2_with fail
    refine (markEventS_any A4 c4 _ (1) _ _ w9 o4_9.2 o4_9.1 (by omega) (by omega)).mono ?_
    rintro e w10 ⟨rfl, m4_10, g10⟩
    have hF4 := o4_9.1
    have B10 := B9.trans (below_of_gb (B0 := w.heap.size) g10 B9.size (fun g hg => by have := lo4 g hg; have := B3.size; omega))
    have z10 := g10.size
    have o2_10 := o2_9.far g10 (fun g g' hg hg' => by have h1 := hi2 g hg; have h2 := lo4 g' hg'; omega)
    clear o2_9
    clear o4_9 g10
    go_wp2_with fail
    refine (heldEventS_any A4 c4 _ (1) _ w10 m4_10 hF4 (by omega) (by omega)).mono ?_
    rintro e wx ⟨rfl, rfl⟩
    go_wp2_with fail
    refine (toEventS_any a0 cap0 l0 w10 (ha0.keep B10)).mono ?_
    rintro e w11 ⟨A6, c6, rfl, o6_11, b11⟩
    have B11 := B10.trans (b11.mono B10.size)
    have z11 := b11.size
    have o2_11 := o2_10.keep b11
    clear o2_10
    have m4_11 := ownsRow_keep m4_10 b11
    clear m4_10
    clear b11
    have lo6 : ∀ g, Value.ownBlock (.slice A6 (l0).length c6) = some g → w10.heap.size ≤ g := fun g hg => (o6_11.lt g hg).1
    have hi6 : ∀ g, Value.ownBlock (.slice A6 (l0).length c6) = some g → g < w11.heap.size := fun g hg => (o6_11.lt g hg).2
    go_wp2_with fail
    refine (implSort_any A6 c6 l0 w11 (o6_11.row EventR.enc_len)).mono ?_
    rintro e w12 ⟨A7, c7, rfl, o7_12, b12⟩
    have B12 := B11.trans (b12.mono B11.size)
    have z12 := b12.size
    have o2_12 := o2_11.keep b12
    clear o2_11
    have o6_12 := o6_11.keep b12
    clear o6_11
    have m4_12 := ownsRow_keep m4_11 b12
    clear m4_11
    clear b12
    have lo7 : ∀ g, Value.ownBlock (.slice A7 (soF l0).length c7) = some g → w11.heap.size ≤ g := fun g hg => (o7_12.lt g hg).1
    have hi7 : ∀ g, Value.ownBlock (.slice A7 (soF l0).length c7) = some g → g < w12.heap.size := fun g hg => (o7_12.lt g hg).2
    clear o6_12
    go_wp2_with fail
    refine (eqEventS_same A7 A2 c7 c2 _ w12 (o7_12.row EventR.enc_len) (o2_12.row EventR.enc_len)).mono ?_
    rintro e w13 ⟨rfl, b13⟩
    have B13 := B12.trans (b13.mono B12.size)
    have z13 := b13.size
    have o2_13 := o2_12.keep b13
    clear o2_12
    have o7_13 := o7_12.keep b13
    clear o7_12
    have m4_13 := ownsRow_keep m4_12 b13
    clear m4_12
    clear b13
    go_wp2_with fail
    refine (heldEventS_any A4 c4 _ (1) _ w13 m4_13 hF4 (by omega) (by omega)).mono ?_
    rintro e wx ⟨rfl, rfl⟩
    go_wp2
    all_goals go_returns
    all_goals exact ⟨rfl, B13⟩
  · go_enter Try.func13, Try.ntmps13
    go_wp2_with fail
    refine (szEventS_big a0 l0.length cap0 (1048576) _ (by omega) (by omega) hlb0).mono ?_
    rintro e w1 ⟨rfl, rfl⟩
    go_wp2
    all_goals go_returns
    all_goals exact ⟨rfl, by go_grown⟩
set_option maxRecDepth 100000 in
theorem lifted (os : Os) (started : os.Started) (H : Type) (enc : TypeId × Value → H) :
    ReturnsInHanded {} Try.checked os 13 .any (Rows.fnExactSortEventsSpec.pre6 enc Try.prog Try.f13 Rows.fnExactSortEventsRow.domain false) (Rows.fnExactSortEventsSpec.post enc Try.prog Try.f13 false true false false) := by
  refine returnsInHanded_of_change (C := Try.checked) own started (by kernel_rfl) Try.func13
    (ChangeSpec.witness6 (enc := enc) (C := Try.checked) false ⟨#[], #[.slice none 0 0], []⟩ 8 (by kernel_rfl) (by kernel_rfl) (by kernel_rfl) (by kernel_rfl)) ?_
  intro W base args ds gs before hval0 hW hcnd _
  have hval : ∀ (j : Nat) t v, Try.f13.params[j]? = some t → args[j]? = some v → Value.okWide Try.prog W .any base t v := hval0
  have hW' := hW
  obtain ⟨p, q, hA0, hV, rfl, hfz, hnd⟩ := hW
  have hA : DataW.TrodAll enc Try.prog W 0 (fun _ => true) true Try.f13.params.toList args.toList ds p := hA0
  rw [Try.params13] at hA hval
  obtain ⟨v0, vs0, d0, ds0, p0, q0, hargs, rfl, rfl, h0, r0⟩ := trodAll_cons hA
  obtain ⟨rfl, rfl, rfl⟩ := trodAll_nil r0
  obtain rfl : args = #[v0] := by cases args; simp_all
  obtain ⟨rfl, rfl⟩ := trodVars_none hV
  have k0 := h0
  have lt0 : ∀ x ∈ p0, x.block < W.heap.size := by obtain ⟨m, hm⟩ := k0; exact DataW.trod_lt m _ _ _ hm
  obtain ⟨a0, cap0, l0, rfl, m0, w0⟩ := open_EventS (hval 0 55 v0 rfl rfl) h0
  clear hA0 hval0
  refine (walk a0 cap0 l0 W m0 w0).mono fun e W' ⟨he, bel⟩ => ?_
  subst he
  exact ⟨_, rfl, _, _, _, [], _, [], hW', trodAll_mk1 (shut_bool Try.underlying4 _), (trodAll_cons_mk (Below.trod laidOut (by kernel_rfl) (of_decide_eq_true (by kernel_rfl)) k0 bel lt0) trodAll_mk0), rfl, bel.frame _, fun h => by cases h⟩

theorem closed : joinedFacts Try.checked.prog 13 Try.f13 Rows.fnExactSortEventsSpec Rows.fnExactSortEventsRow = true := by
  unfold joinedFacts
  rw [mayE, liftE, makeE]
  kernel_rfl

theorem over : Rows.fnExactSortEventsRow.holds Try.pinned (OpenSpec.ofChange Rows.fnExactSortEventsSpec) :=
  OpenClaim.holds_of_wide 13 Try.f13 rfl rfl rfl rfl rfl rfl rfl ⟨rfl, rfl, rfl, rfl, rfl⟩ rfl rfl rfl rfl rfl (by kernel_rfl) Try.func13 closed
    (of_decide_eq_true (by kernel_rfl)) (by unfold Func.isWrapper; first | (rw [if_pos (by decide +kernel)]; kernel_rfl) | (rw [if_neg (by decide +kernel)]; exact ⟨rfl, rfl⟩))
    (fun os started H enc _ => lifted os started H enc)

theorem proved : Rows.FnExactSortEventsSaid := over
#print axioms proved
end Go.Proofs.Ytjjjlpnbniofjaa.fnExactSortEvents
