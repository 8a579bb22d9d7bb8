/- The law FnExactUpdateInput answers true at every input and leaves its arguments as they were; no condition. -/
import Derived.Test.YtejgdamcpfdhkaaRows
import Derived.WalkKit
import Derived.WalkSpells
import Derived.WalkLawsBesides
import Derived.ProofKit
import Derived.OpenShut
import Derived.ShutString
import Derived.ChangeOld
import Derived.Below
import Derived.Lib.SmallJoins
import Derived.Handy
import Derived.Test.YtejgdamcpfdhkaaUpdS
import Derived.Test.YtejgdamcpfdhkaaTyOpenInput
namespace Go.Proofs.Ytejgdamcpfdhkaa.fnExactUpdateInput
open Go.ChangeShapes Go.WideShapes Go.ChangeAt Go.RowKit Go.Joins
open Go.ChangeMaps (open_string shut_string)
set_option linter.unusedVariables false

theorem own : ownKnob Try.prog.godebug = none := by kernel_rfl
theorem laidOut : laidOutB Try.prog = true := by kernel_rfl
set_option maxHeartbeats 2000000 in
theorem walk (a0 : Option Addr) (cap0 : Nat) (l0 : List InputR) (x1 : Int) (x2 : Int) (x3 : Int) (w : World) (m0 : l0.length ≤ maxLen) (w0 : RowA InputR.enc 2 w a0 l0) (l1 : -9223372036854775808 ≤ x1) (u1 : x1 ≤ 9223372036854775807) (l2 : -9223372036854775808 ≤ x2) (u2 : x2 ≤ 9223372036854775807) (l3 : -9223372036854775808 ≤ x3) (u3 : x3 ≤ 9223372036854775807) :
    Calls Try.prog 7 #[.slice a0 l0.length cap0, .int .i64 x1, .int .i64 x2, .int .i64 x3] w fun e w' => e = .returned (.bool true) ∧ Below w.heap.size w w' := by
  have hlb := m0
  by_cases hlen : l0.length ≤ 1048576
  · have ha : Row InputR.enc 2 w a0 l0 := ⟨hlen, w0⟩
    have B0 : Below w.heap.size w w := Below.refl _ _
    clear hlb m0 w0
    go_enter Try.func7, Try.ntmps7
    go_wp2_with fail
    refine (szInputS_ok a0 l0.length cap0 w hlen).mono ?_
    rintro e w1 ⟨rfl, rfl⟩
    go_wp2_with fail
    refine (toInputS_any a0 cap0 l0 w (ha.keep B0)).mono ?_
    rintro e w1 ⟨A1, c1, rfl, o1_1, b1⟩
    have B1 := B0.trans (b1.mono B0.size)
    go_wp2_with fail
    refine (specUpd_any A1 c1 l0 x1 x2 x3 w1 (o1_1.row InputR.enc_len)).mono ?_
    rintro e w2 ⟨A2, c2, rfl, o2_2, b2⟩
    clear o1_1
    have lo2 : ∀ g, Value.ownBlock (.slice A2 (updL l0 x1 x2 x3).length c2) = some g → g < w2.heap.size := fun g hg => (o2_2.lt g hg).2
    have B2 := B1.trans (b2.mono B1.size)
    go_wp2_with fail
    refine (toInputS_any a0 cap0 l0 w2 (ha.keep B2)).mono ?_
    rintro e w3 ⟨A3, c3, rfl, o3_3, b3⟩
    have lo3 : ∀ g, Value.ownBlock (.slice A3 l0.length c3) = some g → g < w3.heap.size := fun g hg => (o3_3.lt g hg).2
    have B3 := B2.trans (b3.mono B2.size)
    have o2_3 := o2_2.keep b3
    clear o2_2
    go_wp2_with fail
    refine (implUpd_any A3 c3 l0 x1 x2 x3 w3 (o3_3.row InputR.enc_len)).mono ?_
    rintro e w4 ⟨A4, c4, rfl, o4_4, b4⟩
    have B4 := B3.trans (b4.mono B3.size)
    have o2_4 := o2_3.keep b4
    clear o2_3
    have o3_4 := o3_3.keep b4
    clear o3_3
    have z23 := b3.size
    have z34 := b4.size
    have hi4 : ∀ g, Value.ownBlock (.slice A4 (updL l0 x1 x2 x3).length c4) = some g → w3.heap.size ≤ g := fun g hg => (o4_4.lt g hg).1
    go_wp2_with fail
    refine (eqInputS_same A4 A2 c4 c2 _ w4 (o4_4.row InputR.enc_len) (o2_4.row InputR.enc_len)).mono ?_
    rintro e w5 ⟨rfl, b5⟩
    have B5 := B4.trans (b5.mono B4.size)
    have o2_5 := o2_4.keep b5
    clear o2_4
    have o3_5 := o3_4.keep b5
    clear o3_4
    have o4_5 := o4_4.keep b5
    clear o4_4
    go_wp2_with fail
    refine (toInputS_any a0 cap0 l0 w5 (ha.keep B5)).mono ?_
    rintro e w6 ⟨A6, c6, rfl, o6_6, b6⟩
    have B6 := B5.trans (b6.mono B5.size)
    have o2_6 := o2_5.keep b6
    clear o2_5
    have o3_6 := o3_5.keep b6
    clear o3_5
    have o4_6 := o4_5.keep b6
    clear o4_5
    go_wp2_with fail
    refine (eqInputS_same A3 A6 c3 c6 l0 w6 (o3_6.row InputR.enc_len) (o6_6.row InputR.enc_len)).mono ?_
    rintro e w7 ⟨rfl, b7⟩
    clear o6_6
    have B7 := B6.trans (b7.mono B6.size)
    have o2_7 := o2_6.keep b7
    clear o2_6
    have o3_7 := o3_6.keep b7
    clear o3_6
    have o4_7 := o4_6.keep b7
    clear o4_6
    go_wp2_with fail
    refine (markInputS_any A3 c3 l0.length 1 _ _ w7 o3_7.2 hlen (by omega) (by omega)).mono ?_
    rintro e w8 ⟨rfl, -, g8⟩
    have B8 := B7.trans (below_of_gb (B0 := w.heap.size) g8 B7.size (fun g hg => by have := (o3_7.lt g hg).1; have := B2.size; omega))
    have o2_8 := o2_7.far g8 (fun g g' hg hg' => by have h1 := lo2 g hg; have h2 := (o3_7.lt g' hg').1; omega)
    have o4_8 := o4_7.far g8 (fun g g' hg hg' => by have h1 := hi4 g hg; have h2 := lo3 g' hg'; omega)
    clear o2_7 o4_7 o3_7 g8
    go_wp2_with fail
    refine (eqInputS_same A4 A2 c4 c2 _ w8 (o4_8.row InputR.enc_len) (o2_8.row InputR.enc_len)).mono ?_
    rintro e w9 ⟨rfl, b9⟩
    have B9 := B8.trans (b9.mono B8.size)
    have o2_9 := o2_8.keep b9
    clear o2_8
    have o4_9 := o4_8.keep b9
    clear o4_8
    go_wp2_with fail
    refine (markInputS_any A4 c4 _ 1 _ _ w9 o4_9.2 o4_9.1 (by omega) (by omega)).mono ?_
    rintro e w10 ⟨rfl, m4_10, g10⟩
    have hF := o4_9.1
    have B10 := B9.trans (below_of_gb (B0 := w.heap.size) g10 B9.size (fun g hg => by have := (o4_9.lt g hg).1; have := B3.size; omega))
    have o2_10 := o2_9.far g10 (fun g g' hg hg' => by have h1 := lo2 g hg; have h2 := hi4 g' hg'; omega)
    clear o2_9 o4_9 g10
    go_wp2_with fail
    refine (heldInputS_any A4 c4 _ 1 _ w10 m4_10 hF (by omega) (by omega)).mono ?_
    rintro e w11 ⟨rfl, rfl⟩
    go_wp2_with fail
    refine (toInputS_any a0 cap0 l0 w10 (ha.keep B10)).mono ?_
    rintro e w11 ⟨A7, c7, rfl, o7_11, b11⟩
    have B11 := B10.trans (b11.mono B10.size)
    have o2_11 := o2_10.keep b11
    clear o2_10
    have m4_11 := ownsRow_keep m4_10 b11
    clear m4_10
    go_wp2_with fail
    refine (implUpd_any A7 c7 l0 x1 x2 x3 w11 (o7_11.row InputR.enc_len)).mono ?_
    rintro e w12 ⟨A8, c8, rfl, o8_12, b12⟩
    clear o7_11
    have B12 := B11.trans (b12.mono B11.size)
    have o2_12 := o2_11.keep b12
    clear o2_11
    have m4_12 := ownsRow_keep m4_11 b12
    clear m4_11
    go_wp2_with fail
    refine (eqInputS_same A8 A2 c8 c2 _ w12 (o8_12.row InputR.enc_len) (o2_12.row InputR.enc_len)).mono ?_
    rintro e w13 ⟨rfl, b13⟩
    have B13 := B12.trans (b13.mono B12.size)
    have o2_13 := o2_12.keep b13
    clear o2_12
    have o8_13 := o8_12.keep b13
    clear o8_12
    have m4_13 := ownsRow_keep m4_12 b13
    clear m4_12
    go_wp2_with fail
    refine (heldInputS_any A4 c4 _ 1 _ w13 m4_13 hF (by omega) (by omega)).mono ?_
    rintro e w14 ⟨rfl, rfl⟩
    go_wp2
    all_goals go_returns
    all_goals exact ⟨rfl, B13⟩
  · go_enter Try.func7, Try.ntmps7
    go_wp2_with fail
    refine (szInputS_big a0 l0.length cap0 w (by omega) hlb).mono ?_
    rintro e w1 ⟨rfl, rfl⟩
    go_wp2
    all_goals go_returns
    all_goals exact ⟨rfl, Below.refl _ _⟩
set_option maxRecDepth 100000 in
theorem lifted (os : Os) (started : os.Started) (H : Type) (enc : TypeId × Value → H) :
    ReturnsInHanded {} Try.checked os 7 .any (Rows.fnExactUpdateInputSpec.pre6 enc Try.prog Try.f7 Rows.fnExactUpdateInputRow.domain false) (Rows.fnExactUpdateInputSpec.post enc Try.prog Try.f7 false true false false) := by
  refine returnsInHanded_of_change (C := Try.checked) own started (by kernel_rfl) Try.func7
    (ChangeSpec.witness6 (enc := enc) (C := Try.checked) false ⟨#[], #[.slice none 0 0, .int .i64 0, .int .i64 0, .int .i64 0], []⟩ 8 (by kernel_rfl) (by kernel_rfl) (by kernel_rfl) (by kernel_rfl)) ?_
  intro W base args ds gs before hval0 hW hcnd _
  have hval : ∀ (j : Nat) t v, Try.f7.params[j]? = some t → args[j]? = some v → Value.okWide Try.prog W .any base t v := hval0
  have hW' := hW
  obtain ⟨p, q, hA0, hV, rfl, hfz, hnd⟩ := hW
  have hA : DataW.TrodAll enc Try.prog W 0 (fun _ => true) true Try.f7.params.toList args.toList ds p := hA0
  rw [Try.params7] at hA hval
  obtain ⟨v0, vs0, d0, ds0, p0, q0, hargs, rfl, rfl, h0, r0⟩ := trodAll_cons hA
  obtain ⟨v1, vs1, d1, ds1, p1, q1, rfl, rfl, rfl, h1, r1⟩ := trodAll_cons r0
  obtain ⟨v2, vs2, d2, ds2, p2, q2, rfl, rfl, rfl, h2, r2⟩ := trodAll_cons r1
  obtain ⟨v3, vs3, d3, ds3, p3, q3, rfl, rfl, rfl, h3, r3⟩ := trodAll_cons r2
  obtain ⟨rfl, rfl, rfl⟩ := trodAll_nil r3
  obtain rfl : args = #[v0, v1, v2, v3] := by cases args; simp_all
  obtain ⟨rfl, rfl⟩ := trodVars_none hV
  have k0 := h0
  have lt0 : ∀ x ∈ p0, x.block < W.heap.size := by obtain ⟨m, hm⟩ := k0; exact DataW.trod_lt m _ _ _ hm
  obtain ⟨a0, cap0, l0, rfl, m0, w0⟩ := open_InputS (hval 0 35 v0 rfl rfl) h0
  have k1 := h1
  have lt1 : ∀ x ∈ p1, x.block < W.heap.size := by obtain ⟨m, hm⟩ := k1; exact DataW.trod_lt m _ _ _ hm
  obtain ⟨x1, rfl, rfl, rfl, wx1⟩ := open_int Try.underlying3 (hval 1 3 v1 rfl rfl) h1
  have b1 := bounds_i64 wx1
  have k2 := h2
  have lt2 : ∀ x ∈ p2, x.block < W.heap.size := by obtain ⟨m, hm⟩ := k2; exact DataW.trod_lt m _ _ _ hm
  obtain ⟨x2, rfl, rfl, rfl, wx2⟩ := open_int Try.underlying3 (hval 2 3 v2 rfl rfl) h2
  have b2 := bounds_i64 wx2
  have k3 := h3
  have lt3 : ∀ x ∈ p3, x.block < W.heap.size := by obtain ⟨m, hm⟩ := k3; exact DataW.trod_lt m _ _ _ hm
  obtain ⟨x3, rfl, rfl, rfl, wx3⟩ := open_int Try.underlying3 (hval 3 3 v3 rfl rfl) h3
  have b3 := bounds_i64 wx3
  clear hA0 hval0
  refine (walk a0 cap0 l0 x1 x2 x3 W m0 w0 b1.1 b1.2 b2.1 b2.2 b3.1 b3.2).mono fun e W' ⟨he, bel⟩ => ?_
  subst he
  exact ⟨_, rfl, _, _, _, [], _, [], hW', trodAll_mk1 (shut_bool Try.underlying4 _), (trodAll_cons_mk (Below.trod laidOut (by kernel_rfl) (of_decide_eq_true (by kernel_rfl)) k0 bel lt0) (trodAll_cons_mk (Below.trod laidOut (by kernel_rfl) (of_decide_eq_true (by kernel_rfl)) k1 bel lt1) (trodAll_cons_mk (Below.trod laidOut (by kernel_rfl) (of_decide_eq_true (by kernel_rfl)) k2 bel lt2) (trodAll_cons_mk (Below.trod laidOut (by kernel_rfl) (of_decide_eq_true (by kernel_rfl)) k3 bel lt3) trodAll_mk0)))), rfl, bel.frame _, fun h => by cases h⟩

theorem over : Rows.fnExactUpdateInputRow.holds Try.pinned (OpenSpec.ofChange Rows.fnExactUpdateInputSpec) :=
  OpenClaim.holds_of_wide 7 Try.f7 rfl rfl rfl rfl rfl rfl rfl ⟨rfl, rfl, rfl, rfl, rfl⟩ rfl rfl rfl rfl rfl (by kernel_rfl) Try.func7 (by kernel_rfl)
    (of_decide_eq_true (by kernel_rfl)) (by unfold Func.isWrapper; first | (rw [if_pos (by decide +kernel)]; kernel_rfl) | (rw [if_neg (by decide +kernel)]; exact ⟨rfl, rfl⟩))
    (fun os started H enc _ => lifted os started H enc)

theorem proved : Rows.FnExactUpdateInputSaid := over
#print axioms proved
end Go.Proofs.Ytejgdamcpfdhkaa.fnExactUpdateInput
