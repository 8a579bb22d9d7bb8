/- The law FnExactAccOf answers true at every input and leaves its arguments as they were; no condition. -/
import Derived.Test.YtehedhkadjidpaaRows
import Derived.WalkKit
import Derived.WalkSpells
import Derived.WalkLawsBesides
import Derived.ProofKit
import Derived.OpenShut
import Derived.ShutString
import Derived.ChangeOld
import Derived.Below
import Derived.Lib.SmallJoins
import Derived.Handy
import Derived.Test.YtehedhkadjidpaaMay
import Derived.Test.YtehedhkadjidpaaEqA
import Derived.Test.YtehedhkadjidpaaTyOpenEvent
namespace Go.Proofs.Ytehedhkadjidpaa.fnExactAccOf
open Go.ChangeShapes Go.WideShapes Go.ChangeAt Go.RowKit Go.Joins
open Go.ChangeMaps (open_string shut_string)
set_option linter.unusedVariables false

theorem own : ownKnob Try.prog.godebug = none := by kernel_rfl
theorem laidOut : laidOutB Try.prog = true := by kernel_rfl
set_option maxRecDepth 100000 in
set_option maxHeartbeats 1000000 in
theorem walk (a0 : Option Addr) (cap0 : Nat) (l0 : List EventR) (w : World) (m0 : l0.length ≤ maxLen) (w0 : RowA EventR.enc 3 w a0 l0) :
    Calls Try.prog 14 #[.slice a0 l0.length cap0] w fun e w' => e = .returned (.bool true) ∧ Below w.heap.size w w' := by
  have hlb0 := m0
  by_cases hlen0 : l0.length ≤ 1048576
  · have ha0 : Row EventR.enc 3 w a0 l0 := ⟨by omega, w0⟩
    have B0 : Below w.heap.size w w := Below.refl _ _
    clear m0 w0
    obtain ⟨a, ha⟩ : ∃ L, L = accF l0 := ⟨_, rfl⟩
    have hI := fun A c W hr => implAccOf_any A c l0 W hr
    have hS := fun A c W hr => specAccOf_any A c l0 W hr
    rw [← ha] at hI hS
    simp only [A4.V] at hI hS
    clear ha
    go_enter Try.func14, Try.ntmps14
    go_wp2_with fail
    refine (szEventS_ok a0 l0.length cap0 (1048576) _ (by omega) (by omega)).mono ?_
    rintro e u0 ⟨rfl, rfl⟩
    have hu : w = w := rfl
    clear hu
    go_wp2_with fail
    refine (toEventS_any a0 cap0 l0 _ ha0).mono ?_
    rintro e u1 ⟨A1, c1, rfl, q1, b⟩
    have B1 := B0.trans (b.mono B0.size)
    have z1 := b.size
    clear b
    have oa_1 := q1
    clear q1
    go_wp2_with fail
    refine (hS A1 c1 _ (oa_1.row EventR.enc_len)).mono ?_
    rintro e u2 ⟨rfl, b⟩
    have B2 := B1.trans (b.mono B1.size)
    have z2 := b.size
    have oa_2 := oa_1.keep b
    clear oa_1 b
    have bv : Below u2.heap.size u2 (u2.alloc (.cells #[.int .i64 a.c, .int .i64 a.s, .int .i64 a.l, .int .i64 a.m] 53)) := (Below.refl _ _).alloc (Nat.le_refl _) _
    have nb := Bo.made u2 #[.int .i64 a.c, .int .i64 a.s, .int .i64 a.l, .int .i64 a.m] 53
    have zgX : u2.heap.size < (u2.alloc (.cells #[.int .i64 a.c, .int .i64 a.s, .int .i64 a.l, .int .i64 a.m] 53)).heap.size := by simp
    have B3 := B2.trans (bv.mono B2.size)
    have z3 := bv.size
    have oa_3 := oa_2.keep bv
    clear oa_2 bv
    have X_3 := nb
    clear nb
    go_wp2_with fail
    generalize (u2.alloc (.cells #[.int .i64 a.c, .int .i64 a.s, .int .i64 a.l, .int .i64 a.m] 53)) = u3 at *
    go_wp2_with fail
    refine (toEventS_any a0 cap0 l0 _ (ha0.keep B3)).mono ?_
    rintro e u4 ⟨A2, c2, rfl, q1, b⟩
    have B4 := B3.trans (b.mono B3.size)
    have z4 := b.size
    have X_4 := X_3.keep b
    have oa_4 := oa_3.keep b
    clear X_3 oa_3 b
    have ob_4 := q1
    clear q1
    go_wp2_with fail
    refine (hI A2 c2 _ (ob_4.row EventR.enc_len)).mono ?_
    rintro e u5 ⟨rfl, b⟩
    have B5 := B4.trans (b.mono B4.size)
    have z5 := b.size
    have X_5 := X_4.keep b
    have oa_5 := oa_4.keep b
    have ob_5 := ob_4.keep b
    clear X_4 oa_4 ob_4 b
    have bv : Below u5.heap.size u5 (u5.alloc (.cells #[.int .i64 a.c, .int .i64 a.s, .int .i64 a.l, .int .i64 a.m] 53)) := (Below.refl _ _).alloc (Nat.le_refl _) _
    have nb := Bo.made u5 #[.int .i64 a.c, .int .i64 a.s, .int .i64 a.l, .int .i64 a.m] 53
    have zgY : u5.heap.size < (u5.alloc (.cells #[.int .i64 a.c, .int .i64 a.s, .int .i64 a.l, .int .i64 a.m] 53)).heap.size := by simp
    have B6 := B5.trans (bv.mono B5.size)
    have z6 := bv.size
    have X_6 := X_5.keep bv
    have oa_6 := oa_5.keep bv
    have ob_6 := ob_5.keep bv
    clear X_5 oa_5 ob_5 bv
    have Y_6 := nb
    clear nb
    have pX0 := X_6.1 0 _ rfl
    have pX1 := X_6.1 1 _ rfl
    have pX2 := X_6.1 2 _ rfl
    have pX3 := X_6.1 3 _ rfl
    have plX := X_6.2
    have pY0 := Y_6.1 0 _ rfl
    have pY1 := Y_6.1 1 _ rfl
    have pY2 := Y_6.1 2 _ rfl
    have pY3 := Y_6.1 3 _ rfl
    have plY := Y_6.2
    go_wp2_with fail
    clear pX0 pX1 pX2 pX3 plX
    clear pY0 pY1 pY2 pY3 plY
    generalize (u5.alloc (.cells #[.int .i64 a.c, .int .i64 a.s, .int .i64 a.l, .int .i64 a.m] 53)) = u6 at *
    refine (eqAcc_same a.c a.s a.l a.m _).mono ?_
    rintro e u7 ⟨rfl, b⟩
    have B7 := B6.trans (b.mono B6.size)
    have z7 := b.size
    have X_7 := X_6.keep b
    have Y_7 := Y_6.keep b
    have oa_7 := oa_6.keep b
    have ob_7 := ob_6.keep b
    clear X_6 Y_6 oa_6 ob_6 b
    go_wp2_with fail
    refine (toEventS_any a0 cap0 l0 _ (ha0.keep B7)).mono ?_
    rintro e u8 ⟨A3, c3, rfl, q1, b⟩
    have B8 := B7.trans (b.mono B7.size)
    have z8 := b.size
    have X_8 := X_7.keep b
    have Y_8 := Y_7.keep b
    have oa_8 := oa_7.keep b
    have ob_8 := ob_7.keep b
    clear X_7 Y_7 oa_7 ob_7 b
    have oc_8 := q1
    clear q1
    go_wp2_with fail
    refine (eqEventS_same A2 A3 c2 c3 l0 _ (ob_8.row EventR.enc_len) (oc_8.row EventR.enc_len)).mono ?_
    rintro e u9 ⟨rfl, b⟩
    have B9 := B8.trans (b.mono B8.size)
    have z9 := b.size
    have X_9 := X_8.keep b
    have Y_9 := Y_8.keep b
    have oa_9 := oa_8.keep b
    have ob_9 := ob_8.keep b
    have oc_9 := oc_8.keep b
    clear X_8 Y_8 oa_8 ob_8 oc_8 b
    go_wp2
    all_goals go_returns
    all_goals exact ⟨ret_bool (by first | rfl | simp), B9⟩
  · go_enter Try.func14, Try.ntmps14
    go_wp2_with fail
    refine (szEventS_big a0 l0.length cap0 (1048576) _ (by omega) (by omega) hlb0).mono ?_
    rintro e u0 ⟨rfl, rfl⟩
    go_wp2
    all_goals go_returns
    all_goals exact ⟨rfl, Below.refl _ _⟩
set_option maxRecDepth 100000 in
theorem lifted (os : Os) (started : os.Started) (H : Type) (enc : TypeId × Value → H) :
    ReturnsInHanded {} Try.checked os 14 .any (Rows.fnExactAccOfSpec.pre6 enc Try.prog Try.f14 Rows.fnExactAccOfRow.domain false) (Rows.fnExactAccOfSpec.post enc Try.prog Try.f14 false true false false) := by
  refine returnsInHanded_of_change (C := Try.checked) own started (by kernel_rfl) Try.func14
    (ChangeSpec.witness6 (enc := enc) (C := Try.checked) false ⟨#[], #[.slice none 0 0], []⟩ 8 (by kernel_rfl) (by kernel_rfl) (by kernel_rfl) (by kernel_rfl)) ?_
  intro W base args ds gs before hval0 hW hcnd _
  have hval : ∀ (j : Nat) t v, Try.f14.params[j]? = some t → args[j]? = some v → Value.okWide Try.prog W .any base t v := hval0
  have hW' := hW
  obtain ⟨p, q, hA0, hV, rfl, hfz, hnd⟩ := hW
  have hA : DataW.TrodAll enc Try.prog W 0 (fun _ => true) true Try.f14.params.toList args.toList ds p := hA0
  rw [Try.params14] at hA hval
  obtain ⟨v0, vs0, d0, ds0, p0, q0, hargs, rfl, rfl, h0, r0⟩ := trodAll_cons hA
  obtain ⟨rfl, rfl, rfl⟩ := trodAll_nil r0
  obtain rfl : args = #[v0] := by cases args; simp_all
  obtain ⟨rfl, rfl⟩ := trodVars_none hV
  have k0 := h0
  have lt0 : ∀ x ∈ p0, x.block < W.heap.size := by obtain ⟨m, hm⟩ := k0; exact DataW.trod_lt m _ _ _ hm
  obtain ⟨a0, cap0, l0, rfl, m0, w0⟩ := open_EventS (hval 0 22 v0 rfl rfl) h0
  clear hA0 hval0
  refine (walk a0 cap0 l0 W m0 w0).mono fun e W' ⟨he, bel⟩ => ?_
  subst he
  exact ⟨_, rfl, _, _, _, [], _, [], hW', trodAll_mk1 (shut_bool Try.underlying4 _), (trodAll_cons_mk (Below.trod laidOut (by kernel_rfl) (of_decide_eq_true (by kernel_rfl)) k0 bel lt0) trodAll_mk0), rfl, bel.frame _, fun h => by cases h⟩

theorem closed : joinedFacts Try.checked.prog 14 Try.f14 Rows.fnExactAccOfSpec Rows.fnExactAccOfRow = true := by
  unfold joinedFacts
  rw [mayE, liftE, makeE]
  kernel_rfl

theorem over : Rows.fnExactAccOfRow.holds Try.pinned (OpenSpec.ofChange Rows.fnExactAccOfSpec) :=
  OpenClaim.holds_of_wide 14 Try.f14 rfl rfl rfl rfl rfl rfl rfl ⟨rfl, rfl, rfl, rfl, rfl⟩ rfl rfl rfl rfl rfl (by kernel_rfl) Try.func14 closed
    (of_decide_eq_true (by kernel_rfl)) (by unfold Func.isWrapper; first | (rw [if_pos (by decide +kernel)]; kernel_rfl) | (rw [if_neg (by decide +kernel)]; exact ⟨rfl, rfl⟩))
    (fun os started H enc _ => lifted os started H enc)

theorem proved : Rows.FnExactAccOfSaid := over
#print axioms proved
end Go.Proofs.Ytehedhkadjidpaa.fnExactAccOf
