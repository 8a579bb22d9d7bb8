/- The law FnUpdateInputMark answers true at every input and leaves its arguments as they were; no condition. -/
import Derived.Test.YtehedhkadjidpabRows
import Derived.WalkKit
import Derived.WalkSpells
import Derived.WalkLawsBesides
import Derived.ProofKit
import Derived.OpenShut
import Derived.ShutString
import Derived.ChangeOld
import Derived.Below
import Derived.Lib.SmallJoins
import Derived.Handy
import Derived.Test.YtehedhkadjidpabMay
import Derived.Test.YtehedhkadjidpabMmN
namespace Go.Proofs.Ytehedhkadjidpab.fnUpdateInputMark
open Go.ChangeShapes Go.WideShapes Go.ChangeAt Go.RowKit Go.Joins
open Go.ChangeMaps (open_string shut_string)
set_option linter.unusedVariables false

theorem own : ownKnob Try.prog.godebug = none := by kernel_rfl
theorem laidOut : laidOutB Try.prog = true := by kernel_rfl
set_option maxRecDepth 100000 in
set_option maxHeartbeats 1000000 in
theorem walk (a0 : Option Addr) (len0 cap0 : Nat) (z0 : List Int) (w : World) (w0 : IsRow .u8 w a0 len0 cap0 z0) :
    Calls Try.prog 6 #[.slice a0 len0 cap0] w fun e w' => e = .returned (.bool true) ∧ Below w.heap.size w w' := by
  by_cases hlen : len0 ≤ 1048576
  · go_enter Try.func6, Try.ntmps6
    go_wp2_with fail
    refine (drawUpdateInput_any w a0 len0 cap0 z0 w0 hlen).mono ?_
    rintro e u0 ⟨A, c, l, i, mark, now, rfl, ol_0, l5, i0_, i1_, n0, n1, m0, m1, B0⟩
    obtain ⟨M, hM⟩ : ∃ L, L = updL l i mark now := ⟨_, rfl⟩
    have hI := fun W hr => implUpd_any A c l i mark now W hr
    have hS := fun W hr => specUpd_any A c l i mark now W hr
    rw [← hM] at hI hS
    have HM := Lib.hid hM
    clear hM
    have hl41 : l.length ≤ 1048576 := by omega
    rcases Bool.eq_false_or_eq_true (updK l i mark now) with hk | hk
    · have HK := Lib.hid hk
      rw [hk] at hI hS
      clear hk
      go_wp2_with fail
      refine (hI _ (ol_0.row InputR.enc_len)).mono ?_
      rintro e u1 ⟨A1, c1, rfl, q1, b⟩
      have B1 := B0.trans (b.mono B0.size)
      have z1 := b.size
      have ol_1 := ol_0.keep b
      clear ol_0 b
      have oa_1 := q1
      clear q1
      go_wp2_with fail
      refine (hS _ (ol_1.row InputR.enc_len)).mono ?_
      rintro e u2 ⟨A2, c2, rfl, q1, b⟩
      have B2 := B1.trans (b.mono B1.size)
      have z2 := b.size
      have ol_2 := ol_1.keep b
      have oa_2 := oa_1.keep b
      clear ol_1 oa_1 b
      have ob_2 := q1
      clear q1
      go_wp2_with fail
      refine (equalInputs_same A1 A2 c1 c2 M _ (oa_2.row InputR.enc_len) (ob_2.row InputR.enc_len)).mono ?_
      rintro e u3 ⟨rfl, b⟩
      have B3 := B2.trans (b.mono B2.size)
      have z3 := b.size
      have ol_3 := ol_2.keep b
      have oa_3 := oa_2.keep b
      have ob_3 := ob_2.keep b
      clear ol_2 oa_2 ob_2 b
      have g1 := upd_marks HK.out
      rw [← HM.out] at g1
      have hJ := fun W hr => implMM_any A1 c1 M now 9999 W hr oa_3.lenCap
      have hK := fun W hr => implMM_any A c l now 9999 W hr ol_3.lenCap
      obtain ⟨X, hX⟩ : ∃ X, X = mmF M now 9999 := ⟨_, rfl⟩
      obtain ⟨Y, hY⟩ : ∃ Y, Y = mmF l now 9999 := ⟨_, rfl⟩
      have hXY : Y ≤ X := by rw [hX, hY]; exact g1
      rw [← hX] at hJ
      rw [← hY] at hK
      clear hX hY g1
      go_wp2_with fail
      refine (hJ _ (oa_3.row InputR.enc_len)).mono ?_
      rintro e u4 ⟨rfl, b⟩
      have B4 := B3.trans (b.mono B3.size)
      have z4 := b.size
      have ol_4 := ol_3.keep b
      have oa_4 := oa_3.keep b
      have ob_4 := ob_3.keep b
      clear ol_3 oa_3 ob_3 b
      go_wp2_with fail
      refine (hK _ (ol_4.row InputR.enc_len)).mono ?_
      rintro e u5 ⟨rfl, b⟩
      have B5 := B4.trans (b.mono B4.size)
      have z5 := b.size
      have ol_5 := ol_4.keep b
      have oa_5 := oa_4.keep b
      have ob_5 := ob_4.keep b
      clear ol_4 oa_4 ob_4 b
      go_wp2
      all_goals go_returns
      all_goals exact ⟨ret_bool (by first | rfl | (simp; omega)), B5⟩
    · have HK := Lib.hid hk
      rw [hk] at hI hS
      clear hk
      go_wp2_with fail
      refine (hI _ (ol_0.row InputR.enc_len)).mono ?_
      rintro e u1 ⟨A1, c1, rfl, q1, b⟩
      have B1 := B0.trans (b.mono B0.size)
      have z1 := b.size
      have ol_1 := ol_0.keep b
      clear ol_0 b
      have oa_1 := q1
      clear q1
      go_wp2_with fail
      refine (hS _ (ol_1.row InputR.enc_len)).mono ?_
      rintro e u2 ⟨A2, c2, rfl, q1, b⟩
      have B2 := B1.trans (b.mono B1.size)
      have z2 := b.size
      have ol_2 := ol_1.keep b
      have oa_2 := oa_1.keep b
      clear ol_1 oa_1 b
      have ob_2 := q1
      clear q1
      go_wp2_with fail
      refine (equalInputs_same A1 A2 c1 c2 M _ (oa_2.row InputR.enc_len) (ob_2.row InputR.enc_len)).mono ?_
      rintro e u3 ⟨rfl, b⟩
      have B3 := B2.trans (b.mono B2.size)
      have z3 := b.size
      have ol_3 := ol_2.keep b
      have oa_3 := oa_2.keep b
      have ob_3 := ob_2.keep b
      clear ol_2 oa_2 ob_2 b
      go_wp2_with fail
      refine (equalInputs_same A1 A2 c1 c2 M _ (oa_3.row InputR.enc_len) (ob_3.row InputR.enc_len)).mono ?_
      rintro e u4 ⟨rfl, b⟩
      have B4 := B3.trans (b.mono B3.size)
      have z4 := b.size
      have ol_4 := ol_3.keep b
      have oa_4 := oa_3.keep b
      have ob_4 := ob_3.keep b
      clear ol_3 oa_3 ob_3 b
      go_wp2
      all_goals go_returns
      all_goals exact ⟨ret_bool (by first | rfl | simp), B4⟩
  · go_enter Try.func6, Try.ntmps6
    go_wp2
    all_goals go_returns
    all_goals exact ⟨rfl, Below.refl _ _⟩
set_option maxRecDepth 100000 in
theorem lifted (os : Os) (started : os.Started) (H : Type) (enc : TypeId × Value → H) :
    ReturnsInHanded {} Try.checked os 6 .any (Rows.fnUpdateInputMarkSpec.pre6 enc Try.prog Try.f6 Rows.fnUpdateInputMarkRow.domain false) (Rows.fnUpdateInputMarkSpec.post enc Try.prog Try.f6 false true false false) := by
  refine returnsInHanded_of_change (C := Try.checked) own started (by kernel_rfl) Try.func6
    (ChangeSpec.witness6 (enc := enc) (C := Try.checked) false ⟨#[], #[.slice none 0 0], []⟩ 8 (by kernel_rfl) (by kernel_rfl) (by kernel_rfl) (by kernel_rfl)) ?_
  intro W base args ds gs before hval0 hW hcnd _
  have hval : ∀ (j : Nat) t v, Try.f6.params[j]? = some t → args[j]? = some v → Value.okWide Try.prog W .any base t v := hval0
  have hW' := hW
  obtain ⟨p, q, hA0, hV, rfl, hfz, hnd⟩ := hW
  have hA : DataW.TrodAll enc Try.prog W 0 (fun _ => true) true Try.f6.params.toList args.toList ds p := hA0
  rw [Try.params6] at hA hval
  obtain ⟨v0, vs0, d0, ds0, p0, q0, hargs, rfl, rfl, h0, r0⟩ := trodAll_cons hA
  obtain ⟨rfl, rfl, rfl⟩ := trodAll_nil r0
  obtain rfl : args = #[v0] := by cases args; simp_all
  obtain ⟨rfl, rfl⟩ := trodVars_none hV
  have k0 := h0
  have lt0 : ∀ x ∈ p0, x.block < W.heap.size := by obtain ⟨m, hm⟩ := k0; exact DataW.trod_lt m _ _ _ hm
  obtain ⟨a0, len0, cap0, rfl⟩ := okWide_slice Try.underlying22 (hval 0 22 v0 rfl rfl)
  obtain ⟨z0, w0⟩ : ∃ zs, IsRow .u8 W a0 len0 cap0 zs := by
    obtain ⟨fuel, hf⟩ := h0
    rcases open_ints Try.underlying22 Try.underlying5 (by kernel_rfl) hf with ⟨hcs, _⟩ | ⟨x, l, c, zs, hcs, _, hl, hm, hz, hx, hcell, hwz⟩
    · simp [Value.cells] at hcs
      obtain ⟨rfl, rfl, rfl⟩ := hcs
      exact ⟨[], .inl ⟨rfl, rfl, rfl, rfl⟩⟩
    · simp [Value.cells] at hcs
      obtain ⟨rfl, rfl, rfl⟩ := hcs
      exact ⟨zs, .inr ⟨_, rfl, hl, hm, by simpa using hz, hcell, hwz⟩⟩
  clear hA0 hval0
  refine (walk a0 len0 cap0 z0 W w0).mono fun e W' ⟨he, bel⟩ => ?_
  subst he
  exact ⟨_, rfl, _, _, _, [], _, [], hW', trodAll_mk1 (shut_bool Try.underlying4 _), (trodAll_cons_mk (Below.trod laidOut (by kernel_rfl) (of_decide_eq_true (by kernel_rfl)) k0 bel lt0) trodAll_mk0), rfl, bel.frame _, fun h => by cases h⟩

theorem closed : joinedFacts Try.checked.prog 6 Try.f6 Rows.fnUpdateInputMarkSpec Rows.fnUpdateInputMarkRow = true := by
  unfold joinedFacts
  rw [mayE, liftE, makeE]
  kernel_rfl

theorem over : Rows.fnUpdateInputMarkRow.holds Try.pinned (OpenSpec.ofChange Rows.fnUpdateInputMarkSpec) :=
  OpenClaim.holds_of_wide 6 Try.f6 rfl rfl rfl rfl rfl rfl rfl ⟨rfl, rfl, rfl, rfl, rfl⟩ rfl rfl rfl rfl rfl (by kernel_rfl) Try.func6 closed
    (of_decide_eq_true (by kernel_rfl)) (by unfold Func.isWrapper; first | (rw [if_pos (by decide +kernel)]; kernel_rfl) | (rw [if_neg (by decide +kernel)]; exact ⟨rfl, rfl⟩))
    (fun os started H enc _ => lifted os started H enc)

theorem proved : Rows.FnUpdateInputMarkSaid := over
#print axioms proved
end Go.Proofs.Ytehedhkadjidpab.fnUpdateInputMark
