/- The law FnMergeEvents answers true at every input and leaves its arguments as they were; no condition. -/
import Derived.Test.YtehedhkadjidpaaRows
import Derived.WalkKit
import Derived.WalkSpells
import Derived.WalkLawsBesides
import Derived.ProofKit
import Derived.OpenShut
import Derived.ShutString
import Derived.ChangeOld
import Derived.Below
import Derived.Lib.SmallJoins
import Derived.Handy
import Derived.Test.YtehedhkadjidpaaMay
import Derived.Test.YtehedhkadjidpaaDrMg
import Derived.Test.YtehedhkadjidpaaMgI
import Derived.Test.YtehedhkadjidpaaEvB
import Derived.Test.YtehedhkadjidpaaEqEv
namespace Go.Proofs.Ytehedhkadjidpaa.fnMergeEvents
open Go.ChangeShapes Go.WideShapes Go.ChangeAt Go.RowKit Go.Joins
open Go.ChangeMaps (open_string shut_string)
set_option linter.unusedVariables false

theorem own : ownKnob Try.prog.godebug = none := by kernel_rfl
theorem laidOut : laidOutB Try.prog = true := by kernel_rfl
set_option maxRecDepth 100000 in
set_option maxHeartbeats 1000000 in
theorem walk (a0 : Option Addr) (len0 cap0 : Nat) (z0 : List Int) (w : World) (w0 : IsRow .u8 w a0 len0 cap0 z0) :
    Calls Try.prog 7 #[.slice a0 len0 cap0] w fun e w' => e = .returned (.bool true) ∧ Below w.heap.size w w' := by
  by_cases hlen : len0 ≤ 1048576
  · go_enter Try.func7, Try.ntmps7
    go_wp2_with fail
    refine (drawMergeEvents_any w a0 len0 cap0 z0 w0 hlen).mono ?_
    rintro e u0 ⟨A, c, l, Ax, cx, m, rfl, ol_0, om_0, l41, m41, B0⟩
    obtain ⟨M, hM⟩ : ∃ L, L = mgF l m := ⟨_, rfl⟩
    have hI := fun W h1 h2 k1 k2 => implMerge_any A c l Ax cx m W h1 h2 k1 k2
    have hS := fun W h1 h2 => specMerge_any A c l Ax cx m W h1 h2
    rw [← hM] at hI hS
    have hJ := fun W h1 h2 k1 k2 => implMerge_any Ax cx m A c l W h1 h2 k1 k2
    rw [mgF_comm, ← hM] at hJ
    have HM := Lib.hid hM
    clear hM
    go_wp2_with fail
    refine (hI _ (ol_0.row EventR.enc_len) (om_0.row EventR.enc_len) ol_0.lenCap om_0.lenCap).mono ?_
    rintro e u1 ⟨A1, c1, rfl, q1, b⟩
    have B1 := B0.trans (b.mono B0.size)
    have z1 := b.size
    have ol_1 := ol_0.keep b
    have om_1 := om_0.keep b
    clear ol_0 om_0 b
    have oa_1 := q1
    clear q1
    go_wp2_with fail
    refine (hS _ (ol_1.row EventR.enc_len) (om_1.row EventR.enc_len)).mono ?_
    rintro e u2 ⟨A2, c2, rfl, q1, b⟩
    have B2 := B1.trans (b.mono B1.size)
    have z2 := b.size
    have ol_2 := ol_1.keep b
    have om_2 := om_1.keep b
    have oa_2 := oa_1.keep b
    clear ol_1 om_1 oa_1 b
    have ob_2 := q1
    clear q1
    go_wp2_with fail
    refine (equalEvents_same A1 A2 c1 c2 M _ (oa_2.row EventR.enc_len) (ob_2.row EventR.enc_len)).mono ?_
    rintro e u3 ⟨rfl, b⟩
    have B3 := B2.trans (b.mono B2.size)
    have z3 := b.size
    have ol_3 := ol_2.keep b
    have om_3 := om_2.keep b
    have oa_3 := oa_2.keep b
    have ob_3 := ob_2.keep b
    clear ol_2 om_2 oa_2 ob_2 b
    go_wp2_with fail
    refine (hJ _ (om_3.row EventR.enc_len) (ol_3.row EventR.enc_len) om_3.lenCap ol_3.lenCap).mono ?_
    rintro e u4 ⟨A3, c3, rfl, q1, b⟩
    have B4 := B3.trans (b.mono B3.size)
    have z4 := b.size
    have ol_4 := ol_3.keep b
    have om_4 := om_3.keep b
    have oa_4 := oa_3.keep b
    have ob_4 := ob_3.keep b
    clear ol_3 om_3 oa_3 ob_3 b
    have oc_4 := q1
    clear q1
    go_wp2_with fail
    refine (equalEvents_same A3 A1 c3 c1 M _ (oc_4.row EventR.enc_len) (oa_4.row EventR.enc_len)).mono ?_
    rintro e u5 ⟨rfl, b⟩
    have B5 := B4.trans (b.mono B4.size)
    have z5 := b.size
    have ol_5 := ol_4.keep b
    have om_5 := om_4.keep b
    have oa_5 := oa_4.keep b
    have ob_5 := ob_4.keep b
    have oc_5 := oc_4.keep b
    clear ol_4 om_4 oa_4 ob_4 oc_4 b
    by_cases hz : M.length = 0
    · have hd : ((M.length : Int) == 0) = true := by rw [hz]; rfl
      have Hz := Lib.hid hz
      clear hz
      go_wp2_with fail
      refine (hS _ (ol_5.row EventR.enc_len) (om_5.row EventR.enc_len)).mono ?_
      rintro e u6 ⟨A4, c4, rfl, q1, b⟩
      have B6 := B5.trans (b.mono B5.size)
      have z6 := b.size
      have ol_6 := ol_5.keep b
      have om_6 := om_5.keep b
      have oa_6 := oa_5.keep b
      have ob_6 := ob_5.keep b
      have oc_6 := oc_5.keep b
      clear ol_5 om_5 oa_5 ob_5 oc_5 b
      have od_6 := q1
      clear q1
      go_wp2_with fail
      refine (equalEvents_same A1 A4 c1 c4 M _ (oa_6.row EventR.enc_len) (od_6.row EventR.enc_len)).mono ?_
      rintro e u7 ⟨rfl, b⟩
      have B7 := B6.trans (b.mono B6.size)
      have z7 := b.size
      have ol_7 := ol_6.keep b
      have om_7 := om_6.keep b
      have oa_7 := oa_6.keep b
      have ob_7 := ob_6.keep b
      have oc_7 := oc_6.keep b
      have od_7 := od_6.keep b
      clear ol_6 om_6 oa_6 ob_6 oc_6 od_6 b
      go_wp2_with fail
      refine (hJ _ (om_7.row EventR.enc_len) (ol_7.row EventR.enc_len) om_7.lenCap ol_7.lenCap).mono ?_
      rintro e u8 ⟨A5, c5, rfl, q1, b⟩
      have B8 := B7.trans (b.mono B7.size)
      have z8 := b.size
      have ol_8 := ol_7.keep b
      have om_8 := om_7.keep b
      have oa_8 := oa_7.keep b
      have ob_8 := ob_7.keep b
      have oc_8 := oc_7.keep b
      have od_8 := od_7.keep b
      clear ol_7 om_7 oa_7 ob_7 oc_7 od_7 b
      have oe_8 := q1
      clear q1
      go_wp2_with fail
      refine (equalEvents_same A5 A1 c5 c1 M _ (oe_8.row EventR.enc_len) (oa_8.row EventR.enc_len)).mono ?_
      rintro e u9 ⟨rfl, b⟩
      have B9 := B8.trans (b.mono B8.size)
      have z9 := b.size
      have ol_9 := ol_8.keep b
      have om_9 := om_8.keep b
      have oa_9 := oa_8.keep b
      have ob_9 := ob_8.keep b
      have oc_9 := oc_8.keep b
      have od_9 := od_8.keep b
      have oe_9 := oe_8.keep b
      clear ol_8 om_8 oa_8 ob_8 oc_8 od_8 oe_8 b
      go_wp2
      all_goals go_returns
      all_goals exact ⟨ret_bool (by first | rfl | simp), B9⟩
    · have hd : ((M.length : Int) == 0) = false := by rw [beq_eq_false_iff_ne]; omega
      obtain ⟨Jn, hJn⟩ : ∃ L, L = l ++ m := ⟨_, rfl⟩
      have hT := fun W h1 h2 => joined_any A c l Ax cx m W h1 h2 (by omega)
      rw [← hJn] at hT
      have hU := fun A c W hr => implSort_any A c Jn W hr
      rw [show soF Jn = M by rw [hJn, HM.out]; exact mgF_sort (by rw [← HM.out]; exact hz)] at hU
      clear hJn hz
      go_wp2_with fail
      refine (hT _ (ol_5.row EventR.enc_len) (om_5.row EventR.enc_len)).mono ?_
      rintro e u6 ⟨A4, c4, rfl, q1, b⟩
      have B6 := B5.trans (b.mono B5.size)
      have z6 := b.size
      have ol_6 := ol_5.keep b
      have om_6 := om_5.keep b
      have oa_6 := oa_5.keep b
      have ob_6 := ob_5.keep b
      have oc_6 := oc_5.keep b
      clear ol_5 om_5 oa_5 ob_5 oc_5 b
      have od_6 := q1
      clear q1
      go_wp2_with fail
      refine (hU A4 c4 _ (od_6.row EventR.enc_len)).mono ?_
      rintro e u7 ⟨A5, c5, rfl, q1, b⟩
      have B7 := B6.trans (b.mono B6.size)
      have z7 := b.size
      have ol_7 := ol_6.keep b
      have om_7 := om_6.keep b
      have oa_7 := oa_6.keep b
      have ob_7 := ob_6.keep b
      have oc_7 := oc_6.keep b
      have od_7 := od_6.keep b
      clear ol_6 om_6 oa_6 ob_6 oc_6 od_6 b
      have oe_7 := q1
      clear q1
      go_wp2_with fail
      refine (equalEvents_same A5 A1 c5 c1 M _ (oe_7.row EventR.enc_len) (oa_7.row EventR.enc_len)).mono ?_
      rintro e u8 ⟨rfl, b⟩
      have B8 := B7.trans (b.mono B7.size)
      have z8 := b.size
      have ol_8 := ol_7.keep b
      have om_8 := om_7.keep b
      have oa_8 := oa_7.keep b
      have ob_8 := ob_7.keep b
      have oc_8 := oc_7.keep b
      have od_8 := od_7.keep b
      have oe_8 := oe_7.keep b
      clear ol_7 om_7 oa_7 ob_7 oc_7 od_7 oe_7 b
      go_wp2
      all_goals go_returns
      all_goals exact ⟨ret_bool (by first | rfl | simp), B8⟩
  · go_enter Try.func7, Try.ntmps7
    go_wp2
    all_goals go_returns
    all_goals exact ⟨rfl, Below.refl _ _⟩
set_option maxRecDepth 100000 in
theorem lifted (os : Os) (started : os.Started) (H : Type) (enc : TypeId × Value → H) :
    ReturnsInHanded {} Try.checked os 7 .any (Rows.fnMergeEventsSpec.pre6 enc Try.prog Try.f7 Rows.fnMergeEventsRow.domain false) (Rows.fnMergeEventsSpec.post enc Try.prog Try.f7 false true false false) := by
  refine returnsInHanded_of_change (C := Try.checked) own started (by kernel_rfl) Try.func7
    (ChangeSpec.witness6 (enc := enc) (C := Try.checked) false ⟨#[], #[.slice none 0 0], []⟩ 8 (by kernel_rfl) (by kernel_rfl) (by kernel_rfl) (by kernel_rfl)) ?_
  intro W base args ds gs before hval0 hW hcnd _
  have hval : ∀ (j : Nat) t v, Try.f7.params[j]? = some t → args[j]? = some v → Value.okWide Try.prog W .any base t v := hval0
  have hW' := hW
  obtain ⟨p, q, hA0, hV, rfl, hfz, hnd⟩ := hW
  have hA : DataW.TrodAll enc Try.prog W 0 (fun _ => true) true Try.f7.params.toList args.toList ds p := hA0
  rw [Try.params7] at hA hval
  obtain ⟨v0, vs0, d0, ds0, p0, q0, hargs, rfl, rfl, h0, r0⟩ := trodAll_cons hA
  obtain ⟨rfl, rfl, rfl⟩ := trodAll_nil r0
  obtain rfl : args = #[v0] := by cases args; simp_all
  obtain ⟨rfl, rfl⟩ := trodVars_none hV
  have k0 := h0
  have lt0 : ∀ x ∈ p0, x.block < W.heap.size := by obtain ⟨m, hm⟩ := k0; exact DataW.trod_lt m _ _ _ hm
  obtain ⟨a0, len0, cap0, rfl⟩ := okWide_slice Try.underlying30 (hval 0 30 v0 rfl rfl)
  obtain ⟨z0, w0⟩ : ∃ zs, IsRow .u8 W a0 len0 cap0 zs := by
    obtain ⟨fuel, hf⟩ := h0
    rcases open_ints Try.underlying30 Try.underlying5 (by kernel_rfl) hf with ⟨hcs, _⟩ | ⟨x, l, c, zs, hcs, _, hl, hm, hz, hx, hcell, hwz⟩
    · simp [Value.cells] at hcs
      obtain ⟨rfl, rfl, rfl⟩ := hcs
      exact ⟨[], .inl ⟨rfl, rfl, rfl, rfl⟩⟩
    · simp [Value.cells] at hcs
      obtain ⟨rfl, rfl, rfl⟩ := hcs
      exact ⟨zs, .inr ⟨_, rfl, hl, hm, by simpa using hz, hcell, hwz⟩⟩
  clear hA0 hval0
  refine (walk a0 len0 cap0 z0 W w0).mono fun e W' ⟨he, bel⟩ => ?_
  subst he
  exact ⟨_, rfl, _, _, _, [], _, [], hW', trodAll_mk1 (shut_bool Try.underlying4 _), (trodAll_cons_mk (Below.trod laidOut (by kernel_rfl) (of_decide_eq_true (by kernel_rfl)) k0 bel lt0) trodAll_mk0), rfl, bel.frame _, fun h => by cases h⟩

theorem closed : joinedFacts Try.checked.prog 7 Try.f7 Rows.fnMergeEventsSpec Rows.fnMergeEventsRow = true := by
  unfold joinedFacts
  rw [mayE, liftE, makeE]
  kernel_rfl

theorem over : Rows.fnMergeEventsRow.holds Try.pinned (OpenSpec.ofChange Rows.fnMergeEventsSpec) :=
  OpenClaim.holds_of_wide 7 Try.f7 rfl rfl rfl rfl rfl rfl rfl ⟨rfl, rfl, rfl, rfl, rfl⟩ rfl rfl rfl rfl rfl (by kernel_rfl) Try.func7 closed
    (of_decide_eq_true (by kernel_rfl)) (by unfold Func.isWrapper; first | (rw [if_pos (by decide +kernel)]; kernel_rfl) | (rw [if_neg (by decide +kernel)]; exact ⟨rfl, rfl⟩))
    (fun os started H enc _ => lifted os started H enc)

theorem proved : Rows.FnMergeEventsSaid := over
#print axioms proved
end Go.Proofs.Ytehedhkadjidpaa.fnMergeEvents
