/- The law FnReleaseFiles answers true at every input and leaves its arguments as they were; no condition. -/
import Derived.Test.YtjjjlpnbniofjaaRows
import Derived.WalkKit
import Derived.WalkSpells
import Derived.WalkLawsBesides
import Derived.ProofKit
import Derived.OpenShut
import Derived.ShutString
import Derived.ChangeOld
import Derived.Below
import Derived.Lib.SmallJoins
import Derived.Handy
import Derived.Test.YtjjjlpnbniofjaaMay
import Derived.Test.YtjjjlpnbniofjaaFrP2
namespace Go.Proofs.Ytjjjlpnbniofjaa.fnReleaseFiles
open Go.ChangeShapes Go.WideShapes Go.ChangeAt Go.RowKit Go.Joins
open Go.ChangeMaps (open_string shut_string)
set_option linter.unusedVariables false

theorem own : ownKnob Try.prog.godebug = none := by kernel_rfl
theorem laidOut : laidOutB Try.prog = true := by kernel_rfl
set_option maxRecDepth 100000 in
set_option maxHeartbeats 4000000 in
theorem walk (a0 : Option Addr) (len0 cap0 : Nat) (z0 : List Int) (w : World) (w0 : IsRow .u8 w a0 len0 cap0 z0) :
    Calls Try.prog 8 #[.slice a0 len0 cap0] w fun e w' => e = .returned (.bool true) ∧ Below w.heap.size w w' := by
  by_cases hlen : len0 ≤ 1048576
  · go_enter Try.func8, Try.ntmps8
    go_wp2_with fail
    refine (drawReleaseFiles_any w a0 len0 cap0 z0 w0 hlen).mono ?_
    rintro e u0 ⟨A, c, l, A', c', fs, rfl, rl_0, rf_0, nl, nf, hfb, B0⟩
    have Hfb := Lib.hid hfb
    clear hfb
    have hl40 : l.length ≤ 1048576 := by omega
    have hf40 : fs.length ≤ 1048576 := by omega
    obtain ⟨M, hM⟩ : ∃ M, M = rlF l fs := ⟨_, rfl⟩
    obtain ⟨G, hG⟩ : ∃ G, G = rlG l fs := ⟨_, rfl⟩
    have hI := fun W h1 h2 => implRl_any A c l A' c' fs W h1 h2
    have hS := fun W h1 h2 => specRl_any A c l A' c' fs W h1 h2
    rw [← hM, ← hG] at hI hS
    have HM := Lib.hid hM
    have HG := Lib.hid hG
    clear hM hG
    rcases Bool.eq_false_or_eq_true (rlK l fs) with hk | hk
    · have HK := Lib.hid hk
      rw [hk] at hI hS
      clear hk
      go_wp2_with fail
      refine (hI _ rl_0 rf_0).mono ?_
      rintro e u1 ⟨A1, c1, A2, c2, rfl, q1, q2, -, b⟩
      have B1 := B0.trans (b.mono B0.size)
      have z1 := b.size
      have rl_1 := rl_0.keep b
      have rf_1 := rf_0.keep b
      clear rl_0 rf_0 b
      have oa_1 := q1
      clear q1
      have ob_1 := q2
      clear q2
      go_wp2_with fail
      refine (hS _ rl_1 rf_1).mono ?_
      rintro e u2 ⟨A3, c3, A4, c4, rfl, q1, q2, -, b⟩
      have B2 := B1.trans (b.mono B1.size)
      have z2 := b.size
      have rl_2 := rl_1.keep b
      have rf_2 := rf_1.keep b
      have oa_2 := oa_1.keep b
      have ob_2 := ob_1.keep b
      clear rl_1 rf_1 oa_1 ob_1 b
      have oc_2 := q1
      clear q1
      have od_2 := q2
      clear q2
      go_wp2_with fail
      refine (equalRefs_same A1 A3 c1 c3 M _ (oa_2.row FileRefR.enc_len) (oc_2.row FileRefR.enc_len)).mono ?_
      rintro e u3 ⟨rfl, b⟩
      have B3 := B2.trans (b.mono B2.size)
      have z3 := b.size
      have rl_3 := rl_2.keep b
      have rf_3 := rf_2.keep b
      have oa_3 := oa_2.keep b
      have ob_3 := ob_2.keep b
      have oc_3 := oc_2.keep b
      have od_3 := od_2.keep b
      clear rl_2 rf_2 oa_2 ob_2 oc_2 od_2 b
      go_wp2_with fail
      refine (equalInts_same A2 A4 c2 c4 G _ (ob_3.row IntR.enc_len) (od_3.row IntR.enc_len)).mono ?_
      rintro e u4 ⟨rfl, b⟩
      have B4 := B3.trans (b.mono B3.size)
      have z4 := b.size
      have rl_4 := rl_3.keep b
      have rf_4 := rf_3.keep b
      have oa_4 := oa_3.keep b
      have ob_4 := ob_3.keep b
      have oc_4 := oc_3.keep b
      have od_4 := od_3.keep b
      clear rl_3 rf_3 oa_3 ob_3 oc_3 od_3 b
      go_wp2_with fail
      have hg40 := ob_4.1
      go_loopw [11] (fun i wr => ∃ k : Nat, k ≤ fs.length ∧ i = .int .i64 k ∧ Below u4.heap.size u4 wr) (fun i _ => fs.length - (intOf i).toNat)
      case atStart => exact ⟨0, Nat.zero_le _, rfl, Below.refl _ _⟩
      case round =>
        obtain ⟨k, hk, rfl, hbw⟩ := hrel
        by_cases hlt : k < fs.length
        · obtain ⟨b, off, hAe, hblt, q0⟩ := (rf_4.keep hbw).atInt hlt
          have hxm : fs[k] ∈ fs := List.getElem_mem hlt
          generalize fs[k] = x at *
          have hxb := Hfb.out x hxm
          have hm1 := rl_mem1 HK.out hxm
          have hm0 := rl_mem0 HK.out hxm
          rw [← HG.out] at hm1 hm0
          rw [← HM.out] at hm0
          have RL := rl_4.keep hbw
          have RG := (ob_4.row IntR.enc_len).keep hbw
          have RO := (oa_4.row FileRefR.enc_len).keep hbw
          have Q0 := Bw.cellOf hblt q0
          have i0 : (0 : Int) ≤ (k : Int) := by omega
          have i1 : (k : Int) < (fs.length : Int) := by omega
          have i5 : ((k : Int)).toNat = k := by omega
          subst hAe
          have Hm1 := Lib.hid hm1
          have Hm0 := Lib.hid hm0
          clear hm1 hm0 hxm q0
          rcases Bool.eq_false_or_eq_true (decide (x ∈ G)) with hd | hd
          all_goals
            have e1 := Hm1.out
            have e0 := Hm0.out
            rw [hd] at e1 e0
            replace e1 := e1.symm
            replace e0 := e0.symm
            go_wp2_with fail
            refine wp_region_quiet_below (by kernel_rfl) (by kernel_rfl) ?_
            repeat (any_goals (go_big_quiet_step (first | (go_at_call 34; refine Calls.below_same (lawIsIn_b A2 c2 G x _ hd _ (RG.keep (Bw.h _)))) | (go_at_call 18; refine Calls.below_of (implFc_any _ _ _ x _ (by first | exact RL.keep (Bw.h _) | exact RO.keep (Bw.h _)) (by omega) (by omega))))))
            refine wpQuiet_nil ?_
            intro wq hbq
            have hbw1 := hbw.trans (hbq.mono hbw.size)
            go_wp2
            go_roundw
            case rel => exact ⟨k + 1, by omega, by go_num, hbw1⟩
            case measure => simp [intOf]; omega
        · have bl := hbw
          have wr_eq : ∃ v, v = wr := ⟨_, rfl⟩
          obtain ⟨u5, hu⟩ := wr_eq
          rw [← hu] at bl ⊢
          clear hu hbw
          have B5 := B4.trans (bl.mono B4.size)
          have z5 := bl.size
          have rl_5 := rl_4.keep bl
          have rf_5 := rf_4.keep bl
          have oa_5 := oa_4.keep bl
          have ob_5 := ob_4.keep bl
          have oc_5 := oc_4.keep bl
          have od_5 := od_4.keep bl
          clear rl_4 rf_4 oa_4 ob_4 oc_4 od_4 bl
          have hJ := fun W h1 h2 => implNf_any A1 c1 M A' c' fs W h1 h2
          rw [HM.out, rl_new HK.out, ← HM.out, ← HG.out] at hJ
          go_wp2_with fail
          refine (hJ _ (oa_5.row FileRefR.enc_len) rf_5).mono ?_
          rintro e u6 ⟨A5, c5, rfl, q1, b⟩
          have B6 := B5.trans (b.mono B5.size)
          have z6 := b.size
          have rl_6 := rl_5.keep b
          have rf_6 := rf_5.keep b
          have oa_6 := oa_5.keep b
          have ob_6 := ob_5.keep b
          have oc_6 := oc_5.keep b
          have od_6 := od_5.keep b
          clear rl_5 rf_5 oa_5 ob_5 oc_5 od_5 b
          have oe_6 := q1
          clear q1
          go_wp2_with fail
          refine (equalInts_same A5 A2 c5 c2 G _ (oe_6.row IntR.enc_len) (ob_6.row IntR.enc_len)).mono ?_
          rintro e u7 ⟨rfl, b⟩
          have B7 := B6.trans (b.mono B6.size)
          have z7 := b.size
          have rl_7 := rl_6.keep b
          have rf_7 := rf_6.keep b
          have oa_7 := oa_6.keep b
          have ob_7 := ob_6.keep b
          have oc_7 := oc_6.keep b
          have od_7 := od_6.keep b
          have oe_7 := oe_6.keep b
          clear rl_6 rf_6 oa_6 ob_6 oc_6 od_6 oe_6 b
          go_wp2
          all_goals go_returns
          all_goals exact ⟨ret_bool (by first | rfl | simp), B7⟩
    · have HK := Lib.hid hk
      rw [hk] at hI hS
      clear hk
      go_wp2_with fail
      refine (hI _ rl_0 rf_0).mono ?_
      rintro e u1 ⟨A1, c1, A2, c2, rfl, q1, q2, -, b⟩
      have B1 := B0.trans (b.mono B0.size)
      have z1 := b.size
      have rl_1 := rl_0.keep b
      have rf_1 := rf_0.keep b
      clear rl_0 rf_0 b
      have oa_1 := q1
      clear q1
      have ob_1 := q2
      clear q2
      go_wp2_with fail
      refine (hS _ rl_1 rf_1).mono ?_
      rintro e u2 ⟨A3, c3, A4, c4, rfl, q1, q2, -, b⟩
      have B2 := B1.trans (b.mono B1.size)
      have z2 := b.size
      have rl_2 := rl_1.keep b
      have rf_2 := rf_1.keep b
      have oa_2 := oa_1.keep b
      have ob_2 := ob_1.keep b
      clear rl_1 rf_1 oa_1 ob_1 b
      have oc_2 := q1
      clear q1
      have od_2 := q2
      clear q2
      go_wp2_with fail
      refine (equalRefs_same A1 A3 c1 c3 M _ (oa_2.row FileRefR.enc_len) (oc_2.row FileRefR.enc_len)).mono ?_
      rintro e u3 ⟨rfl, b⟩
      have B3 := B2.trans (b.mono B2.size)
      have z3 := b.size
      have rl_3 := rl_2.keep b
      have rf_3 := rf_2.keep b
      have oa_3 := oa_2.keep b
      have ob_3 := ob_2.keep b
      have oc_3 := oc_2.keep b
      have od_3 := od_2.keep b
      clear rl_2 rf_2 oa_2 ob_2 oc_2 od_2 b
      go_wp2_with fail
      refine (equalInts_same A2 A4 c2 c4 G _ (ob_3.row IntR.enc_len) (od_3.row IntR.enc_len)).mono ?_
      rintro e u4 ⟨rfl, b⟩
      have B4 := B3.trans (b.mono B3.size)
      have z4 := b.size
      have rl_4 := rl_3.keep b
      have rf_4 := rf_3.keep b
      have oa_4 := oa_3.keep b
      have ob_4 := ob_3.keep b
      have oc_4 := oc_3.keep b
      have od_4 := od_3.keep b
      clear rl_3 rf_3 oa_3 ob_3 oc_3 od_3 b
      go_wp2_with fail
      refine (equalRefs_same A1 A3 c1 c3 M _ (oa_4.row FileRefR.enc_len) (oc_4.row FileRefR.enc_len)).mono ?_
      rintro e u5 ⟨rfl, b⟩
      have B5 := B4.trans (b.mono B4.size)
      have z5 := b.size
      have rl_5 := rl_4.keep b
      have rf_5 := rf_4.keep b
      have oa_5 := oa_4.keep b
      have ob_5 := ob_4.keep b
      have oc_5 := oc_4.keep b
      have od_5 := od_4.keep b
      clear rl_4 rf_4 oa_4 ob_4 oc_4 od_4 b
      go_wp2_with fail
      refine (equalInts_same A2 A4 c2 c4 G _ (ob_5.row IntR.enc_len) (od_5.row IntR.enc_len)).mono ?_
      rintro e u6 ⟨rfl, b⟩
      have B6 := B5.trans (b.mono B5.size)
      have z6 := b.size
      have rl_6 := rl_5.keep b
      have rf_6 := rf_5.keep b
      have oa_6 := oa_5.keep b
      have ob_6 := ob_5.keep b
      have oc_6 := oc_5.keep b
      have od_6 := od_5.keep b
      clear rl_5 rf_5 oa_5 ob_5 oc_5 od_5 b
      go_wp2
      all_goals go_returns
      all_goals exact ⟨ret_bool (by first | rfl | simp), B6⟩
  · go_enter Try.func8, Try.ntmps8
    go_wp2
    all_goals go_returns
    all_goals exact ⟨rfl, Below.refl _ _⟩
set_option maxRecDepth 100000 in
theorem lifted (os : Os) (started : os.Started) (H : Type) (enc : TypeId × Value → H) :
    ReturnsInHanded {} Try.checked os 8 .any (Rows.fnReleaseFilesSpec.pre6 enc Try.prog Try.f8 Rows.fnReleaseFilesRow.domain false) (Rows.fnReleaseFilesSpec.post enc Try.prog Try.f8 false true false false) := by
  refine returnsInHanded_of_change (C := Try.checked) own started (by kernel_rfl) Try.func8
    (ChangeSpec.witness6 (enc := enc) (C := Try.checked) false ⟨#[], #[.slice none 0 0], []⟩ 8 (by kernel_rfl) (by kernel_rfl) (by kernel_rfl) (by kernel_rfl)) ?_
  intro W base args ds gs before hval0 hW hcnd _
  have hval : ∀ (j : Nat) t v, Try.f8.params[j]? = some t → args[j]? = some v → Value.okWide Try.prog W .any base t v := hval0
  have hW' := hW
  obtain ⟨p, q, hA0, hV, rfl, hfz, hnd⟩ := hW
  have hA : DataW.TrodAll enc Try.prog W 0 (fun _ => true) true Try.f8.params.toList args.toList ds p := hA0
  rw [Try.params8] at hA hval
  obtain ⟨v0, vs0, d0, ds0, p0, q0, hargs, rfl, rfl, h0, r0⟩ := trodAll_cons hA
  obtain ⟨rfl, rfl, rfl⟩ := trodAll_nil r0
  obtain rfl : args = #[v0] := by cases args; simp_all
  obtain ⟨rfl, rfl⟩ := trodVars_none hV
  have k0 := h0
  have lt0 : ∀ x ∈ p0, x.block < W.heap.size := by obtain ⟨m, hm⟩ := k0; exact DataW.trod_lt m _ _ _ hm
  obtain ⟨a0, len0, cap0, rfl⟩ := okWide_slice Try.underlying39 (hval 0 39 v0 rfl rfl)
  obtain ⟨z0, w0⟩ : ∃ zs, IsRow .u8 W a0 len0 cap0 zs := by
    obtain ⟨fuel, hf⟩ := h0
    rcases open_ints Try.underlying39 Try.underlying5 (by kernel_rfl) hf with ⟨hcs, _⟩ | ⟨x, l, c, zs, hcs, _, hl, hm, hz, hx, hcell, hwz⟩
    · simp [Value.cells] at hcs
      obtain ⟨rfl, rfl, rfl⟩ := hcs
      exact ⟨[], .inl ⟨rfl, rfl, rfl, rfl⟩⟩
    · simp [Value.cells] at hcs
      obtain ⟨rfl, rfl, rfl⟩ := hcs
      exact ⟨zs, .inr ⟨_, rfl, hl, hm, by simpa using hz, hcell, hwz⟩⟩
  clear hA0 hval0
  refine (walk a0 len0 cap0 z0 W w0).mono fun e W' ⟨he, bel⟩ => ?_
  subst he
  exact ⟨_, rfl, _, _, _, [], _, [], hW', trodAll_mk1 (shut_bool Try.underlying4 _), (trodAll_cons_mk (Below.trod laidOut (by kernel_rfl) (of_decide_eq_true (by kernel_rfl)) k0 bel lt0) trodAll_mk0), rfl, bel.frame _, fun h => by cases h⟩

theorem closed : joinedFacts Try.checked.prog 8 Try.f8 Rows.fnReleaseFilesSpec Rows.fnReleaseFilesRow = true := by
  unfold joinedFacts
  rw [mayE, liftE, makeE]
  kernel_rfl

theorem over : Rows.fnReleaseFilesRow.holds Try.pinned (OpenSpec.ofChange Rows.fnReleaseFilesSpec) :=
  OpenClaim.holds_of_wide 8 Try.f8 rfl rfl rfl rfl rfl rfl rfl ⟨rfl, rfl, rfl, rfl, rfl⟩ rfl rfl rfl rfl rfl (by kernel_rfl) Try.func8 closed
    (of_decide_eq_true (by kernel_rfl)) (by unfold Func.isWrapper; first | (rw [if_pos (by decide +kernel)]; kernel_rfl) | (rw [if_neg (by decide +kernel)]; exact ⟨rfl, rfl⟩))
    (fun os started H enc _ => lifted os started H enc)

theorem proved : Rows.FnReleaseFilesSaid := over
#print axioms proved
end Go.Proofs.Ytjjjlpnbniofjaa.fnReleaseFiles
