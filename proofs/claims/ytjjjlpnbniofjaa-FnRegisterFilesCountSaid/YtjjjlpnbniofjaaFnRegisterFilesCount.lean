/- The law FnRegisterFilesCount answers true at every input and leaves its arguments as they were; no condition. -/
import Derived.Test.YtjjjlpnbniofjaaRows
import Derived.WalkKit
import Derived.WalkSpells
import Derived.WalkLawsBesides
import Derived.ProofKit
import Derived.OpenShut
import Derived.ShutString
import Derived.ChangeOld
import Derived.Below
import Derived.Lib.SmallJoins
import Derived.Handy
import Derived.Test.YtjjjlpnbniofjaaMay
import Derived.Test.YtjjjlpnbniofjaaFrP2
namespace Go.Proofs.Ytjjjlpnbniofjaa.fnRegisterFilesCount
open Go.ChangeShapes Go.WideShapes Go.ChangeAt Go.RowKit Go.Joins
open Go.ChangeMaps (open_string shut_string)
set_option linter.unusedVariables false

theorem own : ownKnob Try.prog.godebug = none := by kernel_rfl
theorem laidOut : laidOutB Try.prog = true := by kernel_rfl
set_option maxRecDepth 100000 in
set_option maxHeartbeats 1000000 in
theorem walk (a0 : Option Addr) (len0 cap0 : Nat) (z0 : List Int) (w : World) (w0 : IsRow .u8 w a0 len0 cap0 z0) :
    Calls Try.prog 10 #[.slice a0 len0 cap0] w fun e w' => e = .returned (.bool true) ∧ Below w.heap.size w w' := by
  by_cases hlen : len0 ≤ 1048576
  · go_enter Try.func10, Try.ntmps10
    go_wp2_with fail
    refine (drawRegisterFiles_any w a0 len0 cap0 z0 w0 hlen).mono ?_
    rintro e u0 ⟨A, c, l, A', c', fs, rfl, rl_0, rf_0, nl, nf, hfb, B0⟩
    have Hfb := Lib.hid hfb
    clear hfb
    have hl40 : l.length ≤ 1048576 := by omega
    have hf40 : fs.length ≤ 1048576 := by omega
    obtain ⟨M, hM⟩ : ∃ M, M = rgF l fs := ⟨_, rfl⟩
    have hI := fun W h1 h2 => implRg_any A c l A' c' fs W h1 h2
    have hS := fun W h1 h2 => specRg_any A c l A' c' fs W h1 h2
    rw [← hM] at hI hS
    have HM := Lib.hid hM
    clear hM
    rcases Bool.eq_false_or_eq_true (rgK l fs) with hk | hk
    · have HK := Lib.hid hk
      rw [hk] at hI hS
      clear hk
      go_wp2_with fail
      refine (hI _ rl_0 rf_0).mono ?_
      rintro e u1 ⟨A1, c1, rfl, q1, b⟩
      have B1 := B0.trans (b.mono B0.size)
      have z1 := b.size
      have rl_1 := rl_0.keep b
      have rf_1 := rf_0.keep b
      clear rl_0 rf_0 b
      have oa_1 := q1
      clear q1
      go_wp2_with fail
      refine (hS _ rl_1 rf_1).mono ?_
      rintro e u2 ⟨A2, c2, rfl, q1, b⟩
      have B2 := B1.trans (b.mono B1.size)
      have z2 := b.size
      have rl_2 := rl_1.keep b
      have rf_2 := rf_1.keep b
      have oa_2 := oa_1.keep b
      clear rl_1 rf_1 oa_1 b
      have ob_2 := q1
      clear q1
      go_wp2_with fail
      refine (equalRefs_same A1 A2 c1 c2 M _ (oa_2.row FileRefR.enc_len) (ob_2.row FileRefR.enc_len)).mono ?_
      rintro e u3 ⟨rfl, b⟩
      have B3 := B2.trans (b.mono B2.size)
      have z3 := b.size
      have rl_3 := rl_2.keep b
      have rf_3 := rf_2.keep b
      have oa_3 := oa_2.keep b
      have ob_3 := ob_2.keep b
      clear rl_2 rf_2 oa_2 ob_2 b
      go_wp2_with fail
      go_loopw [9] (fun i wr => ∃ k : Nat, k ≤ 16 ∧ i = .int .i64 k ∧ Below u3.heap.size u3 wr) (fun i _ => 16 - (intOf i).toNat)
      case atStart => exact ⟨0, Nat.zero_le _, rfl, Below.refl _ _⟩
      case round =>
        obtain ⟨k, hk, rfl, hbw⟩ := hrel
        by_cases hlt : k < 16
        · have hrc := rg_count HK.out (k : Int)
          rw [← HM.out] at hrc
          have hb0 : -1 ≤ fcF l k ∧ fcF l k ≤ 999 := by
            unfold fcF; split
            · rename_i hv; have := refC_bd hv (k : Int); omega
            · omega
          have RL := rl_3.keep hbw
          have RF := rf_3.keep hbw
          have RO := (oa_3.row FileRefR.enc_len).keep hbw
          generalize hv1 : fcF l (k : Int) = v1 at *
          generalize hv2 : fcF M (k : Int) = v2 at *
          have H1 := Lib.hid hv1
          have H2 := Lib.hid hv2
          clear hv1 hv2
          rcases Classical.em ((k : Int) ∈ fs) with hin | hin
          all_goals
            first | have hd : decide ((k : Int) ∈ fs) = true := decide_eq_true hin | have hd : decide ((k : Int) ∈ fs) = false := decide_eq_false hin
            first | rw [if_pos hin] at hrc | rw [if_neg hin] at hrc
            have hw0 : IntKind.i64.wrap (v1 + 1) = v1 + 1 := IntWalk.i64_in _ (by omega)
            subst hrc
            clear hin
            go_wp2_with fail
            refine (implFc_any A c l k _ RL (by omega) (by omega)).mono ?_
            rintro e y1 ⟨rfl, b1⟩
            rw [H1.out]
            go_wp2_with fail
            refine (lawIsIn_b A' c' fs k _ hd _ (RF.keep b1)).mono ?_
            rintro e y2 ⟨rfl, rfl⟩
            go_wp2_with fail
            refine (implFc_any A1 c1 M k _ (RO.keep b1) (by omega) (by omega)).mono ?_
            rintro e y3 ⟨rfl, b3⟩
            rw [H2.out]
            have hbw1 := hbw.trans ((b1.trans (b3.mono b1.size)).mono hbw.size)
            clear b1 b3 RL RF RO
            go_wp2
            go_roundw
            case rel => exact ⟨k + 1, by omega, by go_num, hbw1⟩
            case measure => simp [intOf]; omega
        · have bl := hbw
          have wr_eq : ∃ v, v = wr := ⟨_, rfl⟩
          obtain ⟨u4, hu⟩ := wr_eq
          rw [← hu] at bl ⊢
          clear hu hbw
          have B4 := B3.trans (bl.mono B3.size)
          have z4 := bl.size
          have rl_4 := rl_3.keep bl
          have rf_4 := rf_3.keep bl
          have oa_4 := oa_3.keep bl
          have ob_4 := ob_3.keep bl
          clear rl_3 rf_3 oa_3 ob_3 bl
          go_wp2
          all_goals go_returns
          all_goals exact ⟨ret_bool (by first | rfl | simp), B4⟩
    · have HK := Lib.hid hk
      rw [hk] at hI hS
      clear hk
      go_wp2_with fail
      refine (hI _ rl_0 rf_0).mono ?_
      rintro e u1 ⟨A1, c1, rfl, q1, b⟩
      have B1 := B0.trans (b.mono B0.size)
      have z1 := b.size
      have rl_1 := rl_0.keep b
      have rf_1 := rf_0.keep b
      clear rl_0 rf_0 b
      have oa_1 := q1
      clear q1
      go_wp2_with fail
      refine (hS _ rl_1 rf_1).mono ?_
      rintro e u2 ⟨A2, c2, rfl, q1, b⟩
      have B2 := B1.trans (b.mono B1.size)
      have z2 := b.size
      have rl_2 := rl_1.keep b
      have rf_2 := rf_1.keep b
      have oa_2 := oa_1.keep b
      clear rl_1 rf_1 oa_1 b
      have ob_2 := q1
      clear q1
      go_wp2_with fail
      refine (equalRefs_same A1 A2 c1 c2 M _ (oa_2.row FileRefR.enc_len) (ob_2.row FileRefR.enc_len)).mono ?_
      rintro e u3 ⟨rfl, b⟩
      have B3 := B2.trans (b.mono B2.size)
      have z3 := b.size
      have rl_3 := rl_2.keep b
      have rf_3 := rf_2.keep b
      have oa_3 := oa_2.keep b
      have ob_3 := ob_2.keep b
      clear rl_2 rf_2 oa_2 ob_2 b
      go_wp2_with fail
      refine (equalRefs_same A1 A2 c1 c2 M _ (oa_3.row FileRefR.enc_len) (ob_3.row FileRefR.enc_len)).mono ?_
      rintro e u4 ⟨rfl, b⟩
      have B4 := B3.trans (b.mono B3.size)
      have z4 := b.size
      have rl_4 := rl_3.keep b
      have rf_4 := rf_3.keep b
      have oa_4 := oa_3.keep b
      have ob_4 := ob_3.keep b
      clear rl_3 rf_3 oa_3 ob_3 b
      go_wp2
      all_goals go_returns
      all_goals exact ⟨ret_bool (by first | rfl | simp), B4⟩
  · go_enter Try.func10, Try.ntmps10
    go_wp2
    all_goals go_returns
    all_goals exact ⟨rfl, Below.refl _ _⟩
set_option maxRecDepth 100000 in
theorem lifted (os : Os) (started : os.Started) (H : Type) (enc : TypeId × Value → H) :
    ReturnsInHanded {} Try.checked os 10 .any (Rows.fnRegisterFilesCountSpec.pre6 enc Try.prog Try.f10 Rows.fnRegisterFilesCountRow.domain false) (Rows.fnRegisterFilesCountSpec.post enc Try.prog Try.f10 false true false false) := by
  refine returnsInHanded_of_change (C := Try.checked) own started (by kernel_rfl) Try.func10
    (ChangeSpec.witness6 (enc := enc) (C := Try.checked) false ⟨#[], #[.slice none 0 0], []⟩ 8 (by kernel_rfl) (by kernel_rfl) (by kernel_rfl) (by kernel_rfl)) ?_
  intro W base args ds gs before hval0 hW hcnd _
  have hval : ∀ (j : Nat) t v, Try.f10.params[j]? = some t → args[j]? = some v → Value.okWide Try.prog W .any base t v := hval0
  have hW' := hW
  obtain ⟨p, q, hA0, hV, rfl, hfz, hnd⟩ := hW
  have hA : DataW.TrodAll enc Try.prog W 0 (fun _ => true) true Try.f10.params.toList args.toList ds p := hA0
  rw [Try.params10] at hA hval
  obtain ⟨v0, vs0, d0, ds0, p0, q0, hargs, rfl, rfl, h0, r0⟩ := trodAll_cons hA
  obtain ⟨rfl, rfl, rfl⟩ := trodAll_nil r0
  obtain rfl : args = #[v0] := by cases args; simp_all
  obtain ⟨rfl, rfl⟩ := trodVars_none hV
  have k0 := h0
  have lt0 : ∀ x ∈ p0, x.block < W.heap.size := by obtain ⟨m, hm⟩ := k0; exact DataW.trod_lt m _ _ _ hm
  obtain ⟨a0, len0, cap0, rfl⟩ := okWide_slice Try.underlying39 (hval 0 39 v0 rfl rfl)
  obtain ⟨z0, w0⟩ : ∃ zs, IsRow .u8 W a0 len0 cap0 zs := by
    obtain ⟨fuel, hf⟩ := h0
    rcases open_ints Try.underlying39 Try.underlying5 (by kernel_rfl) hf with ⟨hcs, _⟩ | ⟨x, l, c, zs, hcs, _, hl, hm, hz, hx, hcell, hwz⟩
    · simp [Value.cells] at hcs
      obtain ⟨rfl, rfl, rfl⟩ := hcs
      exact ⟨[], .inl ⟨rfl, rfl, rfl, rfl⟩⟩
    · simp [Value.cells] at hcs
      obtain ⟨rfl, rfl, rfl⟩ := hcs
      exact ⟨zs, .inr ⟨_, rfl, hl, hm, by simpa using hz, hcell, hwz⟩⟩
  clear hA0 hval0
  refine (walk a0 len0 cap0 z0 W w0).mono fun e W' ⟨he, bel⟩ => ?_
  subst he
  exact ⟨_, rfl, _, _, _, [], _, [], hW', trodAll_mk1 (shut_bool Try.underlying4 _), (trodAll_cons_mk (Below.trod laidOut (by kernel_rfl) (of_decide_eq_true (by kernel_rfl)) k0 bel lt0) trodAll_mk0), rfl, bel.frame _, fun h => by cases h⟩

theorem closed : joinedFacts Try.checked.prog 10 Try.f10 Rows.fnRegisterFilesCountSpec Rows.fnRegisterFilesCountRow = true := by
  unfold joinedFacts
  rw [mayE, liftE, makeE]
  kernel_rfl

theorem over : Rows.fnRegisterFilesCountRow.holds Try.pinned (OpenSpec.ofChange Rows.fnRegisterFilesCountSpec) :=
  OpenClaim.holds_of_wide 10 Try.f10 rfl rfl rfl rfl rfl rfl rfl ⟨rfl, rfl, rfl, rfl, rfl⟩ rfl rfl rfl rfl rfl (by kernel_rfl) Try.func10 closed
    (of_decide_eq_true (by kernel_rfl)) (by unfold Func.isWrapper; first | (rw [if_pos (by decide +kernel)]; kernel_rfl) | (rw [if_neg (by decide +kernel)]; exact ⟨rfl, rfl⟩))
    (fun os started H enc _ => lifted os started H enc)

theorem proved : Rows.FnRegisterFilesCountSaid := over
#print axioms proved
end Go.Proofs.Ytjjjlpnbniofjaa.fnRegisterFilesCount
