/- The law FnMarksOf answers true at every input and leaves its arguments as they were; no condition. -/
import Derived.Test.YtjjjlpnbniofjabRows
import Derived.WalkKit
import Derived.WalkSpells
import Derived.WalkLawsBesides
import Derived.ProofKit
import Derived.OpenShut
import Derived.ShutString
import Derived.ChangeOld
import Derived.Below
import Derived.Lib.SmallJoins
import Derived.Handy
import Derived.Test.YtjjjlpnbniofjabMay
import Derived.Test.YtjjjlpnbniofjabMkP
import Derived.Test.YtjjjlpnbniofjabMay
namespace Go.Proofs.Ytjjjlpnbniofjab.fnMarksOf
open Go.ChangeShapes Go.WideShapes Go.ChangeAt Go.RowKit Go.Joins
open Go.ChangeMaps (open_string shut_string)
set_option linter.unusedVariables false

theorem own : ownKnob Try.prog.godebug = none := by kernel_rfl
theorem laidOut : laidOutB Try.prog = true := by kernel_rfl
set_option maxRecDepth 100000 in
set_option maxHeartbeats 1000000 in
theorem walk (a0 : Option Addr) (len0 cap0 : Nat) (z0 : List Int) (w : World) (w0 : IsRow .u8 w a0 len0 cap0 z0) :
    Calls Try.prog 14 #[.slice a0 len0 cap0] w fun e w' => e = .returned (.bool true) ∧ Below w.heap.size w w' := by
  by_cases hlen : len0 ≤ 1048576
  · go_enter Try.func14, Try.ntmps14
    go_wp2_with fail
    refine (drawMarksOf_any w a0 len0 cap0 z0 w0 hlen).mono ?_
    rintro e u0 ⟨A, c, l, n, rfl, ol_0, l41, n0, n1, B0⟩
    obtain ⟨M, hM⟩ : ∃ M, M = marksF l n := ⟨_, rfl⟩
    have hI := fun W hr => implMarksOf_any A c l n W hr
    have hS := fun W hr => specMarksOf_any A c l n W hr
    have hl41 : l.length ≤ 1048576 := by omega
    rw [← hM] at hI hS
    have HM := Lib.hid hM
    clear hM
    go_wp2_with fail
    refine (hI _ (ol_0.row EventR.enc_len)).mono ?_
    rintro e u1 ⟨A1, c1, rfl, q1, b⟩
    have B1 := B0.trans (b.mono B0.size)
    have z1 := b.size
    have ol_1 := ol_0.keep b
    clear ol_0 b
    have oa_1 := q1
    clear q1
    have hm41 := oa_1.1
    go_wp2_with fail
    refine (hS _ (ol_1.row EventR.enc_len)).mono ?_
    rintro e u2 ⟨A2, c2, rfl, q1, b⟩
    have B2 := B1.trans (b.mono B1.size)
    have z2 := b.size
    have ol_2 := ol_1.keep b
    have oa_2 := oa_1.keep b
    clear ol_1 oa_1 b
    have ob_2 := q1
    clear q1
    go_wp2_with fail
    refine (equalInts_same A1 A2 c1 c2 M _ (oa_2.row IntR.enc_len) (ob_2.row IntR.enc_len)).mono ?_
    rintro e u3 ⟨rfl, b⟩
    have B3 := B2.trans (b.mono B2.size)
    have z3 := b.size
    have ol_3 := ol_2.keep b
    have oa_3 := oa_2.keep b
    have ob_3 := ob_2.keep b
    clear ol_2 oa_2 ob_2 b
    by_cases hz : M.length = 0
    · have hd : ((M.length : Int) == 0) = true := by rw [hz]; rfl
      have HZ := Lib.hid hz
      clear hz
      go_wp2_with fail
      refine (hS _ (ol_3.row EventR.enc_len)).mono ?_
      rintro e u4 ⟨A4, c4, rfl, q1, b⟩
      have B4 := B3.trans (b.mono B3.size)
      have z4 := b.size
      have ol_4 := ol_3.keep b
      have oa_4 := oa_3.keep b
      have ob_4 := ob_3.keep b
      clear ol_3 oa_3 ob_3 b
      have oc_4 := q1
      clear q1
      go_wp2_with fail
      refine (equalInts_same A1 A4 c1 c4 M _ (oa_4.row IntR.enc_len) (oc_4.row IntR.enc_len)).mono ?_
      rintro e u5 ⟨rfl, b⟩
      have B5 := B4.trans (b.mono B4.size)
      have z5 := b.size
      have ol_5 := ol_4.keep b
      have oa_5 := oa_4.keep b
      have ob_5 := ob_4.keep b
      have oc_5 := oc_4.keep b
      clear ol_4 oa_4 ob_4 oc_4 b
      go_wp2
      all_goals go_returns
      all_goals exact ⟨ret_bool (by first | rfl | simp), B5⟩
    · have hd : ((M.length : Int) == 0) = false := by rw [beq_eq_false_iff_ne]; omega
      have hy := marksF_yes (l := l) (b := n) (by rw [← HM.out]; exact hz)
      rw [← HM.out] at hy
      obtain ⟨hv, b0, b1, hM⟩ := hy
      have hML : M.length = l.length := by rw [hM]; exact marksGo_len _ _ _
      have hMLa : M.length ≤ l.length := by omega
      have hMLb : l.length ≤ M.length := by omega
      clear hML
      have HV := Lib.hid hv
      have HG := Lib.hid hM
      clear hv hM hI hS
      have RL := ol_3.row EventR.enc_len
      have RM := oa_3.row IntR.enc_len
      obtain ⟨b, off, hAe, hblt, q0, -, -⟩ := RL.atEvent (i := 0) (by omega)
      have hx0 : l[0]? = some (l[0]'(by omega)) := List.getElem?_eq_getElem (by omega)
      have ht1 := top_one HV.out hx0
      rw [← ht1] at q0
      simp only [Nat.zero_mul, Nat.add_zero] at q0
      have Ht := Lib.hid ht1
      clear ht1 hx0
      generalize hgT : topT (-1) (l.take 1) = g at *
      have HgT := Lib.hid hgT
      clear hgT
      have hlp : (0 : Int) < (l.length : Int) := by omega
      subst hAe
      go_wp2_with fail
      go_loopw [6, 7] (fun m i wr => ∃ k : Nat, k + 1 ≤ M.length ∧ i = .int .i64 (k + 1) ∧ m = .int .i64 (topT (-1) (l.take (k + 1))) ∧ Below u3.heap.size u3 wr) (fun _ i _ => M.length + 1 - (intOf i).toNat)
      case atStart => exact ⟨0, by omega, rfl, by rw [HgT.out], Below.refl _ _⟩
      case round =>
        obtain ⟨k, hk, rfl, rfl, hbw⟩ := hrel
        clear Ht q0
        obtain ⟨t0, t1⟩ := top_ok HV.out (k + 1)
        have i0 : (0 : Int) ≤ (k : Int) := by omega
        have i2 : (0 : Int) ≤ (k : Int) + 1 := by omega
        have i3 : (k : Int) < (M.length : Int) := by omega
        have i5 : ((k : Int) + 1).toNat = k + 1 := by omega
        have i6 : ((k : Int)).toNat = k := by omega
        by_cases hlt : k + 1 < M.length
        · have i1 : ((k : Int) + 1) < (M.length : Int) := by omega
          have i1l : ((k : Int) + 1) < (l.length : Int) := by omega
          obtain ⟨be, offe, hE, hle, e0, -, -⟩ := (RL.keep hbw).atEvent (i := k + 1) (by omega)
          obtain ⟨bm, offm, hA, hlm, q0⟩ := (RM.keep hbw).atInt (i := k) (by omega)
          obtain ⟨bm', offm', hA', _, r0⟩ := (RM.keep hbw).atInt (i := k + 1) (by omega)
          subst hA
          injection hA' with hA'
          injection hA' with e1 e2
          subst e1 e2
          injection hE with hE
          injection hE with e1 e2
          subst e1 e2
          have hx : l[k + 1]? = some (l[k + 1]'(by omega)) := List.getElem?_eq_getElem (by omega)
          have tn := top_next hx
          have hm1 := mk_at HG.out (k := k) (by omega) (by omega)
          have hm2 := mk_at HG.out (k := k + 1) (by omega) (by omega)
          have hlow : decide (M[k + 1]'(by omega) < M[k]'(by omega)) = false := decide_eq_false (by rw [hm1, hm2, tn]; have := wm_mono (b := n) (mx_ge (topT (-1) (l.take (k + 1))) (l[k + 1]'(by omega)).a0); omega)
          clear hm1 hm2
          generalize M[k + 1]'(by omega) = p2 at *
          generalize M[k]'(by omega) = p1 at *
          generalize l[k + 1]'(by omega) = x at *
          generalize topT (-1) (l.take (k + 1)) = g2 at *
          have Htn := Lib.hid tn
          have Q0 := Bw.cellOf hlm q0
          have R0 := Bw.cellOf hlm r0
          clear hx tn
          by_cases hmx : g2 < x.a0
          · have hm : mx g2 x.a0 = x.a0 := by unfold mx; rw [if_pos hmx]
            rw [hm] at Htn
            clear hm
            go_wp2_with fail
            refine wp_region_quiet_below (by kernel_rfl) (by kernel_rfl) ?_
            repeat (any_goals (go_big_quiet_step (fail)))
            refine wpQuiet_nil ?_
            intro wq hbq
            have Bq := hbw.trans (hbq.mono hbw.size)
            go_wp2
            go_roundw
            case rel => exact ⟨k + 1, by omega, by go_num, by rw [Htn.out], Bq⟩
            case measure => simp [intOf]; omega
          · have hm : mx g2 x.a0 = g2 := by unfold mx; rw [if_neg hmx]
            rw [hm] at Htn
            clear hm
            go_wp2_with fail
            refine wp_region_quiet_below (by kernel_rfl) (by kernel_rfl) ?_
            repeat (any_goals (go_big_quiet_step (fail)))
            refine wpQuiet_nil ?_
            intro wq hbq
            have Bq := hbw.trans (hbq.mono hbw.size)
            go_wp2
            go_roundw
            case rel => exact ⟨k + 1, by omega, by go_num, by rw [Htn.out], Bq⟩
            case measure => simp [intOf]; omega
        · have hke : k + 1 = M.length := by omega
          obtain ⟨bm, offm, hA, hlm, q0⟩ := (RM.keep hbw).atInt (i := k) (by omega)
          have hm1 := mk_at HG.out (k := k) (by omega) (by omega)
          have hmt := mt_wm b0 b1 t0 t1
          generalize M[k]'(by omega) = p1 at *
          generalize topT (-1) (l.take (k + 1)) = g2 at *
          have hlast : (p1 == mtV n g2) = true := by rw [hmt, hm1]; simp
          have hne : ((M.length : Int) == (l.length : Int)) = true := by rw [beq_iff_eq]; omega
          have hw : (M.length : Int) - 1 = (k : Int) := by omega
          have Q0 := Bw.cellOf hlm q0
          have hMT := fun W => markTimeI_any n g2 W (by omega) (by omega) (by omega) (by omega)
          have BF := B3.trans (hbw.mono B3.size)
          subst hA
          clear hm1 hmt
          go_wp2_with fail
          refine wp_region_quiet_below (by kernel_rfl) (by kernel_rfl) ?_
          repeat (any_goals (go_big_quiet_step (first | (go_at_call 50; refine Calls.below_of (hMT _)))))
          refine wpQuiet_nil ?_
          intro wq hbq
          have BQ := BF.trans (hbq.mono BF.size)
          go_wp2
          all_goals go_returns
          all_goals exact ⟨ret_bool (by first | rfl | simp [*]), BQ⟩
  · go_enter Try.func14, Try.ntmps14
    go_wp2
    all_goals go_returns
    all_goals exact ⟨rfl, Below.refl _ _⟩
set_option maxRecDepth 100000 in
theorem lifted (os : Os) (started : os.Started) (H : Type) (enc : TypeId × Value → H) :
    ReturnsInHanded {} Try.checked os 14 .any (Rows.fnMarksOfSpec.pre6 enc Try.prog Try.f14 Rows.fnMarksOfRow.domain false) (Rows.fnMarksOfSpec.post enc Try.prog Try.f14 false true false false) := by
  refine returnsInHanded_of_change (C := Try.checked) own started (by kernel_rfl) Try.func14
    (ChangeSpec.witness6 (enc := enc) (C := Try.checked) false ⟨#[], #[.slice none 0 0], []⟩ 8 (by kernel_rfl) (by kernel_rfl) (by kernel_rfl) (by kernel_rfl)) ?_
  intro W base args ds gs before hval0 hW hcnd _
  have hval : ∀ (j : Nat) t v, Try.f14.params[j]? = some t → args[j]? = some v → Value.okWide Try.prog W .any base t v := hval0
  have hW' := hW
  obtain ⟨p, q, hA0, hV, rfl, hfz, hnd⟩ := hW
  have hA : DataW.TrodAll enc Try.prog W 0 (fun _ => true) true Try.f14.params.toList args.toList ds p := hA0
  rw [Try.params14] at hA hval
  obtain ⟨v0, vs0, d0, ds0, p0, q0, hargs, rfl, rfl, h0, r0⟩ := trodAll_cons hA
  obtain ⟨rfl, rfl, rfl⟩ := trodAll_nil r0
  obtain rfl : args = #[v0] := by cases args; simp_all
  obtain ⟨rfl, rfl⟩ := trodVars_none hV
  have k0 := h0
  have lt0 : ∀ x ∈ p0, x.block < W.heap.size := by obtain ⟨m, hm⟩ := k0; exact DataW.trod_lt m _ _ _ hm
  obtain ⟨a0, len0, cap0, rfl⟩ := okWide_slice Try.underlying22 (hval 0 22 v0 rfl rfl)
  obtain ⟨z0, w0⟩ : ∃ zs, IsRow .u8 W a0 len0 cap0 zs := by
    obtain ⟨fuel, hf⟩ := h0
    rcases open_ints Try.underlying22 Try.underlying5 (by kernel_rfl) hf with ⟨hcs, _⟩ | ⟨x, l, c, zs, hcs, _, hl, hm, hz, hx, hcell, hwz⟩
    · simp [Value.cells] at hcs
      obtain ⟨rfl, rfl, rfl⟩ := hcs
      exact ⟨[], .inl ⟨rfl, rfl, rfl, rfl⟩⟩
    · simp [Value.cells] at hcs
      obtain ⟨rfl, rfl, rfl⟩ := hcs
      exact ⟨zs, .inr ⟨_, rfl, hl, hm, by simpa using hz, hcell, hwz⟩⟩
  clear hA0 hval0
  refine (walk a0 len0 cap0 z0 W w0).mono fun e W' ⟨he, bel⟩ => ?_
  subst he
  exact ⟨_, rfl, _, _, _, [], _, [], hW', trodAll_mk1 (shut_bool Try.underlying4 _), (trodAll_cons_mk (Below.trod laidOut (by kernel_rfl) (of_decide_eq_true (by kernel_rfl)) k0 bel lt0) trodAll_mk0), rfl, bel.frame _, fun h => by cases h⟩

theorem closed : joinedFacts Try.checked.prog 14 Try.f14 Rows.fnMarksOfSpec Rows.fnMarksOfRow = true := by
  unfold joinedFacts
  rw [mayE, liftE, makeE]
  kernel_rfl

theorem over : Rows.fnMarksOfRow.holds Try.pinned (OpenSpec.ofChange Rows.fnMarksOfSpec) :=
  OpenClaim.holds_of_wide 14 Try.f14 rfl rfl rfl rfl rfl rfl rfl ⟨rfl, rfl, rfl, rfl, rfl⟩ rfl rfl rfl rfl rfl (by kernel_rfl) Try.func14 closed
    (of_decide_eq_true (by kernel_rfl)) (by unfold Func.isWrapper; first | (rw [if_pos (by decide +kernel)]; kernel_rfl) | (rw [if_neg (by decide +kernel)]; exact ⟨rfl, rfl⟩))
    (fun os started H enc _ => lifted os started H enc)

theorem proved : Rows.FnMarksOfSaid := over
#print axioms proved
end Go.Proofs.Ytjjjlpnbniofjab.fnMarksOf
