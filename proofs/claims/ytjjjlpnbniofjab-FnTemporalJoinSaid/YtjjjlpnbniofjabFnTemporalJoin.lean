/- The law FnTemporalJoin answers true at every input and leaves its arguments as they were; no condition. -/
import Derived.Test.YtjjjlpnbniofjabRows
import Derived.WalkKit
import Derived.WalkSpells
import Derived.WalkLawsBesides
import Derived.ProofKit
import Derived.OpenShut
import Derived.ShutString
import Derived.ChangeOld
import Derived.Below
import Derived.Lib.SmallJoins
import Derived.Handy
import Derived.Test.YtjjjlpnbniofjabMay
import Derived.Test.YtjjjlpnbniofjabTjP
import Derived.Test.YtjjjlpnbniofjabMay
namespace Go.Proofs.Ytjjjlpnbniofjab.fnTemporalJoin
open Go.ChangeShapes Go.WideShapes Go.ChangeAt Go.RowKit Go.Joins
open Go.ChangeMaps (open_string shut_string)
set_option linter.unusedVariables false

theorem own : ownKnob Try.prog.godebug = none := by kernel_rfl
theorem laidOut : laidOutB Try.prog = true := by kernel_rfl
set_option maxRecDepth 100000 in
set_option maxHeartbeats 1000000 in
theorem walk (a0 : Option Addr) (len0 cap0 : Nat) (z0 : List Int) (w : World) (w0 : IsRow .u8 w a0 len0 cap0 z0) :
    Calls Try.prog 11 #[.slice a0 len0 cap0] w fun e w' => e = .returned (.bool true) ∧ Below w.heap.size w w' := by
  by_cases hlen : len0 ≤ 1048576
  · go_enter Try.func11, Try.ntmps11
    go_wp2_with fail
    refine (drawTemporalJoin_any w a0 len0 cap0 z0 w0 hlen).mono ?_
    rintro e u0 ⟨A, c, l, At, ct, t, rfl, ol_0, ot_0, l41, t40, B0⟩
    have hl41 : l.length ≤ 1048576 := by omega
    have ht41 : t.length ≤ 1048576 := by omega
    obtain ⟨N, hN⟩ : ∃ N, N = tjF l t := ⟨_, rfl⟩
    have hI := fun W hr hq => implTj_any A c l At ct t W hr hq
    have hS := fun W hr hq => specTj_any A c l At ct t W hr hq
    rw [← hN] at hI hS
    have HN := Lib.hid hN
    clear hN
    go_wp2_with fail
    refine (hI _ (ol_0.row EventR.enc_len) (ot_0.row VersionR.enc_len)).mono ?_
    rintro e u1 ⟨A1, c1, rfl, q1, b⟩
    have B1 := B0.trans (b.mono B0.size)
    have z1 := b.size
    have ol_1 := ol_0.keep b
    have ot_1 := ot_0.keep b
    clear ol_0 ot_0 b
    have oa_1 := q1
    clear q1
    have hn41 := oa_1.1
    go_wp2_with fail
    refine (hS _ (ol_1.row EventR.enc_len) (ot_1.row VersionR.enc_len)).mono ?_
    rintro e u2 ⟨A2, c2, rfl, q1, b⟩
    have B2 := B1.trans (b.mono B1.size)
    have z2 := b.size
    have ol_2 := ol_1.keep b
    have ot_2 := ot_1.keep b
    have oa_2 := oa_1.keep b
    clear ol_1 ot_1 oa_1 b
    have ob_2 := q1
    clear q1
    go_wp2_with fail
    refine (equalEvents_same A1 A2 c1 c2 N _ (oa_2.row EventR.enc_len) (ob_2.row EventR.enc_len)).mono ?_
    rintro e u3 ⟨rfl, b⟩
    have B3 := B2.trans (b.mono B2.size)
    have z3 := b.size
    have ol_3 := ol_2.keep b
    have ot_3 := ot_2.keep b
    have oa_3 := oa_2.keep b
    have ob_3 := ob_2.keep b
    clear ol_2 ot_2 oa_2 ob_2 b
    by_cases hz : N.length = 0
    · have hd : ((N.length : Int) == 0) = true := by rw [hz]; rfl
      have HZ := Lib.hid hz
      clear hz
      go_wp2_with fail
      refine (hS _ (ol_3.row EventR.enc_len) (ot_3.row VersionR.enc_len)).mono ?_
      rintro e u4 ⟨A4, c4, rfl, q1, b⟩
      have B4 := B3.trans (b.mono B3.size)
      have z4 := b.size
      have ol_4 := ol_3.keep b
      have ot_4 := ot_3.keep b
      have oa_4 := oa_3.keep b
      have ob_4 := ob_3.keep b
      clear ol_3 ot_3 oa_3 ob_3 b
      have oc_4 := q1
      clear q1
      go_wp2_with fail
      refine (equalEvents_same A1 A4 c1 c4 N _ (oa_4.row EventR.enc_len) (oc_4.row EventR.enc_len)).mono ?_
      rintro e u5 ⟨rfl, b⟩
      have B5 := B4.trans (b.mono B4.size)
      have z5 := b.size
      have ol_5 := ol_4.keep b
      have ot_5 := ot_4.keep b
      have oa_5 := oa_4.keep b
      have ob_5 := ob_4.keep b
      have oc_5 := oc_4.keep b
      clear ol_4 ot_4 oa_4 ob_4 oc_4 b
      go_wp2
      all_goals go_returns
      all_goals exact ⟨ret_bool (by first | rfl | simp), B5⟩
    · have hd : ((N.length : Int) == 0) = false := by rw [beq_eq_false_iff_ne]; omega
      have hy := tj_yes (l := l) (t := t) (by rw [← HN.out]; exact hz)
      rw [← HN.out] at hy
      obtain ⟨hv, hvt, hF⟩ := hy
      have HV := Lib.hid hv
      have HT := Lib.hid hvt
      have HF := Lib.hid hF
      clear hv hvt hF hI hS hz
      have hcap := ol_3.lenCap
      have RL := ol_3.row EventR.enc_len
      have RT := ot_3.row VersionR.enc_len
      obtain ⟨i0, hi0, hz0, hz1, hz2⟩ := info_parts EventR.zero_info
      have Hst := Lib.hid (acc_made EventR.enc 3 55 (Below.refl u3.heap.size u3))
      go_wp2_with fail
      go_loopw [6, 7] (fun v i wr => ∃ k : Nat, k ≤ l.length ∧ i = .int .i64 k ∧ Acc EventR.enc 3 55 u3 ((l.take k).filterMap (tjE t)) v wr) (fun _ i _ => l.length - (intOf i).toNat)
      case atStart => exact ⟨0, Nat.zero_le _, rfl, by simpa using Hst.out⟩
      case round =>
        clear Hst
        obtain ⟨k, hk, rfl, hacc⟩ := hrel
        have hbw := hacc.2
        have Hacc := Lib.hid hacc
        clear hacc
        by_cases hlt : k < l.length
        · obtain ⟨b, off, hAe, hblt, q0, q1, q2⟩ := (RL.keep hbw).atEvent hlt
          have hx : l[k]? = some l[k] := List.getElem?_eq_getElem hlt
          generalize l[k] = x at *
          have i0' : (0 : Int) ≤ (k : Int) := by omega
          have i1' : (k : Int) < (l.length : Int) := by omega
          have i5 : ((k : Int)).toNat = k := by omega
          have i6 : ((k : Int) + 1).toNat = k + 1 := by omega
          have i7 : (0 : Int) ≤ (k : Int) + 1 := by omega
          have i8 : (k : Int) + 1 ≤ (c : Int) := by omega
          have i9 : ((k : Int) + 1) - (k : Int) = 1 := by omega
          have hRS : Row EventR.enc 3 wr (some ⟨b, off + k * 3, none⟩) [x] := row_one RL hbw hAe hx
          have hJ := implTj_any (some ⟨b, off + k * 3, none⟩) (c - k) [x] At ct t wr hRS (RT.keep hbw)
          have hVer := fun W hr => implVer_any At ct t x.a1 x.a0 W hr
          have hle := tj_len (l := l) (t := t) k
          have hle2 := tj_len (l := l) (t := t) (k + 1)
          obtain ⟨xs, hxs⟩ : ∃ xs, xs = (l.take k).filterMap (tjE t) := ⟨_, rfl⟩
          have ha0 := Hacc.out
          rw [← hxs] at ha0 hle
          have Ha := Lib.hid ha0
          clear hRS ha0 Hacc
          rcases Bool.eq_false_or_eq_true (verK t x.a1 x.a0) with hvk | hvk
          · obtain ⟨hone, hnext⟩ := tj_one_t HV.out HT.out hx hvk
            rw [hone] at hJ
            rw [hvk] at hVer
            rw [← hxs] at hnext
            generalize verF t x.a1 x.a0 = V at *
            have hne : ∀ W, (binOp .neq 55 (.agg #[.int .i64 x.a0, .int .i64 x.a1, .int .i64 V]) (.agg #[.int .i64 x.a0, .int .i64 x.a1, .int .i64 V])).run Try.prog W = .ok (.bool false) W := fun W => by
              have h := neqEEvent_run ⟨x.a0, x.a1, V⟩ ⟨x.a0, x.a1, V⟩ W
              rwa [decide_eq_true rfl] at h
            have hJ2 : Calls Try.prog 36 #[.slice (some ⟨b, off + k * 3, none⟩) 1 (c - k), .slice At t.length ct] wr fun e w' => ∃ A8 c8, e = .returned (.slice A8 1 c8) ∧ Own EventR.enc 3 55 w' wr.heap.size (.slice A8 1 c8) [⟨x.a0, x.a1, V⟩] ∧ Below wr.heap.size wr w' := hJ
            have Hnext := Lib.hid hnext
            clear hone hnext hJ hx hvk hxs
            subst hAe
            go_wp2_with fail
            refine hJ2.mono ?_
            rintro e y1 ⟨A8, c8, rfl, o8, b8⟩
            have hbw1 := hbw.trans (b8.mono hbw.size)
            have z8 := b8.size
            have RT1 := RT.keep hbw1
            have hlt1 : b < y1.heap.size := by omega
            have Q0 := Bw.cellOf hlt1 ((b8.cell (p := ⟨b, _, none⟩) hblt).trans q0)
            have Q1 := Bw.cellOf hlt1 ((b8.cell (p := ⟨b, _, none⟩) hblt).trans q1)
            obtain ⟨g8, f8, hA8, hl8, s0, s1, s2⟩ := (o8.row EventR.enc_len).atEvent (i := 0) (by simp)
            simp only [List.getElem_cons_zero, Nat.zero_mul, Nat.add_zero] at s0 s1 s2
            have S0 := Bw.cellOf hl8 s0
            have S1 := Bw.cellOf hl8 s1
            have S2 := Bw.cellOf hl8 s2
            have Ho8 := Lib.hid (o8.row EventR.enc_len)
            clear o8 q0 q1 q2 s0 s1 s2 hJ2
            subst hA8
            go_wp2_with fail
            refine wp_region_quiet_below (by kernel_rfl) (by kernel_rfl) ?_
            repeat (any_goals (go_big_quiet_step (first | (go_at_call 32; refine Calls.below_of (hVer _ (RT1.keep (Bw.h _)))))))
            refine wpQuiet_nil ?_
            intro y2 hb2
            have P0 : ∀ p : Bw y2, _ := fun p => Q0 ⟨p.w', hb2.trans (p.h.mono hb2.size)⟩
            have P1 : ∀ p : Bw y2, _ := fun p => Q1 ⟨p.w', hb2.trans (p.h.mono hb2.size)⟩
            have T0 : ∀ p : Bw y2, _ := fun p => S0 ⟨p.w', hb2.trans (p.h.mono hb2.size)⟩
            have T1 : ∀ p : Bw y2, _ := fun p => S1 ⟨p.w', hb2.trans (p.h.mono hb2.size)⟩
            have T2 : ∀ p : Bw y2, _ := fun p => S2 ⟨p.w', hb2.trans (p.h.mono hb2.size)⟩
            have hl82 : g8 < y2.heap.size := Nat.lt_of_lt_of_le hl8 hb2.size
            have hlt2 : b < y2.heap.size := Nat.lt_of_lt_of_le hlt1 hb2.size
            clear Q0 Q1 S0 S1 S2 hVer
            go_wp2_with fail
            refine wp_region_quiet_below (by kernel_rfl) (by kernel_rfl) ?_
            repeat (any_goals (go_big_quiet_step (fail)))
            refine wpQuiet_nil ?_
            intro y3 hb3
            have b23 := hb2.trans (hb3.mono hb2.size)
            have hacc3 := acc_keep Ha.out (b8.trans (b23.mono b8.size))
            have hrow3 := Ho8.out.keep b23
            clear P0 P1 T0 T1 T2
            go_wp2_with (first | (at_builtin; refine wpList_append_row rfl _ _ 49 rfl i0 _ 24 Try.underlying49 hi0 hz0 hz1 hz2 rfl (by decide) (by decide) _ (xs) rfl hacc3 _ _ c8 ([⟨x.a0, x.a1, V⟩]) rfl rfl hrow3 EventR.enc_len ?c0 (by simp; omega) ?_) | fail)
            case c0 =>
              intro x u hu
              simp [EventR.enc] at hu
              rcases hu with rfl | rfl | rfl <;> rfl
            intro v' w6 hacc6 _ _
            rw [← Hnext.out] at hacc6
            have Hn := Lib.hid hacc6
            clear hacc6 hacc3 hrow3 Ha
            go_wp2
            go_roundw
            case rel => exact ⟨k + 1, by omega, by go_num, Hn.out⟩
            case measure => simp [intOf]; omega
          · obtain ⟨hone, hnext⟩ := tj_one_f HV.out HT.out hx hvk
            rw [hone] at hJ
            rw [hvk] at hVer
            rw [← hxs] at hnext
            generalize verF t x.a1 x.a0 = V at *
            have hJ2 : Calls Try.prog 36 #[.slice (some ⟨b, off + k * 3, none⟩) 1 (c - k), .slice At t.length ct] wr fun e w' => ∃ A8 c8, e = .returned (.slice A8 0 c8) ∧ Own EventR.enc 3 55 w' wr.heap.size (.slice A8 0 c8) [] ∧ Below wr.heap.size wr w' := hJ
            have Hnext := Lib.hid hnext
            clear hone hnext hJ hx hvk hxs
            subst hAe
            go_wp2_with fail
            refine hJ2.mono ?_
            rintro e y1 ⟨A8, c8, rfl, o8, b8⟩
            have hbw1 := hbw.trans (b8.mono hbw.size)
            have z8 := b8.size
            have RT1 := RT.keep hbw1
            have hlt1 : b < y1.heap.size := by omega
            have Q0 := Bw.cellOf hlt1 ((b8.cell (p := ⟨b, _, none⟩) hblt).trans q0)
            have Q1 := Bw.cellOf hlt1 ((b8.cell (p := ⟨b, _, none⟩) hblt).trans q1)
            have Ho8 := Lib.hid (o8.row EventR.enc_len)
            clear o8 q0 q1 q2 hJ2
            go_wp2_with fail
            refine wp_region_quiet_below (by kernel_rfl) (by kernel_rfl) ?_
            repeat (any_goals (go_big_quiet_step (first | (go_at_call 32; refine Calls.below_of (hVer _ (RT1.keep (Bw.h _)))))))
            refine wpQuiet_nil ?_
            intro y2 hb2
            clear Q0 Q1 hVer
            go_wp2_with fail
            refine wp_region_quiet_below (by kernel_rfl) (by kernel_rfl) ?_
            repeat (any_goals (go_big_quiet_step (fail)))
            refine wpQuiet_nil ?_
            intro y3 hb3
            have b23 := hb2.trans (hb3.mono hb2.size)
            have hacc3 := acc_keep Ha.out (b8.trans (b23.mono b8.size))
            have hrow3 := Ho8.out.keep b23
            go_wp2_with (first | (at_builtin; refine wpList_append_row rfl _ _ 49 rfl i0 _ 24 Try.underlying49 hi0 hz0 hz1 hz2 rfl (by decide) (by decide) _ (xs) rfl hacc3 _ _ c8 ([]) rfl rfl hrow3 EventR.enc_len ?c0 (by simp; omega) ?_) | fail)
            case c0 =>
              intro x u hu
              simp [EventR.enc] at hu
              rcases hu with rfl | rfl | rfl <;> rfl
            intro v' w6 hacc6 _ _
            rw [← Hnext.out] at hacc6
            have Hn := Lib.hid hacc6
            clear hacc6 hacc3 hrow3 Ha
            go_wp2
            go_roundw
            case rel => exact ⟨k + 1, by omega, by go_num, Hn.out⟩
            case measure => simp [intOf]; omega
        · obtain rfl : k = l.length := by omega
          have ha0 := Hacc.out
          rw [List.take_of_length_le (Nat.le_refl _), ← HF.out] at ha0
          have ho : Own EventR.enc 3 55 wr u3.heap.size _ N := ⟨by omega, ha0.1⟩
          obtain ⟨Aa, ca, hva⟩ := ho.form
          subst hva
          have RA := (oa_3.row EventR.enc_len).keep hbw
          have RO := ho.row EventR.enc_len
          clear ho ha0 Hacc
          go_wp2_with fail
          refine (equalEvents_same Aa A1 ca c1 N _ RO RA).mono ?_
          rintro e y1 ⟨rfl, b1⟩
          have BF := (B3.trans (hbw.mono B3.size)).trans (b1.mono (B3.trans (hbw.mono B3.size)).size)
          go_wp2
          all_goals go_returns
          all_goals exact ⟨rfl, BF⟩
  · go_enter Try.func11, Try.ntmps11
    go_wp2
    all_goals go_returns
    all_goals exact ⟨rfl, Below.refl _ _⟩
set_option maxRecDepth 100000 in
theorem lifted (os : Os) (started : os.Started) (H : Type) (enc : TypeId × Value → H) :
    ReturnsInHanded {} Try.checked os 11 .any (Rows.fnTemporalJoinSpec.pre6 enc Try.prog Try.f11 Rows.fnTemporalJoinRow.domain false) (Rows.fnTemporalJoinSpec.post enc Try.prog Try.f11 false true false false) := by
  refine returnsInHanded_of_change (C := Try.checked) own started (by kernel_rfl) Try.func11
    (ChangeSpec.witness6 (enc := enc) (C := Try.checked) false ⟨#[], #[.slice none 0 0], []⟩ 8 (by kernel_rfl) (by kernel_rfl) (by kernel_rfl) (by kernel_rfl)) ?_
  intro W base args ds gs before hval0 hW hcnd _
  have hval : ∀ (j : Nat) t v, Try.f11.params[j]? = some t → args[j]? = some v → Value.okWide Try.prog W .any base t v := hval0
  have hW' := hW
  obtain ⟨p, q, hA0, hV, rfl, hfz, hnd⟩ := hW
  have hA : DataW.TrodAll enc Try.prog W 0 (fun _ => true) true Try.f11.params.toList args.toList ds p := hA0
  rw [Try.params11] at hA hval
  obtain ⟨v0, vs0, d0, ds0, p0, q0, hargs, rfl, rfl, h0, r0⟩ := trodAll_cons hA
  obtain ⟨rfl, rfl, rfl⟩ := trodAll_nil r0
  obtain rfl : args = #[v0] := by cases args; simp_all
  obtain ⟨rfl, rfl⟩ := trodVars_none hV
  have k0 := h0
  have lt0 : ∀ x ∈ p0, x.block < W.heap.size := by obtain ⟨m, hm⟩ := k0; exact DataW.trod_lt m _ _ _ hm
  obtain ⟨a0, len0, cap0, rfl⟩ := okWide_slice Try.underlying22 (hval 0 22 v0 rfl rfl)
  obtain ⟨z0, w0⟩ : ∃ zs, IsRow .u8 W a0 len0 cap0 zs := by
    obtain ⟨fuel, hf⟩ := h0
    rcases open_ints Try.underlying22 Try.underlying5 (by kernel_rfl) hf with ⟨hcs, _⟩ | ⟨x, l, c, zs, hcs, _, hl, hm, hz, hx, hcell, hwz⟩
    · simp [Value.cells] at hcs
      obtain ⟨rfl, rfl, rfl⟩ := hcs
      exact ⟨[], .inl ⟨rfl, rfl, rfl, rfl⟩⟩
    · simp [Value.cells] at hcs
      obtain ⟨rfl, rfl, rfl⟩ := hcs
      exact ⟨zs, .inr ⟨_, rfl, hl, hm, by simpa using hz, hcell, hwz⟩⟩
  clear hA0 hval0
  refine (walk a0 len0 cap0 z0 W w0).mono fun e W' ⟨he, bel⟩ => ?_
  subst he
  exact ⟨_, rfl, _, _, _, [], _, [], hW', trodAll_mk1 (shut_bool Try.underlying4 _), (trodAll_cons_mk (Below.trod laidOut (by kernel_rfl) (of_decide_eq_true (by kernel_rfl)) k0 bel lt0) trodAll_mk0), rfl, bel.frame _, fun h => by cases h⟩

theorem closed : joinedFacts Try.checked.prog 11 Try.f11 Rows.fnTemporalJoinSpec Rows.fnTemporalJoinRow = true := by
  unfold joinedFacts
  rw [mayE, liftE, makeE]
  kernel_rfl

theorem over : Rows.fnTemporalJoinRow.holds Try.pinned (OpenSpec.ofChange Rows.fnTemporalJoinSpec) :=
  OpenClaim.holds_of_wide 11 Try.f11 rfl rfl rfl rfl rfl rfl rfl ⟨rfl, rfl, rfl, rfl, rfl⟩ rfl rfl rfl rfl rfl (by kernel_rfl) Try.func11 closed
    (of_decide_eq_true (by kernel_rfl)) (by unfold Func.isWrapper; first | (rw [if_pos (by decide +kernel)]; kernel_rfl) | (rw [if_neg (by decide +kernel)]; exact ⟨rfl, rfl⟩))
    (fun os started H enc _ => lifted os started H enc)

theorem proved : Rows.FnTemporalJoinSaid := over
#print axioms proved
end Go.Proofs.Ytjjjlpnbniofjab.fnTemporalJoin
