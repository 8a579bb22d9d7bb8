/- The law FnSortEventsOrder answers true at every input and leaves its arguments as they were; no condition. -/
import Derived.Test.YtehedhkadjidpaaRows
import Derived.WalkKit
import Derived.WalkSpells
import Derived.WalkLawsBesides
import Derived.ProofKit
import Derived.OpenShut
import Derived.ShutString
import Derived.ChangeOld
import Derived.Below
import Derived.Lib.SmallJoins
import Derived.Handy
import Derived.Test.YtehedhkadjidpaaMay
import Derived.Test.YtehedhkadjidpaaEvP
namespace Go.Proofs.Ytehedhkadjidpaa.fnSortEventsOrder
open Go.ChangeShapes Go.WideShapes Go.ChangeAt Go.RowKit Go.Joins
open Go.ChangeMaps (open_string shut_string)
set_option linter.unusedVariables false

theorem own : ownKnob Try.prog.godebug = none := by kernel_rfl
theorem laidOut : laidOutB Try.prog = true := by kernel_rfl
set_option maxRecDepth 100000 in
set_option maxHeartbeats 1000000 in
theorem walk (a0 : Option Addr) (len0 cap0 : Nat) (z0 : List Int) (w : World) (w0 : IsRow .u8 w a0 len0 cap0 z0) :
    Calls Try.prog 6 #[.slice a0 len0 cap0] w fun e w' => e = .returned (.bool true) ∧ Below w.heap.size w w' := by
  by_cases hlen : len0 ≤ 1048576
  · go_enter Try.func6, Try.ntmps6
    go_wp2_with fail
    refine (drawSortEvents_any w a0 len0 cap0 z0 w0 hlen).mono ?_
    rintro e u0 ⟨A, c, l, rfl, ol_0, l41, B0⟩
    obtain ⟨M, hM⟩ : ∃ L, L = soF l := ⟨_, rfl⟩
    have hI := fun W hr => implSort_any A c l W hr
    have hS := fun W hr => specSort_any A c l W hr
    rw [← hM] at hI hS
    have HM := Lib.hid hM
    clear hM
    go_wp2_with fail
    refine (hI _ (ol_0.row EventR.enc_len)).mono ?_
    rintro e u1 ⟨A1, c1, rfl, q1, b⟩
    have B1 := B0.trans (b.mono B0.size)
    have z1 := b.size
    have ol_1 := ol_0.keep b
    clear ol_0 b
    have oa_1 := q1
    clear q1
    go_wp2_with fail
    refine (hS _ (ol_1.row EventR.enc_len)).mono ?_
    rintro e u2 ⟨A2, c2, rfl, q1, b⟩
    have B2 := B1.trans (b.mono B1.size)
    have z2 := b.size
    have ol_2 := ol_1.keep b
    have oa_2 := oa_1.keep b
    clear ol_1 oa_1 b
    have ob_2 := q1
    clear q1
    go_wp2_with fail
    refine (equalEvents_same A1 A2 c1 c2 M _ (oa_2.row EventR.enc_len) (ob_2.row EventR.enc_len)).mono ?_
    rintro e u3 ⟨rfl, b⟩
    have B3 := B2.trans (b.mono B2.size)
    have z3 := b.size
    have ol_3 := ol_2.keep b
    have oa_3 := oa_2.keep b
    have ob_3 := ob_2.keep b
    clear ol_2 oa_2 ob_2 b
    by_cases hz : M.length = 0
    · have hd : ((M.length : Int) == 0) = true := by rw [hz]; rfl
      have Hz := Lib.hid hz
      clear hz
      go_wp2_with fail
      refine (hS _ (ol_3.row EventR.enc_len)).mono ?_
      rintro e u4 ⟨A3, c3, rfl, q1, b⟩
      have B4 := B3.trans (b.mono B3.size)
      have z4 := b.size
      have ol_4 := ol_3.keep b
      have oa_4 := oa_3.keep b
      have ob_4 := ob_3.keep b
      clear ol_3 oa_3 ob_3 b
      have oc_4 := q1
      clear q1
      go_wp2_with fail
      refine (equalEvents_same A1 A3 c1 c3 M _ (oa_4.row EventR.enc_len) (oc_4.row EventR.enc_len)).mono ?_
      rintro e u5 ⟨rfl, b⟩
      have B5 := B4.trans (b.mono B4.size)
      have z5 := b.size
      have ol_5 := ol_4.keep b
      have oa_5 := oa_4.keep b
      have ob_5 := ob_4.keep b
      have oc_5 := oc_4.keep b
      clear ol_4 oa_4 ob_4 oc_4 b
      go_wp2
      all_goals go_returns
      all_goals exact ⟨ret_bool (by first | rfl | simp), B5⟩
    · have hd : ((M.length : Int) == 0) = false := by rw [beq_eq_false_iff_ne]; omega
      have hy := soF_len l (by rw [← HM.out]; exact hz)
      rw [← HM.out] at hy
      obtain ⟨hv, hMs, hML⟩ := hy
      have hpw : M.Pairwise leE := by rw [hMs]; exact srt_pw l
      have hvM : vEvs M = true := by rw [hMs, vEvs_perm (sortE_perm l)]; exact hv
      have htot : totV M = totV l := by rw [hMs]; exact totV_perm (sortE_perm l)
      have hd2 : ((M.length : Int) == (l.length : Int)) = true := by rw [beq_iff_eq]; omega
      have hm41 : M.length ≤ 41 := by omega
      obtain ⟨T, hT⟩ : ∃ T, T = totV l := ⟨_, rfl⟩
      have hT1 := fun W hr => total_any A1 c1 M W hr hvM
      have hT2 := fun W hr => total_any A c l W hr hv
      rw [htot, ← hT] at hT1
      rw [← hT] at hT2
      have Hpw := Lib.hid hpw
      have HT1 := Lib.hid hT1
      have HT2 := Lib.hid hT2
      clear hv hMs hML hpw hvM htot hT hz hI hS hT1 hT2
      have RM := oa_3.row EventR.enc_len
      go_wp2_with fail
      go_loopw [5] (fun i wr => ∃ k : Nat, k + 1 ≤ M.length ∧ i = .int .i64 (k + 1) ∧ Below u3.heap.size u3 wr) (fun i _ => M.length + 1 - (intOf i).toNat)
      case atStart => exact ⟨0, by have : ¬ M.length = 0 := by (intro e; rw [e] at hd; simp at hd)
                                   omega, rfl, Below.refl _ _⟩
      case round =>
        obtain ⟨k, hk, rfl, hbw⟩ := hrel
        by_cases hlt : k + 1 < M.length
        · obtain ⟨b, off, hA, hblt, q0, q1, q2⟩ := (RM.keep hbw).atEvent (i := k) (by omega)
          obtain ⟨b', off', hA', _, r0, r1, r2⟩ := (RM.keep hbw).atEvent hlt
          subst hA
          injection hA' with hA'
          injection hA' with e1 e2
          subst e1 e2
          have hc := asc_at Hpw.out hlt
          generalize M[k]'(by omega) = x at *
          generalize M[k + 1]'hlt = y at *
          have Q0 := Bw.cellOf hblt q0
          have Q1 := Bw.cellOf hblt q1
          have Q2 := Bw.cellOf hblt q2
          have R0 := Bw.cellOf hblt r0
          have R1 := Bw.cellOf hblt r1
          have R2 := Bw.cellOf hblt r2
          have i0 : (0 : Int) ≤ (k : Int) := by omega
          have i2 : (0 : Int) ≤ (k : Int) + 1 := by omega
          have i1 : ((k : Int) + 1) < (M.length : Int) := by omega
          have i3 : (k : Int) < (M.length : Int) := by omega
          have i4 : k < M.length := by omega
          have i5 : ((k : Int) + 1).toNat = k + 1 := by omega
          have i6 : ((k : Int)).toNat = k := by omega
          have i7 : (k : Int) + 1 - 1 = (k : Int) := by omega
          have i8 : IntKind.i64.wrap (k : Int) = (k : Int) := IntWalk.i64_in _ (by omega)
          clear q0 q1 q2 r0 r1 r2
          go_wp2_with fail
          refine wp_region_quiet_below (by kernel_rfl) (by kernel_rfl) ?_
          repeat (any_goals (go_big_quiet_step (first | (go_at_call 30; refine Calls.below_of (cmpImplE_any x y _)))))
          refine wpQuiet_nil ?_
          intro wq hbq
          have hbw1 := hbw.trans (hbq.mono hbw.size)
          clear i7 i8
          go_wp2
          go_roundw
          case rel => exact ⟨k + 1, by omega, val_int (by omega), hbw1⟩
          case measure => simp [intOf]; omega
        · clear hd
          have hlt' : ¬ ((k : Int) + 1 < (M.length : Int)) := by omega
          have bl := hbw
          have wr_eq : ∃ v, v = wr := ⟨_, rfl⟩
          obtain ⟨u4, hu⟩ := wr_eq
          rw [← hu] at bl ⊢
          clear hu hbw
          have B4 := B3.trans (bl.mono B3.size)
          have z4 := bl.size
          have ol_4 := ol_3.keep bl
          have oa_4 := oa_3.keep bl
          have ob_4 := ob_3.keep bl
          clear ol_3 oa_3 ob_3 bl
          go_wp2_with fail
          refine (HT1.out _ (oa_4.row EventR.enc_len)).mono ?_
          rintro e u5 ⟨rfl, b⟩
          have B5 := B4.trans (b.mono B4.size)
          have z5 := b.size
          have ol_5 := ol_4.keep b
          have oa_5 := oa_4.keep b
          have ob_5 := ob_4.keep b
          clear ol_4 oa_4 ob_4 b
          go_wp2_with fail
          refine (HT2.out _ (ol_5.row EventR.enc_len)).mono ?_
          rintro e u6 ⟨rfl, b⟩
          have B6 := B5.trans (b.mono B5.size)
          have z6 := b.size
          have ol_6 := ol_5.keep b
          have oa_6 := oa_5.keep b
          have ob_6 := ob_5.keep b
          clear ol_5 oa_5 ob_5 b
          go_wp2
          all_goals go_returns
          all_goals exact ⟨ret_bool (by first | rfl | simp), B6⟩
  · go_enter Try.func6, Try.ntmps6
    go_wp2
    all_goals go_returns
    all_goals exact ⟨rfl, Below.refl _ _⟩
set_option maxRecDepth 100000 in
theorem lifted (os : Os) (started : os.Started) (H : Type) (enc : TypeId × Value → H) :
    ReturnsInHanded {} Try.checked os 6 .any (Rows.fnSortEventsOrderSpec.pre6 enc Try.prog Try.f6 Rows.fnSortEventsOrderRow.domain false) (Rows.fnSortEventsOrderSpec.post enc Try.prog Try.f6 false true false false) := by
  refine returnsInHanded_of_change (C := Try.checked) own started (by kernel_rfl) Try.func6
    (ChangeSpec.witness6 (enc := enc) (C := Try.checked) false ⟨#[], #[.slice none 0 0], []⟩ 8 (by kernel_rfl) (by kernel_rfl) (by kernel_rfl) (by kernel_rfl)) ?_
  intro W base args ds gs before hval0 hW hcnd _
  have hval : ∀ (j : Nat) t v, Try.f6.params[j]? = some t → args[j]? = some v → Value.okWide Try.prog W .any base t v := hval0
  have hW' := hW
  obtain ⟨p, q, hA0, hV, rfl, hfz, hnd⟩ := hW
  have hA : DataW.TrodAll enc Try.prog W 0 (fun _ => true) true Try.f6.params.toList args.toList ds p := hA0
  rw [Try.params6] at hA hval
  obtain ⟨v0, vs0, d0, ds0, p0, q0, hargs, rfl, rfl, h0, r0⟩ := trodAll_cons hA
  obtain ⟨rfl, rfl, rfl⟩ := trodAll_nil r0
  obtain rfl : args = #[v0] := by cases args; simp_all
  obtain ⟨rfl, rfl⟩ := trodVars_none hV
  have k0 := h0
  have lt0 : ∀ x ∈ p0, x.block < W.heap.size := by obtain ⟨m, hm⟩ := k0; exact DataW.trod_lt m _ _ _ hm
  obtain ⟨a0, len0, cap0, rfl⟩ := okWide_slice Try.underlying30 (hval 0 30 v0 rfl rfl)
  obtain ⟨z0, w0⟩ : ∃ zs, IsRow .u8 W a0 len0 cap0 zs := by
    obtain ⟨fuel, hf⟩ := h0
    rcases open_ints Try.underlying30 Try.underlying5 (by kernel_rfl) hf with ⟨hcs, _⟩ | ⟨x, l, c, zs, hcs, _, hl, hm, hz, hx, hcell, hwz⟩
    · simp [Value.cells] at hcs
      obtain ⟨rfl, rfl, rfl⟩ := hcs
      exact ⟨[], .inl ⟨rfl, rfl, rfl, rfl⟩⟩
    · simp [Value.cells] at hcs
      obtain ⟨rfl, rfl, rfl⟩ := hcs
      exact ⟨zs, .inr ⟨_, rfl, hl, hm, by simpa using hz, hcell, hwz⟩⟩
  clear hA0 hval0
  refine (walk a0 len0 cap0 z0 W w0).mono fun e W' ⟨he, bel⟩ => ?_
  subst he
  exact ⟨_, rfl, _, _, _, [], _, [], hW', trodAll_mk1 (shut_bool Try.underlying4 _), (trodAll_cons_mk (Below.trod laidOut (by kernel_rfl) (of_decide_eq_true (by kernel_rfl)) k0 bel lt0) trodAll_mk0), rfl, bel.frame _, fun h => by cases h⟩

theorem closed : joinedFacts Try.checked.prog 6 Try.f6 Rows.fnSortEventsOrderSpec Rows.fnSortEventsOrderRow = true := by
  unfold joinedFacts
  rw [mayE, liftE, makeE]
  kernel_rfl

theorem over : Rows.fnSortEventsOrderRow.holds Try.pinned (OpenSpec.ofChange Rows.fnSortEventsOrderSpec) :=
  OpenClaim.holds_of_wide 6 Try.f6 rfl rfl rfl rfl rfl rfl rfl ⟨rfl, rfl, rfl, rfl, rfl⟩ rfl rfl rfl rfl rfl (by kernel_rfl) Try.func6 closed
    (of_decide_eq_true (by kernel_rfl)) (by unfold Func.isWrapper; first | (rw [if_pos (by decide +kernel)]; kernel_rfl) | (rw [if_neg (by decide +kernel)]; exact ⟨rfl, rfl⟩))
    (fun os started H enc _ => lifted os started H enc)

theorem proved : Rows.FnSortEventsOrderSaid := over
#print axioms proved
end Go.Proofs.Ytehedhkadjidpaa.fnSortEventsOrder
