/- The law FnLateEventsMarks answers true at every input and leaves its arguments as they were; no condition. -/
import Derived.Test.YtehedhkadjidpaaRows
import Derived.WalkKit
import Derived.WalkSpells
import Derived.WalkLawsBesides
import Derived.ProofKit
import Derived.OpenShut
import Derived.ShutString
import Derived.ChangeOld
import Derived.Below
import Derived.Lib.SmallJoins
import Derived.Handy
import Derived.Test.YtehedhkadjidpaaMay
import Derived.Test.YtehedhkadjidpaaLtP
namespace Go.Proofs.Ytehedhkadjidpaa.fnLateEventsMarks
open Go.ChangeShapes Go.WideShapes Go.ChangeAt Go.RowKit Go.Joins
open Go.ChangeMaps (open_string shut_string)
set_option linter.unusedVariables false

theorem own : ownKnob Try.prog.godebug = none := by kernel_rfl
theorem laidOut : laidOutB Try.prog = true := by kernel_rfl
set_option maxRecDepth 100000 in
set_option maxHeartbeats 1000000 in
theorem walk (a0 : Option Addr) (len0 cap0 : Nat) (z0 : List Int) (w : World) (w0 : IsRow .u8 w a0 len0 cap0 z0) :
    Calls Try.prog 12 #[.slice a0 len0 cap0] w fun e w' => e = .returned (.bool true) ∧ Below w.heap.size w w' := by
  by_cases hlen : len0 ≤ 1048576
  · go_enter Try.func12, Try.ntmps12
    go_wp2_with fail
    refine (drawLateEvents_any w a0 len0 cap0 z0 w0 hlen).mono ?_
    rintro e u0 ⟨A, c, l, n, rfl, ol_0, l41, n0, n1, B0⟩
    obtain ⟨M, hM⟩ : ∃ L, L = lateF l n := ⟨_, rfl⟩
    have hI := fun W hr => implLate_any A c l n W hr
    have hS := fun W hr => specLate_any A c l n W hr
    rw [← hM] at hI hS
    have HM := Lib.hid hM
    clear hM
    obtain ⟨G, hG⟩ : ∃ L, L = marksF l n := ⟨_, rfl⟩
    have hJ := fun W hr => implMarksOf_any A c l n W hr
    rw [← hG] at hJ
    have HG := Lib.hid hG
    clear hG
    go_wp2_with fail
    refine (hI _ (ol_0.row EventR.enc_len)).mono ?_
    rintro e u1 ⟨A1, c1, rfl, q1, b⟩
    have B1 := B0.trans (b.mono B0.size)
    have z1 := b.size
    have ol_1 := ol_0.keep b
    clear ol_0 b
    have oa_1 := q1
    clear q1
    go_wp2_with fail
    refine (hS _ (ol_1.row EventR.enc_len)).mono ?_
    rintro e u2 ⟨A2, c2, rfl, q1, b⟩
    have B2 := B1.trans (b.mono B1.size)
    have z2 := b.size
    have ol_2 := ol_1.keep b
    have oa_2 := oa_1.keep b
    clear ol_1 oa_1 b
    have ob_2 := q1
    clear q1
    have hm41 := oa_2.1
    go_wp2_with fail
    refine (equalInts_same A1 A2 c1 c2 M _ (oa_2.row IntR.enc_len) (ob_2.row IntR.enc_len)).mono ?_
    rintro e u3 ⟨rfl, b⟩
    have B3 := B2.trans (b.mono B2.size)
    have z3 := b.size
    have ol_3 := ol_2.keep b
    have oa_3 := oa_2.keep b
    have ob_3 := ob_2.keep b
    clear ol_2 oa_2 ob_2 b
    go_wp2_with fail
    refine (hJ _ (ol_3.row EventR.enc_len)).mono ?_
    rintro e u4 ⟨A3, c3, rfl, q1, b⟩
    have B4 := B3.trans (b.mono B3.size)
    have z4 := b.size
    have ol_4 := ol_3.keep b
    have oa_4 := oa_3.keep b
    have ob_4 := ob_3.keep b
    clear ol_3 oa_3 ob_3 b
    have oc_4 := q1
    clear q1
    have hg41 := oc_4.1
    clear hI hS hJ
    have RM := oa_4.row IntR.enc_len
    have RG := oc_4.row IntR.enc_len
    have RL := ol_4.row EventR.enc_len
    go_wp2_with fail
    go_loopw [7] (fun i wr => ∃ k : Nat, k ≤ G.length ∧ i = .int .i64 (k + 1) ∧ Below u4.heap.size u4 wr) (fun i _ => G.length + 1 - (intOf i).toNat)
    case atStart => exact ⟨0, Nat.zero_le _, rfl, Below.refl _ _⟩
    case round =>
      obtain ⟨k, hk, rfl, hbw⟩ := hrel
      by_cases hlt : k + 1 < G.length
      · have hy := marksF_yes (l := l) (b := n) (by rw [← HG.out]; omega)
        rw [← HG.out] at hy
        obtain ⟨hv, b0, b1, hGm⟩ := hy
        have hGL : G.length = l.length := by rw [hGm]; exact marksGo_len _ _ _
        have hlt2 : k + 1 < l.length := by omega
        obtain ⟨b, off, hA, hblt, q0, q1, q2⟩ := (RL.keep hbw).atEvent (i := k + 1) hlt2
        obtain ⟨bg, og, hB, hblg, r0⟩ := (RG.keep hbw).atInt (i := k) (by omega)
        have hx : l[k + 1]? = some l[k + 1] := List.getElem?_eq_getElem hlt2
        have hm := mk_at hGm (k := k) (by omega) (by omega)
        have hmem := lateF_mem hv b0 b1 hx
        rw [← hm, ← HM.out] at hmem
        obtain ⟨x0, x1, x2, x3, x4, x5⟩ := ev_bounds hv hx
        have hwm := wm_bounds (g := topT (-1) (l.take (k + 1))) b0 (top_ok hv (k + 1)).2
        rw [← hm] at hwm
        obtain ⟨g0, g1⟩ := hwm
        generalize l[k + 1]'hlt2 = x at *
        generalize G[k]'(by omega) = g at *
        have Q0 := Bw.cellOf hblt q0
        have Q1 := Bw.cellOf hblt q1
        have Q2 := Bw.cellOf hblt q2
        have R0 := Bw.cellOf hblg r0
        have i0 : (0 : Int) ≤ (k : Int) := by omega
        have i2 : (0 : Int) ≤ (k : Int) + 1 := by omega
        have i1 : ((k : Int) + 1) < (G.length : Int) := by omega
        have i1l : ((k : Int) + 1) < (l.length : Int) := by omega
        have i3 : (k : Int) < (G.length : Int) := by omega
        have i5 : ((k : Int) + 1).toNat = k + 1 := by omega
        have i6 : ((k : Int)).toNat = k := by omega
        have i7 : (k : Int) + 1 - 1 = (k : Int) := by omega
        have i8 : IntKind.i64.wrap (k : Int) = (k : Int) := IntWalk.i64_in _ (by omega)
        have RMw := RM.keep hbw
        subst hA hB
        clear q0 q1 q2 r0 hGm hGL hx hm hv
        by_cases hle : x.a0 ≤ g
        all_goals
          first | have hd : decide (((k + 1 : Nat) : Int) ∈ M) = true := decide_eq_true (hmem.2 hle) | have hd : decide (((k + 1 : Nat) : Int) ∈ M) = false := decide_eq_false (fun h => hle (hmem.1 h))
          rw [show ((k + 1 : Nat) : Int) = (k : Int) + 1 by omega] at hd
          have Hd := Lib.hid hd
          clear hd hmem
          go_wp2_with fail
        · refine wp_region_quiet_below (by kernel_rfl) (by kernel_rfl) ?_
          repeat (any_goals (go_big_quiet_step (first | (go_at_call 45; refine Calls.below_of (isLate_t x g _ x0 x1 x2 x3 x4 x5 g0 g1 (by omega))) | (go_at_call 44; refine Calls.below_same (lawIsIn_b A1 c1 M _ true Hd.out _ (RMw.keep (Bw.h _)))))))
          refine wpQuiet_nil ?_
          intro wq hbq
          have hbw1 := hbw.trans (hbq.mono hbw.size)
          clear i7 i8
          go_wp2
          go_roundw
          case rel => exact ⟨k + 1, by omega, val_int (by omega), hbw1⟩
          case measure => simp [intOf]; omega
        · refine wp_region_quiet_below (by kernel_rfl) (by kernel_rfl) ?_
          repeat (any_goals (go_big_quiet_step (first | (go_at_call 45; refine Calls.below_of (isLate_f x g _ x0 x1 x2 x3 x4 x5 g0 g1 (by omega))) | (go_at_call 44; refine Calls.below_same (lawIsIn_b A1 c1 M _ false Hd.out _ (RMw.keep (Bw.h _)))))))
          refine wpQuiet_nil ?_
          intro wq hbq
          have hbw1 := hbw.trans (hbq.mono hbw.size)
          clear i7 i8
          go_wp2
          go_roundw
          case rel => exact ⟨k + 1, by omega, val_int (by omega), hbw1⟩
          case measure => simp [intOf]; omega
      · have Hz := Lib.hid (decide_eq_false (show (0 : Int) ∉ M by rw [HM.out]; exact lateF_zero l n))
        have RMw := RM.keep hbw
        go_wp2_with fail
        refine (lawIsIn_b A1 c1 M 0 false Hz.out _ RMw).mono ?_
        rintro e w5 ⟨rfl, rfl⟩
        go_wp2
        all_goals go_returns
        all_goals exact ⟨ret_bool (by first | rfl | simp), B4.trans (hbw.mono B4.size)⟩
  · go_enter Try.func12, Try.ntmps12
    go_wp2
    all_goals go_returns
    all_goals exact ⟨rfl, Below.refl _ _⟩
set_option maxRecDepth 100000 in
theorem lifted (os : Os) (started : os.Started) (H : Type) (enc : TypeId × Value → H) :
    ReturnsInHanded {} Try.checked os 12 .any (Rows.fnLateEventsMarksSpec.pre6 enc Try.prog Try.f12 Rows.fnLateEventsMarksRow.domain false) (Rows.fnLateEventsMarksSpec.post enc Try.prog Try.f12 false true false false) := by
  refine returnsInHanded_of_change (C := Try.checked) own started (by kernel_rfl) Try.func12
    (ChangeSpec.witness6 (enc := enc) (C := Try.checked) false ⟨#[], #[.slice none 0 0], []⟩ 8 (by kernel_rfl) (by kernel_rfl) (by kernel_rfl) (by kernel_rfl)) ?_
  intro W base args ds gs before hval0 hW hcnd _
  have hval : ∀ (j : Nat) t v, Try.f12.params[j]? = some t → args[j]? = some v → Value.okWide Try.prog W .any base t v := hval0
  have hW' := hW
  obtain ⟨p, q, hA0, hV, rfl, hfz, hnd⟩ := hW
  have hA : DataW.TrodAll enc Try.prog W 0 (fun _ => true) true Try.f12.params.toList args.toList ds p := hA0
  rw [Try.params12] at hA hval
  obtain ⟨v0, vs0, d0, ds0, p0, q0, hargs, rfl, rfl, h0, r0⟩ := trodAll_cons hA
  obtain ⟨rfl, rfl, rfl⟩ := trodAll_nil r0
  obtain rfl : args = #[v0] := by cases args; simp_all
  obtain ⟨rfl, rfl⟩ := trodVars_none hV
  have k0 := h0
  have lt0 : ∀ x ∈ p0, x.block < W.heap.size := by obtain ⟨m, hm⟩ := k0; exact DataW.trod_lt m _ _ _ hm
  obtain ⟨a0, len0, cap0, rfl⟩ := okWide_slice Try.underlying30 (hval 0 30 v0 rfl rfl)
  obtain ⟨z0, w0⟩ : ∃ zs, IsRow .u8 W a0 len0 cap0 zs := by
    obtain ⟨fuel, hf⟩ := h0
    rcases open_ints Try.underlying30 Try.underlying5 (by kernel_rfl) hf with ⟨hcs, _⟩ | ⟨x, l, c, zs, hcs, _, hl, hm, hz, hx, hcell, hwz⟩
    · simp [Value.cells] at hcs
      obtain ⟨rfl, rfl, rfl⟩ := hcs
      exact ⟨[], .inl ⟨rfl, rfl, rfl, rfl⟩⟩
    · simp [Value.cells] at hcs
      obtain ⟨rfl, rfl, rfl⟩ := hcs
      exact ⟨zs, .inr ⟨_, rfl, hl, hm, by simpa using hz, hcell, hwz⟩⟩
  clear hA0 hval0
  refine (walk a0 len0 cap0 z0 W w0).mono fun e W' ⟨he, bel⟩ => ?_
  subst he
  exact ⟨_, rfl, _, _, _, [], _, [], hW', trodAll_mk1 (shut_bool Try.underlying4 _), (trodAll_cons_mk (Below.trod laidOut (by kernel_rfl) (of_decide_eq_true (by kernel_rfl)) k0 bel lt0) trodAll_mk0), rfl, bel.frame _, fun h => by cases h⟩

theorem closed : joinedFacts Try.checked.prog 12 Try.f12 Rows.fnLateEventsMarksSpec Rows.fnLateEventsMarksRow = true := by
  unfold joinedFacts
  rw [mayE, liftE, makeE]
  kernel_rfl

theorem over : Rows.fnLateEventsMarksRow.holds Try.pinned (OpenSpec.ofChange Rows.fnLateEventsMarksSpec) :=
  OpenClaim.holds_of_wide 12 Try.f12 rfl rfl rfl rfl rfl rfl rfl ⟨rfl, rfl, rfl, rfl, rfl⟩ rfl rfl rfl rfl rfl (by kernel_rfl) Try.func12 closed
    (of_decide_eq_true (by kernel_rfl)) (by unfold Func.isWrapper; first | (rw [if_pos (by decide +kernel)]; kernel_rfl) | (rw [if_neg (by decide +kernel)]; exact ⟨rfl, rfl⟩))
    (fun os started H enc _ => lifted os started H enc)

theorem proved : Rows.FnLateEventsMarksSaid := over
#print axioms proved
end Go.Proofs.Ytehedhkadjidpaa.fnLateEventsMarks
