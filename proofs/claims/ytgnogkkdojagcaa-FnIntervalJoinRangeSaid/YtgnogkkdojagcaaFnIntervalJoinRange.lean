/- The law FnIntervalJoinRange answers true at every input and leaves its arguments as they were; no condition. -/
import Derived.Test.YtgnogkkdojagcaaRows
import Derived.WalkKit
import Derived.WalkSpells
import Derived.WalkLawsBesides
import Derived.ProofKit
import Derived.OpenShut
import Derived.ShutString
import Derived.ChangeOld
import Derived.Below
import Derived.Lib.SmallJoins
import Derived.Handy
import Derived.Test.YtgnogkkdojagcaaMay
import Derived.Test.YtgnogkkdojagcaaDrIj
import Derived.Test.YtgnogkkdojagcaaEqPr
import Derived.Test.YtgnogkkdojagcaaIjA
import Derived.Test.YtgnogkkdojagcaaBo
namespace Go.Proofs.Ytgnogkkdojagcaa.fnIntervalJoinRange
open Go.ChangeShapes Go.WideShapes Go.ChangeAt Go.RowKit Go.Joins
open Go.ChangeMaps (open_string shut_string)
set_option linter.unusedVariables false

theorem own : ownKnob Try.prog.godebug = none := by kernel_rfl
theorem laidOut : laidOutB Try.prog = true := by kernel_rfl
set_option maxRecDepth 100000 in
set_option maxHeartbeats 1000000 in
theorem walk (a0 : Option Addr) (len0 cap0 : Nat) (z0 : List Int) (w : World) (w0 : IsRow .u8 w a0 len0 cap0 z0) :
    Calls Try.prog 5 #[.slice a0 len0 cap0] w fun e w' => e = .returned (.bool true) ∧ Below w.heap.size w w' := by
  by_cases hlen : len0 ≤ 1048576
  · go_enter Try.func5, Try.ntmps5
    go_wp2_with fail
    refine (drawIntervalJoin_any w a0 len0 cap0 z0 w0 hlen).mono ?_
    rintro e u0 ⟨A, c, l, Ax, cx, m, low, high, rfl, ol_0, om_0, l41, m41, y0, y1, y2, y3, B0⟩
    obtain ⟨M, hM⟩ : ∃ L, L = ijF l m low high := ⟨_, rfl⟩
    have hI := fun W h1 h2 => implIj_any A c l Ax cx m low high W h1 h2
    have hS := fun W h1 h2 => specIj_any A c l Ax cx m low high W h1 h2
    rw [← hM] at hI hS
    have HM := Lib.hid hM
    clear hM
    go_wp2_with fail
    refine (hI _ (ol_0.row EventR.enc_len) (om_0.row EventR.enc_len)).mono ?_
    rintro e u1 ⟨A1, c1, rfl, q1, b⟩
    have B1 := B0.trans (b.mono B0.size)
    have z1 := b.size
    have ol_1 := ol_0.keep b
    have om_1 := om_0.keep b
    clear ol_0 om_0 b
    have oa_1 := q1
    clear q1
    go_wp2_with fail
    refine (hS _ (ol_1.row EventR.enc_len) (om_1.row EventR.enc_len)).mono ?_
    rintro e u2 ⟨A2, c2, rfl, q1, b⟩
    have B2 := B1.trans (b.mono B1.size)
    have z2 := b.size
    have ol_2 := ol_1.keep b
    have om_2 := om_1.keep b
    have oa_2 := oa_1.keep b
    clear ol_1 om_1 oa_1 b
    have ob_2 := q1
    clear q1
    go_wp2_with fail
    refine (equalPairs_same A1 A2 c1 c2 M _ (oa_2.row PairR.enc_len) (ob_2.row PairR.enc_len)).mono ?_
    rintro e u3 ⟨rfl, b⟩
    have B3 := B2.trans (b.mono B2.size)
    have z3 := b.size
    have ol_3 := ol_2.keep b
    have om_3 := om_2.keep b
    have oa_3 := oa_2.keep b
    have ob_3 := ob_2.keep b
    clear ol_2 om_2 oa_2 ob_2 b
    by_cases hz : M.length = 0
    · have hd : ((M.length : Int) == 0) = true := by rw [hz]; rfl
      have Hz := Lib.hid hz
      clear hz
      go_wp2_with fail
      refine (hS _ (ol_3.row EventR.enc_len) (om_3.row EventR.enc_len)).mono ?_
      rintro e u4 ⟨A4, c4, rfl, q1, b⟩
      have B4 := B3.trans (b.mono B3.size)
      have z4 := b.size
      have ol_4 := ol_3.keep b
      have om_4 := om_3.keep b
      have oa_4 := oa_3.keep b
      have ob_4 := ob_3.keep b
      clear ol_3 om_3 oa_3 ob_3 b
      have od_4 := q1
      clear q1
      go_wp2_with fail
      refine (equalPairs_same A1 A4 c1 c4 M _ (oa_4.row PairR.enc_len) (od_4.row PairR.enc_len)).mono ?_
      rintro e u5 ⟨rfl, b⟩
      have B5 := B4.trans (b.mono B4.size)
      have z5 := b.size
      have ol_5 := ol_4.keep b
      have om_5 := om_4.keep b
      have oa_5 := oa_4.keep b
      have ob_5 := ob_4.keep b
      have od_5 := od_4.keep b
      clear ol_4 om_4 oa_4 ob_4 od_4 b
      go_wp2
      all_goals go_returns
      all_goals exact ⟨ret_bool (by first | rfl | simp), B5⟩
    · have hd : ((M.length : Int) == 0) = false := by rw [beq_eq_false_iff_ne]; omega
      have hp := ij_yes (l := l) (r := m) (low := low) (high := high) (by rw [← HM.out]; exact hz)
      have h99 : high ≤ 999 := (of_decide_eq_true hp.2.2).2.2.2
      have hmin : ∃ h2 : Int, high ≤ h2 ∧ h2 ≤ 999 ∧ ((999 < high + 1 ∧ h2 = 999) ∨ (high + 1 ≤ 999 ∧ h2 = high + 1)) := by
        by_cases h : 999 < high + 1
        · exact ⟨999, by omega, by omega, .inl ⟨h, rfl⟩⟩
        · exact ⟨high + 1, by omega, by omega, .inr ⟨by omega, rfl⟩⟩
      obtain ⟨high2, p0, p1, p2⟩ := hmin
      have hwl : IntKind.i64.wrap (high + 1) = high + 1 := IntWalk.i64_in _ (by omega)
      obtain ⟨N, hN⟩ : ∃ N, N = ijF l m low high2 := ⟨_, rfl⟩
      have hJ := fun W h1 h2 => implIj_any A c l Ax cx m low high2 W h1 h2
      rw [← hN] at hJ
      have hMN : M.length ≤ N.length := by rw [hN, HM.out]; exact ij_wider hp p0 p1
      have Hs := Lib.hid (fun x (hx : x ∈ M) => by rw [HM.out] at hx; exact ij_x hx)
      have RM := oa_3.row PairR.enc_len
      have RL := ol_3.row EventR.enc_len
      have RR := om_3.row EventR.enc_len
      have hMl := oa_3.1
      clear hN hz hp hI hS
      go_wp2_with fail
      go_loopw [8] (fun i wr => ∃ k : Nat, k ≤ M.length ∧ i = .int .i64 k ∧ Below u3.heap.size u3 wr) (fun i _ => M.length - (intOf i).toNat)
      case atStart => exact ⟨0, Nat.zero_le _, rfl, Below.refl _ _⟩
      case round =>
        obtain ⟨k, hk, rfl, hbw⟩ := hrel
        by_cases hlt : k < M.length
        · obtain ⟨b, off, hA, hbk, q0, q1, q2, q3, q4, q5⟩ := (RM.keep hbw).atPair hlt
          obtain ⟨x1, x2, x3, x4, x5, x6, x7⟩ := Hs.out M[k] (List.getElem_mem hlt)
          generalize M[k] = x at *
          have Q0 := Bw.cellOf hbk q0
          have Q1 := Bw.cellOf hbk q1
          have Q2 := Bw.cellOf hbk q2
          have Q3 := Bw.cellOf hbk q3
          have Q4 := Bw.cellOf hbk q4
          have Q5 := Bw.cellOf hbk q5
          have i0 : (0 : Int) ≤ (k : Int) := by omega
          have i1 : (k : Int) < (M.length : Int) := by omega
          have i5 : ((k : Int)).toNat = k := by omega
          have hw2 : IntKind.i64.wrap (x.a3 - x.a0) = x.a3 - x.a0 := IntWalk.i64_in _ (by omega)
          subst hA
          clear p2
          go_wp2_with fail
          refine wp_region_quiet_below (by kernel_rfl) (by kernel_rfl) ?_
          repeat (any_goals (go_big_quiet_step (fail)))
          refine wpQuiet_nil ?_
          intro w5 hb1
          have zw := hb1.size
          have hbk2 : b < w5.heap.size := by omega
          have q1' := (hb1.cell (p := ⟨b, off + k * 6 + 1, none⟩) hbk).trans q1
          have q4' := (hb1.cell (p := ⟨b, off + k * 6 + 4, none⟩) hbk).trans q4
          clear Q0 Q1 Q2 Q3 Q4 Q5
          have Q1 := Bw.cellOf hbk2 q1'
          have Q4 := Bw.cellOf hbk2 q4'
          go_wp2_with fail
          have e1 : (x.a1 != x.a4) = false := by rw [x1]; simp
          have e2 : decide (x.a3 - x.a0 < low) = false := decide_eq_false (by omega)
          have e3 : decide (high < x.a3 - x.a0) = false := decide_eq_false (by omega)
          refine wp_region_quiet_below (by kernel_rfl) (by kernel_rfl) ?_
          repeat (any_goals (go_big_quiet_step (fail)))
          refine wpQuiet_nil ?_
          intro w6 hb2
          have hbw1 := (hbw.trans (hb1.mono hbw.size)).trans (hb2.mono (Nat.le_trans hbw.size zw))
          go_wp2
          go_roundw
          case rel => exact ⟨k + 1, by omega, by go_num, hbw1⟩
          case measure => simp [intOf]; omega
        · have RL1 := RL.keep hbw
          have RR1 := RR.keep hbw
          rcases p2 with ⟨p2, rfl⟩ | ⟨p2, rfl⟩
          all_goals
            go_wp2_with fail
            refine (hJ _ RL1 RR1).mono ?_
            rintro e w6 ⟨A3, c3, rfl, q3, b3⟩
            have hNl := q3.1
            go_wp2
            all_goals go_returns
            all_goals exact ⟨ret_bool (by first | rfl | (simp; done) | (simp; omega) | omega), B3.trans ((hbw.trans (b3.mono hbw.size)).mono B3.size)⟩
  · go_enter Try.func5, Try.ntmps5
    go_wp2
    all_goals go_returns
    all_goals exact ⟨rfl, Below.refl _ _⟩
set_option maxRecDepth 100000 in
theorem lifted (os : Os) (started : os.Started) (H : Type) (enc : TypeId × Value → H) :
    ReturnsInHanded {} Try.checked os 5 .any (Rows.fnIntervalJoinRangeSpec.pre6 enc Try.prog Try.f5 Rows.fnIntervalJoinRangeRow.domain false) (Rows.fnIntervalJoinRangeSpec.post enc Try.prog Try.f5 false true false false) := by
  refine returnsInHanded_of_change (C := Try.checked) own started (by kernel_rfl) Try.func5
    (ChangeSpec.witness6 (enc := enc) (C := Try.checked) false ⟨#[], #[.slice none 0 0], []⟩ 8 (by kernel_rfl) (by kernel_rfl) (by kernel_rfl) (by kernel_rfl)) ?_
  intro W base args ds gs before hval0 hW hcnd _
  have hval : ∀ (j : Nat) t v, Try.f5.params[j]? = some t → args[j]? = some v → Value.okWide Try.prog W .any base t v := hval0
  have hW' := hW
  obtain ⟨p, q, hA0, hV, rfl, hfz, hnd⟩ := hW
  have hA : DataW.TrodAll enc Try.prog W 0 (fun _ => true) true Try.f5.params.toList args.toList ds p := hA0
  rw [Try.params5] at hA hval
  obtain ⟨v0, vs0, d0, ds0, p0, q0, hargs, rfl, rfl, h0, r0⟩ := trodAll_cons hA
  obtain ⟨rfl, rfl, rfl⟩ := trodAll_nil r0
  obtain rfl : args = #[v0] := by cases args; simp_all
  obtain ⟨rfl, rfl⟩ := trodVars_none hV
  have k0 := h0
  have lt0 : ∀ x ∈ p0, x.block < W.heap.size := by obtain ⟨m, hm⟩ := k0; exact DataW.trod_lt m _ _ _ hm
  obtain ⟨a0, len0, cap0, rfl⟩ := okWide_slice Try.underlying22 (hval 0 22 v0 rfl rfl)
  obtain ⟨z0, w0⟩ : ∃ zs, IsRow .u8 W a0 len0 cap0 zs := by
    obtain ⟨fuel, hf⟩ := h0
    rcases open_ints Try.underlying22 Try.underlying5 (by kernel_rfl) hf with ⟨hcs, _⟩ | ⟨x, l, c, zs, hcs, _, hl, hm, hz, hx, hcell, hwz⟩
    · simp [Value.cells] at hcs
      obtain ⟨rfl, rfl, rfl⟩ := hcs
      exact ⟨[], .inl ⟨rfl, rfl, rfl, rfl⟩⟩
    · simp [Value.cells] at hcs
      obtain ⟨rfl, rfl, rfl⟩ := hcs
      exact ⟨zs, .inr ⟨_, rfl, hl, hm, by simpa using hz, hcell, hwz⟩⟩
  clear hA0 hval0
  refine (walk a0 len0 cap0 z0 W w0).mono fun e W' ⟨he, bel⟩ => ?_
  subst he
  exact ⟨_, rfl, _, _, _, [], _, [], hW', trodAll_mk1 (shut_bool Try.underlying4 _), (trodAll_cons_mk (Below.trod laidOut (by kernel_rfl) (of_decide_eq_true (by kernel_rfl)) k0 bel lt0) trodAll_mk0), rfl, bel.frame _, fun h => by cases h⟩

theorem closed : joinedFacts Try.checked.prog 5 Try.f5 Rows.fnIntervalJoinRangeSpec Rows.fnIntervalJoinRangeRow = true := by
  unfold joinedFacts
  rw [mayE, liftE, makeE]
  kernel_rfl

theorem over : Rows.fnIntervalJoinRangeRow.holds Try.pinned (OpenSpec.ofChange Rows.fnIntervalJoinRangeSpec) :=
  OpenClaim.holds_of_wide 5 Try.f5 rfl rfl rfl rfl rfl rfl rfl ⟨rfl, rfl, rfl, rfl, rfl⟩ rfl rfl rfl rfl rfl (by kernel_rfl) Try.func5 closed
    (of_decide_eq_true (by kernel_rfl)) (by unfold Func.isWrapper; first | (rw [if_pos (by decide +kernel)]; kernel_rfl) | (rw [if_neg (by decide +kernel)]; exact ⟨rfl, rfl⟩))
    (fun os started H enc _ => lifted os started H enc)

theorem proved : Rows.FnIntervalJoinRangeSaid := over
#print axioms proved
end Go.Proofs.Ytgnogkkdojagcaa.fnIntervalJoinRange
