/- The law FnClosedWindows answers true at every input and leaves its arguments as they were; no condition. -/
import Derived.Test.YtgnogkkdojagcaaRows
import Derived.WalkKit
import Derived.WalkSpells
import Derived.WalkLawsBesides
import Derived.ProofKit
import Derived.OpenShut
import Derived.ShutString
import Derived.ChangeOld
import Derived.Below
import Derived.Lib.SmallJoins
import Derived.Handy
import Derived.Test.YtgnogkkdojagcaaMay
import Derived.Test.YtgnogkkdojagcaaPlWn
namespace Go.Proofs.Ytgnogkkdojagcaa.fnClosedWindows
open Go.ChangeShapes Go.WideShapes Go.ChangeAt Go.RowKit Go.Joins
open Go.ChangeMaps (open_string shut_string)
set_option linter.unusedVariables false

theorem own : ownKnob Try.prog.godebug = none := by kernel_rfl
theorem laidOut : laidOutB Try.prog = true := by kernel_rfl
set_option maxRecDepth 100000 in
set_option maxHeartbeats 1000000 in
theorem walk (a0 : Option Addr) (len0 cap0 : Nat) (z0 : List Int) (w : World) (w0 : IsRow .u8 w a0 len0 cap0 z0) :
    Calls Try.prog 3 #[.slice a0 len0 cap0] w fun e w' => e = .returned (.bool true) ∧ Below w.heap.size w w' := by
  by_cases hlen : len0 ≤ 1048576
  · go_enter Try.func3, Try.ntmps3
    go_wp2_with fail
    refine (drawClosedWindows_any w a0 len0 cap0 z0 w0 hlen).mono ?_
    rintro e u0 ⟨A, c, l, mark, rfl, ol_0, l7, n0, n1, B0⟩
    obtain ⟨M, hM⟩ : ∃ L, L = closedF l mark := ⟨_, rfl⟩
    have hI := fun W hr => implClosed_any A c l mark W hr
    have hS := fun W hr => specClosed_any A c l mark W hr
    rw [← hM] at hI hS
    have HM := Lib.hid hM
    clear hM
    go_wp2_with fail
    refine (hI _ (ol_0.row WindowR.enc_len)).mono ?_
    rintro e u1 ⟨A1, c1, rfl, q1, b⟩
    have B1 := B0.trans (b.mono B0.size)
    have z1 := b.size
    have ol_1 := ol_0.keep b
    clear ol_0 b
    have oa_1 := q1
    clear q1
    go_wp2_with fail
    refine (hS _ (ol_1.row WindowR.enc_len)).mono ?_
    rintro e u2 ⟨A2, c2, rfl, q1, b⟩
    have B2 := B1.trans (b.mono B1.size)
    have z2 := b.size
    have ol_2 := ol_1.keep b
    have oa_2 := oa_1.keep b
    clear ol_1 oa_1 b
    have ob_2 := q1
    clear q1
    have hm41 := oa_2.1
    go_wp2_with fail
    refine (equalInts_same A1 A2 c1 c2 M _ (oa_2.row IntR.enc_len) (ob_2.row IntR.enc_len)).mono ?_
    rintro e u3 ⟨rfl, b⟩
    have B3 := B2.trans (b.mono B2.size)
    have z3 := b.size
    have ol_3 := ol_2.keep b
    have oa_3 := oa_2.keep b
    have ob_3 := ob_2.keep b
    clear ol_2 oa_2 ob_2 b
    by_cases hz : M.length = 0
    · have hd : ((M.length : Int) == 0) = true := by rw [hz]; rfl
      have HZ := Lib.hid hz
      clear hz
      go_wp2_with fail
      refine (hS _ (ol_3.row WindowR.enc_len)).mono ?_
      rintro e u4 ⟨A7, c7, rfl, q1, b⟩
      have B4 := B3.trans (b.mono B3.size)
      have z4 := b.size
      have ol_4 := ol_3.keep b
      have oa_4 := oa_3.keep b
      have ob_4 := ob_3.keep b
      clear ol_3 oa_3 ob_3 b
      have oz_4 := q1
      clear q1
      go_wp2_with fail
      refine (equalInts_same A1 A7 c1 c7 M _ (oa_4.row IntR.enc_len) (oz_4.row IntR.enc_len)).mono ?_
      rintro e u5 ⟨rfl, b⟩
      have B5 := B4.trans (b.mono B4.size)
      have z5 := b.size
      have ol_5 := ol_4.keep b
      have oa_5 := oa_4.keep b
      have ob_5 := ob_4.keep b
      have oz_5 := oz_4.keep b
      clear ol_4 oa_4 ob_4 oz_4 b
      go_wp2
      all_goals go_returns
      all_goals exact ⟨ret_bool (by first | rfl | simp), B5⟩
    · have hd : ((M.length : Int) == 0) = false := by rw [beq_eq_false_iff_ne]; omega
      have hy := closedF_yes (l := l) (mark := mark) (by rw [← HM.out]; exact hz)
      obtain ⟨hv, y0, y1⟩ := hy
      clear hz hI hS
      have hmin : ∃ m2 : Int, mark ≤ m2 ∧ m2 ≤ 1998 ∧ ((1998 < mark + 1 ∧ m2 = 1998) ∨ (mark + 1 ≤ 1998 ∧ m2 = mark + 1)) := by
        by_cases h : 1998 < mark + 1
        · exact ⟨1998, by omega, by omega, .inl ⟨h, rfl⟩⟩
        · exact ⟨mark + 1, by omega, by omega, .inr ⟨by omega, rfl⟩⟩
      obtain ⟨m2, p0, p1, p2⟩ := hmin
      have hwm : IntKind.i64.wrap (mark + 1) = mark + 1 := IntWalk.i64_in _ (by omega)
      obtain ⟨L2, hL2⟩ : ∃ L2, L2 = closedF l m2 := ⟨_, rfl⟩
      have hJ := fun W hr => implClosed_any A c l m2 W hr
      rw [← hL2] at hJ
      have Hs2 := Lib.hid (fun x (hx : x ∈ M) => show x ∈ L2 by rw [HM.out] at hx; rw [hL2]; exact closedF_sub p0 p1 hx)
      have Hs3 := Lib.hid (fun x (hx : x ∈ M) => by rw [HM.out] at hx; exact closedF_at hx)
      clear hL2 hv
      rcases p2 with ⟨p2, rfl⟩ | ⟨p2, rfl⟩
      all_goals
        go_wp2_with fail
        refine (hJ _ (ol_3.row WindowR.enc_len)).mono ?_
        rintro e u4 ⟨A3, c3, rfl, q1, b⟩
        have B4 := B3.trans (b.mono B3.size)
        have z4 := b.size
        have ol_4 := ol_3.keep b
        have oa_4 := oa_3.keep b
        have ob_4 := ob_3.keep b
        clear ol_3 oa_3 ob_3 b
        have oc_4 := q1
        clear q1
        have h2l := oc_4.1
        have RM := oa_4.row IntR.enc_len
        have R2 := oc_4.row IntR.enc_len
        have RL := ol_4.row WindowR.enc_len
        clear hJ
        go_wp2_with fail
        go_loopw [7] (fun i wr => ∃ k : Nat, k ≤ M.length ∧ i = .int .i64 k ∧ Below u4.heap.size u4 wr) (fun i _ => M.length - (intOf i).toNat)
        case atStart => exact ⟨0, Nat.zero_le _, rfl, Below.refl _ _⟩
        case round =>
          obtain ⟨k, hk, rfl, hbw⟩ := hrel
          by_cases hlt : k < M.length
          · obtain ⟨b, off, hA, hblt, q0⟩ := (RM.keep hbw).atInt hlt
            have hx2 := Hs2.out M[k] (List.getElem_mem hlt)
            obtain ⟨j, hj, hxj, hcl⟩ := Hs3.out M[k] (List.getElem_mem hlt)
            generalize M[k] = x at *
            subst hxj
            have Hd2 := Lib.hid (decide_eq_true hx2)
            obtain ⟨b', off', hA', hblt', r0, r1⟩ := (RL.keep hbw).atWindow hj
            generalize l[j] = y at *
            have i0 : (0 : Int) ≤ (k : Int) := by omega
            have i1 : (k : Int) < (M.length : Int) := by omega
            have i5 : ((k : Int)).toNat = k := by omega
            have j0 : (0 : Int) ≤ (j : Int) := by omega
            have j1 : (j : Int) < (l.length : Int) := by omega
            have j5 : ((j : Int)).toNat = j := by omega
            clear hx2
            subst hA
            subst hA'
            go_wp2_with fail
            refine (lawIsIn_b A3 c3 L2 _ true Hd2.out _ (R2.keep hbw)).mono ?_
            rintro e w5 ⟨rfl, rfl⟩
            go_wp2_with fail
            refine (implHas_f y _ (by omega) _).mono ?_
            rintro e w6 ⟨rfl, hb1⟩
            have hbw1 := hbw.trans (hb1.mono hbw.size)
            go_wp2
            go_roundw
            case rel => exact ⟨k + 1, by omega, by go_num, hbw1⟩
            case measure => simp [intOf]; omega
          · go_wp2
            all_goals go_returns
            all_goals exact ⟨ret_bool rfl, B4.trans (hbw.mono B4.size)⟩
  · go_enter Try.func3, Try.ntmps3
    go_wp2
    all_goals go_returns
    all_goals exact ⟨rfl, Below.refl _ _⟩
set_option maxRecDepth 100000 in
theorem lifted (os : Os) (started : os.Started) (H : Type) (enc : TypeId × Value → H) :
    ReturnsInHanded {} Try.checked os 3 .any (Rows.fnClosedWindowsSpec.pre6 enc Try.prog Try.f3 Rows.fnClosedWindowsRow.domain false) (Rows.fnClosedWindowsSpec.post enc Try.prog Try.f3 false true false false) := by
  refine returnsInHanded_of_change (C := Try.checked) own started (by kernel_rfl) Try.func3
    (ChangeSpec.witness6 (enc := enc) (C := Try.checked) false ⟨#[], #[.slice none 0 0], []⟩ 8 (by kernel_rfl) (by kernel_rfl) (by kernel_rfl) (by kernel_rfl)) ?_
  intro W base args ds gs before hval0 hW hcnd _
  have hval : ∀ (j : Nat) t v, Try.f3.params[j]? = some t → args[j]? = some v → Value.okWide Try.prog W .any base t v := hval0
  have hW' := hW
  obtain ⟨p, q, hA0, hV, rfl, hfz, hnd⟩ := hW
  have hA : DataW.TrodAll enc Try.prog W 0 (fun _ => true) true Try.f3.params.toList args.toList ds p := hA0
  rw [Try.params3] at hA hval
  obtain ⟨v0, vs0, d0, ds0, p0, q0, hargs, rfl, rfl, h0, r0⟩ := trodAll_cons hA
  obtain ⟨rfl, rfl, rfl⟩ := trodAll_nil r0
  obtain rfl : args = #[v0] := by cases args; simp_all
  obtain ⟨rfl, rfl⟩ := trodVars_none hV
  have k0 := h0
  have lt0 : ∀ x ∈ p0, x.block < W.heap.size := by obtain ⟨m, hm⟩ := k0; exact DataW.trod_lt m _ _ _ hm
  obtain ⟨a0, len0, cap0, rfl⟩ := okWide_slice Try.underlying22 (hval 0 22 v0 rfl rfl)
  obtain ⟨z0, w0⟩ : ∃ zs, IsRow .u8 W a0 len0 cap0 zs := by
    obtain ⟨fuel, hf⟩ := h0
    rcases open_ints Try.underlying22 Try.underlying5 (by kernel_rfl) hf with ⟨hcs, _⟩ | ⟨x, l, c, zs, hcs, _, hl, hm, hz, hx, hcell, hwz⟩
    · simp [Value.cells] at hcs
      obtain ⟨rfl, rfl, rfl⟩ := hcs
      exact ⟨[], .inl ⟨rfl, rfl, rfl, rfl⟩⟩
    · simp [Value.cells] at hcs
      obtain ⟨rfl, rfl, rfl⟩ := hcs
      exact ⟨zs, .inr ⟨_, rfl, hl, hm, by simpa using hz, hcell, hwz⟩⟩
  clear hA0 hval0
  refine (walk a0 len0 cap0 z0 W w0).mono fun e W' ⟨he, bel⟩ => ?_
  subst he
  exact ⟨_, rfl, _, _, _, [], _, [], hW', trodAll_mk1 (shut_bool Try.underlying4 _), (trodAll_cons_mk (Below.trod laidOut (by kernel_rfl) (of_decide_eq_true (by kernel_rfl)) k0 bel lt0) trodAll_mk0), rfl, bel.frame _, fun h => by cases h⟩

theorem closed : joinedFacts Try.checked.prog 3 Try.f3 Rows.fnClosedWindowsSpec Rows.fnClosedWindowsRow = true := by
  unfold joinedFacts
  rw [mayE, liftE, makeE]
  kernel_rfl

theorem over : Rows.fnClosedWindowsRow.holds Try.pinned (OpenSpec.ofChange Rows.fnClosedWindowsSpec) :=
  OpenClaim.holds_of_wide 3 Try.f3 rfl rfl rfl rfl rfl rfl rfl ⟨rfl, rfl, rfl, rfl, rfl⟩ rfl rfl rfl rfl rfl (by kernel_rfl) Try.func3 closed
    (of_decide_eq_true (by kernel_rfl)) (by unfold Func.isWrapper; first | (rw [if_pos (by decide +kernel)]; kernel_rfl) | (rw [if_neg (by decide +kernel)]; exact ⟨rfl, rfl⟩))
    (fun os started H enc _ => lifted os started H enc)

theorem proved : Rows.FnClosedWindowsSaid := over
#print axioms proved
end Go.Proofs.Ytgnogkkdojagcaa.fnClosedWindows
