/- The law FnAddTimer answers true at every input and leaves its arguments as they were; no condition. -/
import Derived.Test.YtjjjlpnbniofjabRows
import Derived.WalkKit
import Derived.WalkSpells
import Derived.WalkLawsBesides
import Derived.ProofKit
import Derived.OpenShut
import Derived.ShutString
import Derived.ChangeOld
import Derived.Below
import Derived.Lib.SmallJoins
import Derived.Handy
import Derived.Test.YtjjjlpnbniofjabMay
import Derived.Test.YtjjjlpnbniofjabTmP
namespace Go.Proofs.Ytjjjlpnbniofjab.fnAddTimer
open Go.ChangeShapes Go.WideShapes Go.ChangeAt Go.RowKit Go.Joins
open Go.ChangeMaps (open_string shut_string)
set_option linter.unusedVariables false

theorem own : ownKnob Try.prog.godebug = none := by kernel_rfl
theorem laidOut : laidOutB Try.prog = true := by kernel_rfl
set_option maxRecDepth 100000 in
set_option maxHeartbeats 1000000 in
theorem walk (a0 : Option Addr) (len0 cap0 : Nat) (z0 : List Int) (w : World) (w0 : IsRow .u8 w a0 len0 cap0 z0) :
    Calls Try.prog 3 #[.slice a0 len0 cap0] w fun e w' => e = .returned (.bool true) ∧ Below w.heap.size w w' := by
  by_cases hlen : len0 ≤ 1048576
  · go_enter Try.func3, Try.ntmps3
    go_wp2_with fail
    refine (drawAddTimer_any w a0 len0 cap0 z0 w0 hlen).mono ?_
    rintro e u0 ⟨A, c, l, x, rfl, ol_0, l20, B0⟩
    obtain ⟨L1, hL1⟩ : ∃ L, L = addF l x := ⟨_, rfl⟩
    have HL1 := Lib.hid hL1
    have hI := fun W hr hc => implAdd_any A c l x W hr hc
    have hS := fun W hr => specAdd_any A c l x W hr
    rw [← hL1] at hI hS
    clear hL1
    have hl40 : l.length ≤ 1048576 := by omega
    have bv : Below u0.heap.size u0 (u0.alloc (.cells #[.int .i64 x.a0, .int .i64 x.a1, .int .i64 x.a2] 25)) := (Below.refl _ _).alloc (Nat.le_refl _) _
    have nb := Bo.made u0 #[.int .i64 x.a0, .int .i64 x.a1, .int .i64 x.a2] 25
    have zgC : u0.heap.size < (u0.alloc (.cells #[.int .i64 x.a0, .int .i64 x.a1, .int .i64 x.a2] 25)).heap.size := by simp
    have B1 := B0.trans (bv.mono B0.size)
    have z1 := bv.size
    have ol_1 := ol_0.keep bv
    clear ol_0 bv
    have C_1 := nb
    clear nb
    go_wp2_with fail
    generalize (u0.alloc (.cells #[.int .i64 x.a0, .int .i64 x.a1, .int .i64 x.a2] 25)) = u1 at *
    rcases Bool.eq_false_or_eq_true (addK l x) with hk | hk
    · have HK := Lib.hid hk
      rw [hk] at hI hS
      clear hk
      have pC0 := C_1.1 0 _ rfl
      have pC1 := C_1.1 1 _ rfl
      have pC2 := C_1.1 2 _ rfl
      have plC := C_1.2
      go_wp2_with fail
      clear pC0 pC1 pC2 plC
      refine (hI _ (ol_1.row TimerR.enc_len) ol_1.lenCap).mono ?_
      rintro e u2 ⟨A1, c1, rfl, q1, b⟩
      have B2 := B1.trans (b.mono B1.size)
      have z2 := b.size
      have C_2 := C_1.keep b
      have ol_2 := ol_1.keep b
      clear C_1 ol_1 b
      have oa_2 := q1
      clear q1
      have pC0 := C_2.1 0 _ rfl
      have pC1 := C_2.1 1 _ rfl
      have pC2 := C_2.1 2 _ rfl
      have plC := C_2.2
      go_wp2_with fail
      clear pC0 pC1 pC2 plC
      refine (hS _ (ol_2.row TimerR.enc_len)).mono ?_
      rintro e u3 ⟨A2, c2, rfl, q1, b⟩
      have B3 := B2.trans (b.mono B2.size)
      have z3 := b.size
      have C_3 := C_2.keep b
      have ol_3 := ol_2.keep b
      have oa_3 := oa_2.keep b
      clear C_2 ol_2 oa_2 b
      have ob_3 := q1
      clear q1
      go_wp2_with fail
      refine (equalTimers_same A1 A2 c1 c2 L1 _ (oa_3.row TimerR.enc_len) (ob_3.row TimerR.enc_len)).mono ?_
      rintro e u4 ⟨rfl, b⟩
      have B4 := B3.trans (b.mono B3.size)
      have z4 := b.size
      have C_4 := C_3.keep b
      have ol_4 := ol_3.keep b
      have oa_4 := oa_3.keep b
      have ob_4 := ob_3.keep b
      clear C_3 ol_3 oa_3 ob_3 b
      have hok := addF_ok HK.out
      rw [← HL1.out] at hok
      have hJ := fun W hr hc => implAdd_any A1 c1 L1 x W hr hc
      rw [hok.2.2.2.1, hok.2.2.2.2] at hJ
      have hone := cntT_one (tm_pw hok.2.1) hok.2.2.1
      have Hone := Lib.hid hone
      clear hok hone
      have pC0 := C_4.1 0 _ rfl
      have pC1 := C_4.1 1 _ rfl
      have pC2 := C_4.1 2 _ rfl
      have plC := C_4.2
      go_wp2_with fail
      clear pC0 pC1 pC2 plC
      refine (hJ _ (oa_4.row TimerR.enc_len) oa_4.lenCap).mono ?_
      rintro e u5 ⟨A3, c3, rfl, q1, b⟩
      have B5 := B4.trans (b.mono B4.size)
      have z5 := b.size
      have C_5 := C_4.keep b
      have ol_5 := ol_4.keep b
      have oa_5 := oa_4.keep b
      have ob_5 := ob_4.keep b
      clear C_4 ol_4 oa_4 ob_4 b
      have oc_5 := q1
      clear q1
      have h20 : L1.length ≤ 1048576 := oc_5.1
      go_wp2_with fail
      have ra := (oa_5.row TimerR.enc_len)
      go_loopw [11, 12] (fun n i wr => ∃ k : Nat, k ≤ L1.length ∧ i = .int .i64 k ∧ n = .int .i64 (cntT x (L1.take k) : Nat) ∧ Below u5.heap.size u5 wr) (fun _ i _ => L1.length - (intOf i).toNat)
      case atStart => exact ⟨0, Nat.zero_le _, rfl, by simp [cntT], Below.refl _ _⟩
      case round =>
        obtain ⟨k, hk, rfl, rfl, hbw⟩ := hrel
        by_cases hlt : k < L1.length
        · obtain ⟨b, off, rfl, hblt, q0, q1, q2⟩ := (ra.keep hbw).atTimer hlt
          have hx : L1[k]? = some L1[k] := List.getElem?_eq_getElem hlt
          generalize L1[k] = y at *
          have hcn := cntT_next (t := x) hx
          have hcb : cntT x (L1.take k) ≤ L1.length := Nat.le_trans (List.length_filter_le _ _) (List.length_take_le' _ _)
          have Hcn := Lib.hid hcn
          clear hx hcn
          have heq := fun W => eqlTm_run y x W
          have C2 := C_5.keep hbw
          have pC0 := C2.1 0 _ rfl
          have pC1 := C2.1 1 _ rfl
          have pC2 := C2.1 2 _ rfl
          have Q0 := Bw.cellOf hblt q0
          have Q1 := Bw.cellOf hblt q1
          have Q2 := Bw.cellOf hblt q2
          have R0 := Bw.cellOf C2.2 pC0
          have R1 := Bw.cellOf C2.2 pC1
          have R2 := Bw.cellOf C2.2 pC2
          have i0 : (0 : Int) ≤ (k : Int) := by omega
          have i1 : (k : Int) < (L1.length : Int) := by omega
          have i5 : ((k : Int)).toNat = k := by omega
          generalize cntT x (L1.take k) = N at *
          rcases Classical.em (y = x) with he | he
          all_goals
            first | have hd : decide (y = x) = true := decide_eq_true he | have hd : decide (y = x) = false := decide_eq_false he
            have Hn := Lib.hid (show cntT x (L1.take (k + 1)) = N + (if y = x then 1 else 0) from Hcn.out)
            first | rw [if_pos he] at Hn | rw [if_neg he] at Hn
            clear he
            go_wp2_with fail
            refine wp_region_quiet_below (by kernel_rfl) (by kernel_rfl) ?_
            repeat (any_goals (go_big_quiet_step (fail)))
            refine wpQuiet_nil ?_
            intro wq hbq
            have hbw1 := hbw.trans (hbq.mono hbw.size)
            go_wp2
            go_roundw
            case rel => exact ⟨k + 1, by omega, by go_num, val_int (by rw [Hn.out]; push_cast; try omega), hbw1⟩
            case measure => simp [intOf]; omega
        · have hkl : L1.take k = L1 := List.take_of_length_le (by omega)
          have hone : cntT x (L1.take k) = 1 := by rw [hkl]; exact Hone.out
          rw [hone]
          clear hkl hone
          have bl := hbw
          have wr_eq : ∃ v, v = wr := ⟨_, rfl⟩
          obtain ⟨u6, hu⟩ := wr_eq
          rw [← hu] at bl ⊢
          clear hu hbw
          have B6 := B5.trans (bl.mono B5.size)
          have z6 := bl.size
          have C_6 := C_5.keep bl
          have ol_6 := ol_5.keep bl
          have oa_6 := oa_5.keep bl
          have ob_6 := ob_5.keep bl
          have oc_6 := oc_5.keep bl
          clear C_5 ol_5 oa_5 ob_5 oc_5 bl
          go_wp2_with fail
          refine (equalTimers_same A3 A1 c3 c1 L1 _ (oc_6.row TimerR.enc_len) (oa_6.row TimerR.enc_len)).mono ?_
          rintro e u7 ⟨rfl, b⟩
          have B7 := B6.trans (b.mono B6.size)
          have z7 := b.size
          have C_7 := C_6.keep b
          have ol_7 := ol_6.keep b
          have oa_7 := oa_6.keep b
          have ob_7 := ob_6.keep b
          have oc_7 := oc_6.keep b
          clear C_6 ol_6 oa_6 ob_6 oc_6 b
          go_wp2
          all_goals go_returns
          all_goals exact ⟨ret_bool (by first | rfl | simp), B7⟩
    · have HK := Lib.hid hk
      rw [hk] at hI hS
      clear hk
      have pC0 := C_1.1 0 _ rfl
      have pC1 := C_1.1 1 _ rfl
      have pC2 := C_1.1 2 _ rfl
      have plC := C_1.2
      go_wp2_with fail
      clear pC0 pC1 pC2 plC
      refine (hI _ (ol_1.row TimerR.enc_len) ol_1.lenCap).mono ?_
      rintro e u2 ⟨A1, c1, rfl, q1, b⟩
      have B2 := B1.trans (b.mono B1.size)
      have z2 := b.size
      have C_2 := C_1.keep b
      have ol_2 := ol_1.keep b
      clear C_1 ol_1 b
      have oa_2 := q1
      clear q1
      have pC0 := C_2.1 0 _ rfl
      have pC1 := C_2.1 1 _ rfl
      have pC2 := C_2.1 2 _ rfl
      have plC := C_2.2
      go_wp2_with fail
      clear pC0 pC1 pC2 plC
      refine (hS _ (ol_2.row TimerR.enc_len)).mono ?_
      rintro e u3 ⟨A2, c2, rfl, q1, b⟩
      have B3 := B2.trans (b.mono B2.size)
      have z3 := b.size
      have C_3 := C_2.keep b
      have ol_3 := ol_2.keep b
      have oa_3 := oa_2.keep b
      clear C_2 ol_2 oa_2 b
      have ob_3 := q1
      clear q1
      go_wp2_with fail
      refine (equalTimers_same A1 A2 c1 c2 L1 _ (oa_3.row TimerR.enc_len) (ob_3.row TimerR.enc_len)).mono ?_
      rintro e u4 ⟨rfl, b⟩
      have B4 := B3.trans (b.mono B3.size)
      have z4 := b.size
      have C_4 := C_3.keep b
      have ol_4 := ol_3.keep b
      have oa_4 := oa_3.keep b
      have ob_4 := ob_3.keep b
      clear C_3 ol_3 oa_3 ob_3 b
      go_wp2_with fail
      refine (equalTimers_same A1 A2 c1 c2 L1 _ (oa_4.row TimerR.enc_len) (ob_4.row TimerR.enc_len)).mono ?_
      rintro e u5 ⟨rfl, b⟩
      have B5 := B4.trans (b.mono B4.size)
      have z5 := b.size
      have C_5 := C_4.keep b
      have ol_5 := ol_4.keep b
      have oa_5 := oa_4.keep b
      have ob_5 := ob_4.keep b
      clear C_4 ol_4 oa_4 ob_4 b
      go_wp2
      all_goals go_returns
      all_goals exact ⟨ret_bool (by first | rfl | simp), B5⟩
  · go_enter Try.func3, Try.ntmps3
    go_wp2
    all_goals go_returns
    all_goals exact ⟨rfl, Below.refl _ _⟩
set_option maxRecDepth 100000 in
theorem lifted (os : Os) (started : os.Started) (H : Type) (enc : TypeId × Value → H) :
    ReturnsInHanded {} Try.checked os 3 .any (Rows.fnAddTimerSpec.pre6 enc Try.prog Try.f3 Rows.fnAddTimerRow.domain false) (Rows.fnAddTimerSpec.post enc Try.prog Try.f3 false true false false) := by
  refine returnsInHanded_of_change (C := Try.checked) own started (by kernel_rfl) Try.func3
    (ChangeSpec.witness6 (enc := enc) (C := Try.checked) false ⟨#[], #[.slice none 0 0], []⟩ 8 (by kernel_rfl) (by kernel_rfl) (by kernel_rfl) (by kernel_rfl)) ?_
  intro W base args ds gs before hval0 hW hcnd _
  have hval : ∀ (j : Nat) t v, Try.f3.params[j]? = some t → args[j]? = some v → Value.okWide Try.prog W .any base t v := hval0
  have hW' := hW
  obtain ⟨p, q, hA0, hV, rfl, hfz, hnd⟩ := hW
  have hA : DataW.TrodAll enc Try.prog W 0 (fun _ => true) true Try.f3.params.toList args.toList ds p := hA0
  rw [Try.params3] at hA hval
  obtain ⟨v0, vs0, d0, ds0, p0, q0, hargs, rfl, rfl, h0, r0⟩ := trodAll_cons hA
  obtain ⟨rfl, rfl, rfl⟩ := trodAll_nil r0
  obtain rfl : args = #[v0] := by cases args; simp_all
  obtain ⟨rfl, rfl⟩ := trodVars_none hV
  have k0 := h0
  have lt0 : ∀ x ∈ p0, x.block < W.heap.size := by obtain ⟨m, hm⟩ := k0; exact DataW.trod_lt m _ _ _ hm
  obtain ⟨a0, len0, cap0, rfl⟩ := okWide_slice Try.underlying22 (hval 0 22 v0 rfl rfl)
  obtain ⟨z0, w0⟩ : ∃ zs, IsRow .u8 W a0 len0 cap0 zs := by
    obtain ⟨fuel, hf⟩ := h0
    rcases open_ints Try.underlying22 Try.underlying5 (by kernel_rfl) hf with ⟨hcs, _⟩ | ⟨x, l, c, zs, hcs, _, hl, hm, hz, hx, hcell, hwz⟩
    · simp [Value.cells] at hcs
      obtain ⟨rfl, rfl, rfl⟩ := hcs
      exact ⟨[], .inl ⟨rfl, rfl, rfl, rfl⟩⟩
    · simp [Value.cells] at hcs
      obtain ⟨rfl, rfl, rfl⟩ := hcs
      exact ⟨zs, .inr ⟨_, rfl, hl, hm, by simpa using hz, hcell, hwz⟩⟩
  clear hA0 hval0
  refine (walk a0 len0 cap0 z0 W w0).mono fun e W' ⟨he, bel⟩ => ?_
  subst he
  exact ⟨_, rfl, _, _, _, [], _, [], hW', trodAll_mk1 (shut_bool Try.underlying4 _), (trodAll_cons_mk (Below.trod laidOut (by kernel_rfl) (of_decide_eq_true (by kernel_rfl)) k0 bel lt0) trodAll_mk0), rfl, bel.frame _, fun h => by cases h⟩

theorem closed : joinedFacts Try.checked.prog 3 Try.f3 Rows.fnAddTimerSpec Rows.fnAddTimerRow = true := by
  unfold joinedFacts
  rw [mayE, liftE, makeE]
  kernel_rfl

theorem over : Rows.fnAddTimerRow.holds Try.pinned (OpenSpec.ofChange Rows.fnAddTimerSpec) :=
  OpenClaim.holds_of_wide 3 Try.f3 rfl rfl rfl rfl rfl rfl rfl ⟨rfl, rfl, rfl, rfl, rfl⟩ rfl rfl rfl rfl rfl (by kernel_rfl) Try.func3 closed
    (of_decide_eq_true (by kernel_rfl)) (by unfold Func.isWrapper; first | (rw [if_pos (by decide +kernel)]; kernel_rfl) | (rw [if_neg (by decide +kernel)]; exact ⟨rfl, rfl⟩))
    (fun os started H enc _ => lifted os started H enc)

theorem proved : Rows.FnAddTimerSaid := over
#print axioms proved
end Go.Proofs.Ytjjjlpnbniofjab.fnAddTimer
