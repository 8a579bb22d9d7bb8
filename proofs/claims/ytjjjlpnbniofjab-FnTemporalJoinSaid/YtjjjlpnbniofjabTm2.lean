import Derived.Test.YtjjjlpnbniofjabTm
import Derived.Test.YtjjjlpnbniofjabQb
namespace Go.Proofs.Ytjjjlpnbniofjab
open Go.RowKit
set_option maxRecDepth 100000 in
set_option maxHeartbeats 4000000 in
theorem specTims_any (A : Option Addr) (c : Nat) (l : List TimerR) (w : World) (ha : Row TimerR.enc 3 w A l) :
    Calls Try.prog 61 #[.slice A l.length c] w fun e w' => e = .returned (.bool (vTims l)) ∧ Below w.heap.size w w' := by
  have hal := ha.1
  go_enter Try.func61, Try.ntmps61
  go_wp2
  go_loopw [3] (fun i wr => ∃ k : Nat, k ≤ l.length ∧ i = .int .i64 k ∧ ((l.take k).all vTimB = true ∧ ascB cmpTim (l.take k) = true) ∧ Below w.heap.size w wr) (fun i _ => l.length - (intOf i).toNat)
  case atStart => exact ⟨0, Nat.zero_le _, rfl, ⟨by simp, asc_zero _ _⟩, Below.refl _ _⟩
  case round =>
    obtain ⟨k0, hk, rfl, hall, hbw⟩ := hrel
    have Hall := Lib.hid hall
    clear hall
    by_cases hlt0 : k0 < l.length
    · rcases k0 with _ | k
      · obtain ⟨b, off, rfl, hblt, r0, r1, r2⟩ := (ha.keep hbw).atTimer hlt0
        have hy : l[0]? = some l[0] := List.getElem?_eq_getElem hlt0
        generalize l[0] = y at *
        have Hy := Lib.hid hy
        simp only [Nat.zero_mul, Nat.add_zero] at r0 r1 r2
        clear hy ha
        have i3 : (0 : Int) < (l.length : Int) := by omega
        rcases Bool.eq_false_or_eq_true (vTimB y) with hv | hv
        all_goals
          have Hv := Lib.hid hv
          have R0 := Bw.cellOf hblt r0
          have R1 := Bw.cellOf hblt r1
          have R2 := Bw.cellOf hblt r2
          go_wp2_with fail
          refine wp_region_quiet_below (by kernel_rfl) (by kernel_rfl) ?_
          repeat (any_goals (go_big_quiet_step (first | (go_at_call 62; refine Calls.below_of (specValidTimer_any y _)))))
          refine wpQuiet_nil ?_
          intro w1 hb1
          clear hv
        · have hall2 := all_next Hall.out.1 Hy.out Hv.out
          have Hn := Lib.hid (show (l.take (0 + 1)).all vTimB = true ∧ ascB cmpTim (l.take (0 + 1)) = true from ⟨hall2, asc_one _ _⟩)
          have hbw1 := hbw.trans (hb1.mono hbw.size)
          clear hall2
          go_wp2
          go_roundw
          case rel => exact ⟨1, by omega, rfl, Hn.out, hbw1⟩
          case measure => simp [intOf]; omega
        · have hn : vTims l = false := by unfold vTims; rw [all_stop Hy.out Hv.out, Bool.and_false, Bool.false_and]
          have Hn := Lib.hid hn
          have hbw1 := hbw.trans (hb1.mono hbw.size)
          clear hn
          go_wp2
          go_returns
          exact ⟨ret_bool Hn.out.symm, hbw1⟩
      · obtain ⟨b, off, hA, hblt, q0, q1, q2⟩ := (ha.keep hbw).atTimer (i := k) (by omega)
        obtain ⟨b', off', hA', _, r0, r1, r2⟩ := (ha.keep hbw).atTimer hlt0
        subst hA
        injection hA' with hA'
        injection hA' with e1 e2
        subst e1 e2
        have hx : l[k]? = some l[k] := List.getElem?_eq_getElem (by omega)
        have hy : l[k + 1]? = some l[k + 1] := List.getElem?_eq_getElem hlt0
        generalize l[k] = x at *
        generalize l[k + 1] = y at *
        have Hx := Lib.hid hx
        have Hy := Lib.hid hy
        clear hx hy ha
        have i0 : (0 : Int) ≤ (k : Int) := by omega
        have i2 : (0 : Int) ≤ (k : Int) + 1 := by omega
        have i1 : ((k : Int) + 1) < (l.length : Int) := by omega
        have i3 : (k : Int) < (l.length : Int) := by omega
        have i4 : k < l.length := by omega
        have i5 : ((k : Int) + 1).toNat = k + 1 := by omega
        have i6 : decide ((0 : Int) < (k : Int) + 1) = true := by simp
        rcases Bool.eq_false_or_eq_true (vTimB y) with hv | hv
        · have Hv := Lib.hid hv
          have Q0 := Bw.cellOf hblt q0
          have Q1 := Bw.cellOf hblt q1
          have Q2 := Bw.cellOf hblt q2
          have R0 := Bw.cellOf hblt r0
          have R1 := Bw.cellOf hblt r1
          have R2 := Bw.cellOf hblt r2
          go_wp2_with fail
          have hwk : IntKind.i64.wrap (k : Int) = (k : Int) := IntWalk.i64_in _ (by omega)
          refine wp_region_quiet_below (by kernel_rfl) (by kernel_rfl) ?_
          repeat (any_goals (go_big_quiet_step (first | (go_at_call 62; refine Calls.below_of (specValidTimer_any y _)) | (go_at_call 63; refine Calls.below_of (cmpTimS_any x y _)))))
          refine wpQuiet_nil ?_
          intro w1 hb1
          clear hwk hv
          have hbw1 := hbw.trans (hb1.mono hbw.size)
          by_cases hc : cmpTim x y < 0
          · have hall2 := all_next Hall.out.1 Hy.out Hv.out
            have Hn := Lib.hid (show (l.take (k + 1 + 1)).all vTimB = true ∧ ascB cmpTim (l.take (k + 1 + 1)) = true from ⟨hall2, asc_next Hall.out.2 Hx.out Hy.out hc⟩)
            have hd : ¬ (0 ≤ cmpTim x y) := by omega
            clear hall2
            go_wp2
            go_roundw
            case rel => exact ⟨k + 1 + 1, by omega, by go_num, Hn.out, hbw1⟩
            case measure => simp [intOf]; omega
          · have hn : vTims l = false := by unfold vTims; rw [asc_stop Hx.out Hy.out hc, Bool.and_false]
            have Hn := Lib.hid hn
            have hd : 0 ≤ cmpTim x y := by omega
            clear hn hc
            go_wp2
            go_returns
            exact ⟨ret_bool Hn.out.symm, hbw1⟩
        · have Hv := Lib.hid hv
          have R0 := Bw.cellOf hblt r0
          have R1 := Bw.cellOf hblt r1
          have R2 := Bw.cellOf hblt r2
          go_wp2_with fail
          refine wp_region_quiet_below (by kernel_rfl) (by kernel_rfl) ?_
          repeat (any_goals (go_big_quiet_step (first | (go_at_call 62; refine Calls.below_of (specValidTimer_any y _)))))
          refine wpQuiet_nil ?_
          intro w1 hb1
          clear hv
          have hn : vTims l = false := by unfold vTims; rw [all_stop Hy.out Hv.out, Bool.and_false, Bool.false_and]
          have Hn := Lib.hid hn
          have hbw1 := hbw.trans (hb1.mono hbw.size)
          clear hn
          go_wp2
          go_returns
          exact ⟨ret_bool Hn.out.symm, hbw1⟩
    · have hn : vTims l = decide ((l.length : Int) ≤ 20) := by
        have h := Hall.out
        rw [List.take_of_length_le (by omega)] at h
        unfold vTims
        rw [h.1, h.2, Bool.and_true, Bool.and_true]
        exact decide_eq_decide.2 (by omega)
      have Hn := Lib.hid hn
      clear hn
      go_wp2
      all_goals go_returns
      all_goals exact ⟨ret_bool (by first | (rw [Hn.out]; done) | (rw [Hn.out]; simp; omega)), hbw⟩
end Go.Proofs.Ytjjjlpnbniofjab
