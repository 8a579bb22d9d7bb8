import Derived.Test.YtjjjlpnbniofjabTyTimer
import Derived.Test.YtjjjlpnbniofjabPure
import Derived.Test.YtjjjlpnbniofjabInR
import Derived.IntWalk
namespace Go.Proofs.Ytjjjlpnbniofjab
open Go.RowKit
def vTimB (e : TimerR) : Bool := decide (0 ≤ e.a0 ∧ e.a0 ≤ 3000 ∧ 0 ≤ e.a1 ∧ e.a1 ≤ 15 ∧ 0 ≤ e.a2 ∧ e.a2 ≤ 99)
def cmpTim (x y : TimerR) : Int := cmp3L x.a0 x.a1 x.a2 y.a0 y.a1 y.a2
def vTims (l : List TimerR) : Bool := decide (l.length ≤ 20) && l.all vTimB && ascB cmpTim l
set_option maxHeartbeats 1000000 in
theorem specValidTimer_any (x : TimerR) (w : World) : Calls Try.prog 62 #[.agg #[.int .i64 x.a0, .int .i64 x.a1, .int .i64 x.a2]] w
    fun e w' => e = .returned (.bool (vTimB x)) ∧ Below w.heap.size w w' := by
  go_enter Try.func62, Try.ntmps62
  go_wp2
  all_goals go_returns
  all_goals refine ⟨ret_bool ?_, by go_grown⟩
  all_goals
    unfold vTimB
    first | (symm; rw [decide_eq_true_eq]; omega) | (symm; rw [decide_eq_false_iff_not]; omega) | (rw [Bool.eq_iff_iff]; simp; omega)
set_option maxHeartbeats 1000000 in
theorem implValidTimer_any (x : TimerR) (w : World) : Calls Try.prog 57 #[.agg #[.int .i64 x.a0, .int .i64 x.a1, .int .i64 x.a2]] w
    fun e w' => e = .returned (.bool (vTimB x)) ∧ Below w.heap.size w w' := by
  go_enter Try.func57, Try.ntmps57
  go_wp2
  all_goals go_returns
  all_goals refine ⟨ret_bool ?_, by go_grown⟩
  all_goals
    unfold vTimB
    first | (symm; rw [decide_eq_true_eq]; omega) | (symm; rw [decide_eq_false_iff_not]; omega) | (rw [Bool.eq_iff_iff]; simp; omega)
set_option maxHeartbeats 1000000 in
theorem implAllTim_any (A : Option Addr) (c : Nat) (l : List TimerR) (w : World) (ha : Row TimerR.enc 3 w A l) :
    Calls Try.prog 91 #[.slice A l.length c, .func (.func 57) #[] #[]] w fun e w' => e = .returned (.bool (l.all vTimB)) ∧ Below w.heap.size w w' := by
  have hal := ha.1
  go_enter Try.func91, Try.ntmps91
  go_wp2
  go_loopw [9] (fun i wr => ∃ k : Nat, k ≤ l.length ∧ i = .int .i64 k ∧ (l.take k).all vTimB = true ∧ Below w.heap.size w wr) (fun i _ => l.length - (intOf i).toNat)
  case atStart => exact ⟨0, Nat.zero_le _, rfl, by simp, Below.refl _ _⟩
  case round =>
    obtain ⟨k, hk, rfl, hall, hbw⟩ := hrel
    have Hall := Lib.hid hall
    clear hall
    by_cases hlt : k < l.length
    · obtain ⟨b, off, rfl, _, q0, q1, q2⟩ := (ha.keep hbw).atTimer hlt
      have hx := List.getElem?_eq_getElem hlt
      generalize l[k] = x at *
      have Hx := Lib.hid hx
      clear hx ha
      go_wp2_with fail
      refine (implValidTimer_any x _).mono ?_
      rintro e w1 ⟨rfl, hb1⟩
      have hbw1 := (hbw.alloc hbw.size (.cells #[.int .i64 x.a0, .int .i64 x.a1, .int .i64 x.a2] 25)).trans (hb1.mono (by have := hbw.size; simp; omega))
      clear hb1
      rcases Bool.eq_false_or_eq_true (vTimB x) with hv | hv
      · have hn := all_next Hall.out Hx.out hv
        have Hn := Lib.hid hn
        rw [hv]
        clear hv hn
        go_wp2
        go_roundw
        case rel => exact ⟨k + 1, by omega, by go_num, Hn.out, hbw1⟩
        case measure => simp [intOf]; omega
      · have hn := all_stop Hx.out hv
        have Hn := Lib.hid hn
        rw [hv]
        clear hv hn
        go_wp2
        go_returns
        exact ⟨ret_bool Hn.out.symm, hbw1⟩
    · have hn : l.all vTimB = true := by
        have h := Hall.out
        rwa [List.take_of_length_le (by omega)] at h
      have Hn := Lib.hid hn
      clear hn
      go_wp2
      all_goals go_returns
      all_goals exact ⟨ret_bool Hn.out.symm, hbw⟩
set_option maxHeartbeats 1000000 in
theorem cmpOr_any (x y z : Int) (w : World) (B : Nat) (h0 : w.cell? ⟨B, 0, none⟩ = some (.int .i64 x)) (h1 : w.cell? ⟨B, 1, none⟩ = some (.int .i64 y)) (h2 : w.cell? ⟨B, 2, none⟩ = some (.int .i64 z)) :
    Calls Try.prog 99 #[.slice (some ⟨B, 0, none⟩) 3 3] w fun e w' => e = .returned (.int .i64 (orV x y z)) ∧ w = w' := by
  unfold orV
  by_cases hx : x = 0 <;> by_cases hy : y = 0 <;> by_cases hz : z = 0
  all_goals
    go_enter Try.func99, Try.ntmps99
    go_wp2
    go_rounds 4
    all_goals go_returns
    all_goals simp_all
set_option maxHeartbeats 1000000 in
theorem cmpC_any (x y : Int) (w : World) : Calls Try.prog 100 #[.int .i64 x, .int .i64 y] w fun e w' => e = .returned (.int .i64 (cmpI x y)) ∧ w' = w := by
  go_enter Try.func100, Try.ntmps100
  go_wp2
  all_goals go_returns
  all_goals refine ⟨ret_int ?_, rfl⟩
  all_goals
    unfold cmpI
    (repeat' split) <;> omega
set_option maxHeartbeats 1000000 in
theorem cmpTimS_any (x y : TimerR) (w : World) : Calls Try.prog 63 #[.agg #[.int .i64 x.a0, .int .i64 x.a1, .int .i64 x.a2], .agg #[.int .i64 y.a0, .int .i64 y.a1, .int .i64 y.a2]] w
    fun e w' => e = .returned (.int .i64 (cmpTim x y)) ∧ Below w.heap.size w w' := by
  go_enter Try.func63, Try.ntmps63
  go_wp2
  all_goals go_returns
  all_goals refine ⟨ret_int ?_, by go_grown⟩
  all_goals
    simp only [bne_iff_ne, ne_eq, bne_eq_false_iff_eq] at *
    unfold cmpTim cmp3L cmpI
    (repeat' split) <;> omega
set_option maxRecDepth 100000 in
set_option maxHeartbeats 1000000 in
theorem cmpTimI_any (x y : TimerR) (w : World) : Calls Try.prog 93 #[.agg #[.int .i64 x.a0, .int .i64 x.a1, .int .i64 x.a2], .agg #[.int .i64 y.a0, .int .i64 y.a1, .int .i64 y.a2]] w
    fun e w' => e = .returned (.int .i64 (cmpTim x y)) ∧ Below w.heap.size w w' := by
  go_enter Try.func93, Try.ntmps93
  go_wp2
  refine wp_region_still_tail 15 (by kernel_rfl) (by kernel_rfl) ?_
  change wpStill _ _ (((w.alloc (.cells #[.int .i64 x.a0, .int .i64 x.a1, .int .i64 x.a2] 25)).alloc (.cells #[.int .i64 y.a0, .int .i64 y.a1, .int .i64 y.a2] 25)).drew) (fun a' => wpList _ _ _ _ a' (((w.alloc (.cells #[.int .i64 x.a0, .int .i64 x.a1, .int .i64 x.a2] 25)).alloc (.cells #[.int .i64 y.a0, .int .i64 y.a1, .int .i64 y.a2] 25)).drew)) _ _
  simp only [List.take_succ_cons, List.take_zero, List.drop_succ_cons, List.drop_zero]
  repeat (first | still_step | still_call (cmpC_any _ _ _))
  refine wpStill_nil ?_
  go_wp2_with fail
  refine (cmpOr_any (cmpI x.a0 y.a0) (cmpI x.a1 y.a1) (cmpI x.a2 y.a2) _ _ (by simp [go_sem]) (by simp [go_sem]) (by simp [go_sem])).mono ?_
  rintro e w' ⟨rfl, rfl⟩
  go_wp2
  go_returns
  exact ⟨ret_int (cmp3_or x.a0 x.a1 x.a2 y.a0 y.a1 y.a2), by go_grown⟩
set_option maxRecDepth 100000 in
set_option maxHeartbeats 2000000 in
theorem implAscTim_any (A : Option Addr) (c : Nat) (l : List TimerR) (w : World) (ha : Row TimerR.enc 3 w A l) :
    Calls Try.prog 92 #[.slice A l.length c, .func (.func 93) #[] #[]] w fun e w' => e = .returned (.bool (ascB cmpTim l)) ∧ Below w.heap.size w w' := by
  have hal := ha.1
  go_enter Try.func92, Try.ntmps92
  go_wp2
  go_loopw [5] (fun i wr => ∃ k : Nat, k ≤ l.length ∧ i = .int .i64 (k + 1) ∧ ascB cmpTim (l.take (k + 1)) = true ∧ Below w.heap.size w wr) (fun i _ => l.length + 1 - (intOf i).toNat)
  case atStart => exact ⟨0, Nat.zero_le _, rfl, asc_one _ _, Below.refl _ _⟩
  case round =>
    obtain ⟨k, hk, rfl, hall, hbw⟩ := hrel
    have Hall := Lib.hid hall
    clear hall
    by_cases hlt : k + 1 < l.length
    · obtain ⟨b, off, hA, _, q0, q1, q2⟩ := (ha.keep hbw).atTimer (i := k) (by omega)
      obtain ⟨b', off', hA', _, r0, r1, r2⟩ := (ha.keep hbw).atTimer hlt
      subst hA
      injection hA' with hA'
      injection hA' with e1 e2
      subst e1 e2
      have hx : l[k]? = some l[k] := List.getElem?_eq_getElem (by omega)
      have hy : l[k + 1]? = some l[k + 1] := List.getElem?_eq_getElem hlt
      generalize l[k] = x at *
      generalize l[k + 1] = y at *
      have Hx := Lib.hid hx
      have Hy := Lib.hid hy
      clear hx hy ha
      have i0 : (0 : Int) ≤ (k : Int) := by omega
      have i2 : (0 : Int) ≤ (k : Int) + 1 := by omega
      have i1 : ((k : Int) + 1) < (l.length : Int) := by omega
      have i3 : (k : Int) < (l.length : Int) := by omega
      have i4 : k < l.length := by omega
      have i5 : ((k : Int) + 1).toNat = k + 1 := by omega
      go_wp2_with fail
      have hwk : IntKind.i64.wrap (k : Int) = (k : Int) := IntWalk.i64_in _ (by omega)
      refine wp_region_still_tail 10 (by kernel_rfl) (by kernel_rfl) ?_
      change wpStill _ _ wr.drew (fun a' => wpList _ _ _ _ a' wr.drew) _ _
      simp only [List.take_succ_cons, List.take_zero, List.drop_succ_cons, List.drop_zero]
      repeat still_step
      clear hwk
      refine wpStill_nil ?_
      go_wp2_with fail
      refine (cmpTimI_any x y _).mono ?_
      rintro e w1 ⟨rfl, hb1⟩
      have hbw1 : Below w.heap.size w w1 := hbw.drew.trans (hb1.mono (by have := hbw.size; simpa using this))
      clear hb1
      by_cases hc : cmpTim x y < 0
      · have hn := asc_next Hall.out Hx.out Hy.out hc
        have Hn := Lib.hid hn
        have hd : ¬ (0 ≤ cmpTim x y) := by omega
        clear hn
        go_wp2
        go_roundw
        case rel => exact ⟨k + 1, by omega, val_int (by omega), Hn.out, hbw1⟩
        case measure => simp [intOf]; omega
      · have hn := asc_stop Hx.out Hy.out hc
        have Hn := Lib.hid hn
        have hd : 0 ≤ cmpTim x y := by omega
        clear hn hc
        go_wp2
        go_returns
        exact ⟨ret_bool Hn.out.symm, hbw1⟩
    · have hn : ascB cmpTim l = true := by
        have h := Hall.out
        rwa [List.take_of_length_le (by omega)] at h
      have Hn := Lib.hid hn
      clear hn
      go_wp2
      all_goals go_returns
      all_goals exact ⟨ret_bool Hn.out.symm, hbw⟩
set_option maxHeartbeats 1000000 in
theorem implTims_any (A : Option Addr) (c : Nat) (l : List TimerR) (w : World) (ha : Row TimerR.enc 3 w A l) :
    Calls Try.prog 56 #[.slice A l.length c] w fun e w' => e = .returned (.bool (vTims l)) ∧ Below w.heap.size w w' := by
  have hal := ha.1
  have hn : vTims l = (decide (l.length ≤ 20) && (l.all vTimB && ascB cmpTim l)) := by unfold vTims; rw [Bool.and_assoc]
  by_cases h40 : l.length ≤ 20
  · rcases Bool.eq_false_or_eq_true (l.all vTimB) with hv | hv
    all_goals
      rw [decide_eq_true h40, Bool.true_and, hv] at hn
      have Hn := Lib.hid hn
      have Hv := Lib.hid hv
      clear hn hv
      go_enter Try.func56, Try.ntmps56
      go_wp2_with fail
      refine (implAllTim_any A c l w ha).mono ?_
      rintro e w1 ⟨rfl, hb1⟩
      rw [Hv.out]
    · go_wp2_with fail
      refine (implAscTim_any A c l w1 (ha.keep hb1)).mono ?_
      rintro e w2 ⟨rfl, hb2⟩
      go_wp2
      all_goals go_returns
      all_goals exact ⟨ret_bool (by rw [Hn.out]; simp), hb1.trans (hb2.mono hb1.size)⟩
    · go_wp2
      all_goals go_returns
      all_goals exact ⟨ret_bool (by rw [Hn.out]; simp), hb1⟩
  · rw [decide_eq_false h40, Bool.false_and] at hn
    have Hn := Lib.hid hn
    clear hn
    go_enter Try.func56, Try.ntmps56
    go_wp2
    all_goals go_returns
    all_goals exact ⟨ret_bool Hn.out.symm, Below.refl _ _⟩
end Go.Proofs.Ytjjjlpnbniofjab
