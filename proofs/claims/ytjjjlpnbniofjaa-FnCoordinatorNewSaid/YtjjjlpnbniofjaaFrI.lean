import Derived.Test.YtjjjlpnbniofjaaFrS
namespace Go.Proofs.Ytjjjlpnbniofjaa
open Go.RowKit
set_option maxHeartbeats 1000000 in
theorem cmpC_any (x y : Int) (w : World) : Calls Try.prog 104 #[.int .i64 x, .int .i64 y] w fun e w' => e = .returned (.int .i64 (cmpI x y)) ∧ w' = w := by
  go_enter Try.func104, Try.ntmps104
  go_wp2
  all_goals go_returns
  all_goals refine ⟨ret_int ?_, rfl⟩
  all_goals
    unfold cmpI
    (repeat' split) <;> omega
theorem cmpCb_any (x y : Int) (w : World) : Calls Try.prog 104 #[.int .i64 x, .int .i64 y] w fun e w' => e = .returned (.int .i64 (cmpI x y)) ∧ Below w.heap.size w w' :=
  (cmpC_any x y w).mono (by rintro e w' ⟨rfl, rfl⟩; exact ⟨rfl, Below.refl _ _⟩)
set_option maxHeartbeats 1000000 in
theorem implValidRef_any (x : FileRefR) (w : World) : Calls Try.prog 97 #[.agg #[.int .i64 x.a0, .int .i64 x.a1]] w
    fun e w' => e = .returned (.bool (vRefB x)) ∧ Below w.heap.size w w' := by
  go_enter Try.func97, Try.ntmps97
  go_wp2
  all_goals go_returns
  all_goals refine ⟨ret_bool ?_, by go_grown⟩
  all_goals
    unfold vRefB
    first | (symm; rw [decide_eq_true_eq]; omega) | (symm; rw [decide_eq_false_iff_not]; omega) | (rw [Bool.eq_iff_iff]; simp; omega)
set_option maxHeartbeats 1000000 in
theorem implAllRef_any (A : Option Addr) (c : Nat) (l : List FileRefR) (w : World) (ha : Row FileRefR.enc 2 w A l) :
    Calls Try.prog 96 #[.slice A l.length c, .func (.func 97) #[] #[]] w fun e w' => e = .returned (.bool (l.all vRefB)) ∧ Below w.heap.size w w' := by
  have hal := ha.1
  go_enter Try.func96, Try.ntmps96
  go_wp2
  go_loopw [9] (fun i wr => ∃ k : Nat, k ≤ l.length ∧ i = .int .i64 k ∧ (l.take k).all vRefB = true ∧ Below w.heap.size w wr) (fun i _ => l.length - (intOf i).toNat)
  case atStart => exact ⟨0, Nat.zero_le _, rfl, by simp, Below.refl _ _⟩
  case round =>
    obtain ⟨k, hk, rfl, hall, hbw⟩ := hrel
    have Hall := Lib.hid hall
    clear hall
    by_cases hlt : k < l.length
    · obtain ⟨b, off, rfl, _, q0, q1⟩ := (ha.keep hbw).atFileRef hlt
      have hx := List.getElem?_eq_getElem hlt
      generalize l[k] = x at *
      have Hx := Lib.hid hx
      clear hx ha
      go_wp2_with fail
      refine (implValidRef_any x _).mono ?_
      rintro e w1 ⟨rfl, hb1⟩
      have hbw1 := (hbw.alloc hbw.size (.cells #[.int .i64 x.a0, .int .i64 x.a1] 67)).trans (hb1.mono (by have := hbw.size; simp; omega))
      clear hb1
      rcases Bool.eq_false_or_eq_true (vRefB x) with hv | hv
      · have hn := all_next Hall.out Hx.out hv
        have Hn := Lib.hid hn
        rw [hv]
        clear hv hn
        go_wp2
        go_roundw
        case rel => exact ⟨k + 1, by omega, by go_num, Hn.out, hbw1⟩
        case measure => simp [intOf]; omega
      · have hn := all_stop Hx.out hv
        have Hn := Lib.hid hn
        rw [hv]
        clear hv hn
        go_wp2
        go_returns
        exact ⟨ret_bool Hn.out.symm, hbw1⟩
    · have hn : l.all vRefB = true := by
        have h := Hall.out
        rwa [List.take_of_length_le (by omega)] at h
      have Hn := Lib.hid hn
      clear hn
      go_wp2
      all_goals go_returns
      all_goals exact ⟨ret_bool Hn.out.symm, hbw⟩
set_option maxHeartbeats 1000000 in
theorem cmpRefI_any (x y : FileRefR) (w : World) : Calls Try.prog 99 #[.agg #[.int .i64 x.a0, .int .i64 x.a1], .agg #[.int .i64 y.a0, .int .i64 y.a1]] w fun e w' => e = .returned (.int .i64 (cmpRef x y)) ∧ Below w.heap.size w w' := by
  unfold cmpRef
  go_enter Try.func99, Try.ntmps99
  go_wp2_with (go_at_call 104; refine (cmpC_any _ _ _).mono ?_; rintro e w' ⟨rfl, rfl⟩)
  all_goals go_returns
  all_goals exact ⟨rfl, by go_grown⟩
set_option maxRecDepth 100000 in
set_option maxHeartbeats 2000000 in
theorem implAscRef_any (A : Option Addr) (c : Nat) (l : List FileRefR) (w : World) (ha : Row FileRefR.enc 2 w A l) :
    Calls Try.prog 98 #[.slice A l.length c, .func (.func 99) #[] #[]] w fun e w' => e = .returned (.bool (ascB cmpRef l)) ∧ Below w.heap.size w w' := by
  have hal := ha.1
  go_enter Try.func98, Try.ntmps98
  go_wp2
  go_loopw [5] (fun i wr => ∃ k : Nat, k ≤ l.length ∧ i = .int .i64 (k + 1) ∧ ascB cmpRef (l.take (k + 1)) = true ∧ Below w.heap.size w wr) (fun i _ => l.length + 1 - (intOf i).toNat)
  case atStart => exact ⟨0, Nat.zero_le _, rfl, asc_one _ _, Below.refl _ _⟩
  case round =>
    obtain ⟨k, hk, rfl, hall, hbw⟩ := hrel
    have Hall := Lib.hid hall
    clear hall
    by_cases hlt : k + 1 < l.length
    · obtain ⟨b, off, hA, _, q0, q1⟩ := (ha.keep hbw).atFileRef (i := k) (by omega)
      obtain ⟨b', off', hA', _, r0, r1⟩ := (ha.keep hbw).atFileRef hlt
      subst hA
      injection hA' with hA'
      injection hA' with e1 e2
      subst e1 e2
      have hx : l[k]? = some l[k] := List.getElem?_eq_getElem (by omega)
      have hy : l[k + 1]? = some l[k + 1] := List.getElem?_eq_getElem hlt
      generalize l[k] = x at *
      generalize l[k + 1] = y at *
      have Hx := Lib.hid hx
      have Hy := Lib.hid hy
      clear hx hy ha
      have i0 : (0 : Int) ≤ (k : Int) := by omega
      have i2 : (0 : Int) ≤ (k : Int) + 1 := by omega
      have i1 : ((k : Int) + 1) < (l.length : Int) := by omega
      have i3 : (k : Int) < (l.length : Int) := by omega
      have i4 : k < l.length := by omega
      have i5 : ((k : Int) + 1).toNat = k + 1 := by omega
      go_wp2_with fail
      have hwk : IntKind.i64.wrap (k : Int) = (k : Int) := IntWalk.i64_in _ (by omega)
      refine wp_region_still_tail 10 (by kernel_rfl) (by kernel_rfl) ?_
      change wpStill _ _ wr.drew (fun a' => wpList _ _ _ _ a' wr.drew) _ _
      simp only [List.take_succ_cons, List.take_zero, List.drop_succ_cons, List.drop_zero]
      repeat still_step
      clear hwk
      refine wpStill_nil ?_
      go_wp2_with fail
      refine (cmpRefI_any x y _).mono ?_
      rintro e w1 ⟨rfl, hb1⟩
      have hbw1 : Below w.heap.size w w1 := hbw.drew.trans (hb1.mono (by have := hbw.size; simpa using this))
      clear hb1
      by_cases hc : cmpRef x y < 0
      · have hn := asc_next Hall.out Hx.out Hy.out hc
        have Hn := Lib.hid hn
        have hd : ¬ (0 ≤ cmpRef x y) := by omega
        clear hn
        go_wp2
        go_roundw
        case rel => exact ⟨k + 1, by omega, val_int (by omega), Hn.out, hbw1⟩
        case measure => simp [intOf]; omega
      · have hn := asc_stop Hx.out Hy.out hc
        have Hn := Lib.hid hn
        have hd : 0 ≤ cmpRef x y := by omega
        clear hn hc
        go_wp2
        go_returns
        exact ⟨ret_bool Hn.out.symm, hbw1⟩
    · have hn : ascB cmpRef l = true := by
        have h := Hall.out
        rwa [List.take_of_length_le (by omega)] at h
      have Hn := Lib.hid hn
      clear hn
      go_wp2
      all_goals go_returns
      all_goals exact ⟨ret_bool Hn.out.symm, hbw⟩
set_option maxHeartbeats 1000000 in
theorem implRefs_any (A : Option Addr) (c : Nat) (l : List FileRefR) (w : World) (ha : Row FileRefR.enc 2 w A l) :
    Calls Try.prog 59 #[.slice A l.length c] w fun e w' => e = .returned (.bool (vRefs l)) ∧ Below w.heap.size w w' := by
  have hal := ha.1
  have hn : vRefs l = (l.all vRefB && ascB cmpRef l) := rfl
  rcases Bool.eq_false_or_eq_true (l.all vRefB) with hv | hv
  all_goals
    rw [hv] at hn
    have Hn := Lib.hid hn
    have Hv := Lib.hid hv
    clear hn hv
    go_enter Try.func59, Try.ntmps59
    go_wp2_with fail
    refine (implAllRef_any A c l w ha).mono ?_
    rintro e w1 ⟨rfl, hb1⟩
    rw [Hv.out]
  · go_wp2_with fail
    refine (implAscRef_any A c l w1 (ha.keep hb1)).mono ?_
    rintro e w2 ⟨rfl, hb2⟩
    go_wp2
    all_goals go_returns
    all_goals exact ⟨ret_bool (by rw [Hn.out]; simp), hb1.trans (hb2.mono hb1.size)⟩
  · go_wp2
    all_goals go_returns
    all_goals exact ⟨ret_bool (by rw [Hn.out]; simp), hb1⟩
set_option maxHeartbeats 1000000 in
theorem implValidFile_any (x : Int) (w : World) : Calls Try.prog 102 #[.int .i64 x] w fun e w' => e = .returned (.bool (vFileB x)) ∧ Below w.heap.size w w' := by
  go_enter Try.func102, Try.ntmps102
  go_wp2
  all_goals go_returns
  all_goals refine ⟨ret_bool ?_, by go_grown⟩
  all_goals
    unfold vFileB
    first | (symm; rw [decide_eq_true_eq]; omega) | (symm; rw [decide_eq_false_iff_not]; omega) | (rw [Bool.eq_iff_iff]; simp; omega)
set_option maxHeartbeats 1000000 in
theorem implAllFile_any (A : Option Addr) (c : Nat) (l : List Int) (w : World) (ha : Row IntR.enc 1 w A l) :
    Calls Try.prog 101 #[.slice A l.length c, .func (.func 102) #[] #[]] w fun e w' => e = .returned (.bool (l.all vFileB)) ∧ Below w.heap.size w w' := by
  have hal := ha.1
  go_enter Try.func101, Try.ntmps101
  go_wp2
  go_loopw [9] (fun i wr => ∃ k : Nat, k ≤ l.length ∧ i = .int .i64 k ∧ (l.take k).all vFileB = true ∧ Below w.heap.size w wr) (fun i _ => l.length - (intOf i).toNat)
  case atStart => exact ⟨0, Nat.zero_le _, rfl, by simp, Below.refl _ _⟩
  case round =>
    obtain ⟨k, hk, rfl, hall, hbw⟩ := hrel
    have Hall := Lib.hid hall
    clear hall
    by_cases hlt : k < l.length
    · obtain ⟨b, off, rfl, _, q0⟩ := (ha.keep hbw).atInt hlt
      have hx := List.getElem?_eq_getElem hlt
      generalize l[k] = x at *
      have Hx := Lib.hid hx
      clear hx ha
      go_wp2_with fail
      refine (implValidFile_any x _).mono ?_
      rintro e w1 ⟨rfl, hb1⟩
      have hbw1 := hbw.trans (hb1.mono hbw.size)
      clear hb1
      rcases Bool.eq_false_or_eq_true (vFileB x) with hv | hv
      · have hn := all_next Hall.out Hx.out hv
        have Hn := Lib.hid hn
        rw [hv]
        clear hv hn
        go_wp2
        go_roundw
        case rel => exact ⟨k + 1, by omega, by go_num, Hn.out, hbw1⟩
        case measure => simp [intOf]; omega
      · have hn := all_stop Hx.out hv
        have Hn := Lib.hid hn
        rw [hv]
        clear hv hn
        go_wp2
        go_returns
        exact ⟨ret_bool Hn.out.symm, hbw1⟩
    · have hn : l.all vFileB = true := by
        have h := Hall.out
        rwa [List.take_of_length_le (by omega)] at h
      have Hn := Lib.hid hn
      clear hn
      go_wp2
      all_goals go_returns
      all_goals exact ⟨ret_bool Hn.out.symm, hbw⟩
set_option maxRecDepth 100000 in
set_option maxHeartbeats 2000000 in
theorem implAscFile_any (A : Option Addr) (c : Nat) (l : List Int) (w : World) (ha : Row IntR.enc 1 w A l) :
    Calls Try.prog 103 #[.slice A l.length c, .func (.func 104) #[] #[]] w fun e w' => e = .returned (.bool (ascB cmpI l)) ∧ Below w.heap.size w w' := by
  have hal := ha.1
  go_enter Try.func103, Try.ntmps103
  go_wp2
  go_loopw [5] (fun i wr => ∃ k : Nat, k ≤ l.length ∧ i = .int .i64 (k + 1) ∧ ascB cmpI (l.take (k + 1)) = true ∧ Below w.heap.size w wr) (fun i _ => l.length + 1 - (intOf i).toNat)
  case atStart => exact ⟨0, Nat.zero_le _, rfl, asc_one _ _, Below.refl _ _⟩
  case round =>
    obtain ⟨k, hk, rfl, hall, hbw⟩ := hrel
    have Hall := Lib.hid hall
    clear hall
    by_cases hlt : k + 1 < l.length
    · obtain ⟨b, off, hA, _, q0⟩ := (ha.keep hbw).atInt (i := k) (by omega)
      obtain ⟨b', off', hA', _, r0⟩ := (ha.keep hbw).atInt hlt
      subst hA
      injection hA' with hA'
      injection hA' with e1 e2
      subst e1 e2
      have hx : l[k]? = some l[k] := List.getElem?_eq_getElem (by omega)
      have hy : l[k + 1]? = some l[k + 1] := List.getElem?_eq_getElem hlt
      generalize l[k] = x at *
      generalize l[k + 1] = y at *
      have Hx := Lib.hid hx
      have Hy := Lib.hid hy
      clear hx hy ha
      have i0 : (0 : Int) ≤ (k : Int) := by omega
      have i2 : (0 : Int) ≤ (k : Int) + 1 := by omega
      have i1 : ((k : Int) + 1) < (l.length : Int) := by omega
      have i3 : (k : Int) < (l.length : Int) := by omega
      have i4 : k < l.length := by omega
      have i5 : ((k : Int) + 1).toNat = k + 1 := by omega
      go_wp2_with fail
      have hwk : IntKind.i64.wrap (k : Int) = (k : Int) := IntWalk.i64_in _ (by omega)
      refine wp_region_still_tail 10 (by kernel_rfl) (by kernel_rfl) ?_
      change wpStill _ _ wr.drew (fun a' => wpList _ _ _ _ a' wr.drew) _ _
      simp only [List.take_succ_cons, List.take_zero, List.drop_succ_cons, List.drop_zero]
      repeat still_step
      clear hwk
      refine wpStill_nil ?_
      go_wp2_with fail
      refine (cmpCb_any x y _).mono ?_
      rintro e w1 ⟨rfl, hb1⟩
      have hbw1 : Below w.heap.size w w1 := hbw.drew.trans (hb1.mono (by have := hbw.size; simpa using this))
      clear hb1
      by_cases hc : cmpI x y < 0
      · have hn := asc_next Hall.out Hx.out Hy.out hc
        have Hn := Lib.hid hn
        have hd : ¬ (0 ≤ cmpI x y) := by omega
        clear hn
        go_wp2
        go_roundw
        case rel => exact ⟨k + 1, by omega, val_int (by omega), Hn.out, hbw1⟩
        case measure => simp [intOf]; omega
      · have hn := asc_stop Hx.out Hy.out hc
        have Hn := Lib.hid hn
        have hd : 0 ≤ cmpI x y := by omega
        clear hn hc
        go_wp2
        go_returns
        exact ⟨ret_bool Hn.out.symm, hbw1⟩
    · have hn : ascB cmpI l = true := by
        have h := Hall.out
        rwa [List.take_of_length_le (by omega)] at h
      have Hn := Lib.hid hn
      clear hn
      go_wp2
      all_goals go_returns
      all_goals exact ⟨ret_bool Hn.out.symm, hbw⟩
set_option maxHeartbeats 1000000 in
theorem implFiles_any (A : Option Addr) (c : Nat) (l : List Int) (w : World) (ha : Row IntR.enc 1 w A l) :
    Calls Try.prog 63 #[.slice A l.length c] w fun e w' => e = .returned (.bool (vFiles l)) ∧ Below w.heap.size w w' := by
  have hal := ha.1
  have hn : vFiles l = (l.all vFileB && ascB cmpI l) := rfl
  rcases Bool.eq_false_or_eq_true (l.all vFileB) with hv | hv
  all_goals
    rw [hv] at hn
    have Hn := Lib.hid hn
    have Hv := Lib.hid hv
    clear hn hv
    go_enter Try.func63, Try.ntmps63
    go_wp2_with fail
    refine (implAllFile_any A c l w ha).mono ?_
    rintro e w1 ⟨rfl, hb1⟩
    rw [Hv.out]
  · go_wp2_with fail
    refine (implAscFile_any A c l w1 (ha.keep hb1)).mono ?_
    rintro e w2 ⟨rfl, hb2⟩
    go_wp2
    all_goals go_returns
    all_goals exact ⟨ret_bool (by rw [Hn.out]; simp), hb1.trans (hb2.mono hb1.size)⟩
  · go_wp2
    all_goals go_returns
    all_goals exact ⟨ret_bool (by rw [Hn.out]; simp), hb1⟩
end Go.Proofs.Ytjjjlpnbniofjaa
