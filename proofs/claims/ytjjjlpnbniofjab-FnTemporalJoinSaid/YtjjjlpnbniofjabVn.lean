import Derived.Test.YtjjjlpnbniofjabTyVersion
import Derived.Test.YtjjjlpnbniofjabTm2
import Derived.Test.YtjjjlpnbniofjabQb
namespace Go.Proofs.Ytjjjlpnbniofjab
open Go.RowKit
def vVerB (e : VersionR) : Bool := decide (0 ≤ e.a0 ∧ e.a0 ≤ 15 ∧ 0 ≤ e.a1 ∧ e.a1 ≤ 999 ∧ 0 ≤ e.a2 ∧ e.a2 ≤ 99)
def cmpVer (x y : VersionR) : Int := cmp2L x.a0 x.a1 y.a0 y.a1
def vVers (l : List VersionR) : Bool := decide (l.length ≤ 40) && l.all vVerB && ascB cmpVer l
set_option maxHeartbeats 1000000 in
theorem specValidVersion_any (x : VersionR) (w : World) : Calls Try.prog 74 #[.agg #[.int .i64 x.a0, .int .i64 x.a1, .int .i64 x.a2]] w
    fun e w' => e = .returned (.bool (vVerB x)) ∧ Below w.heap.size w w' := by
  go_enter Try.func74, Try.ntmps74
  go_wp2
  all_goals go_returns
  all_goals refine ⟨ret_bool ?_, by go_grown⟩
  all_goals
    unfold vVerB
    first | (symm; rw [decide_eq_true_eq]; omega) | (symm; rw [decide_eq_false_iff_not]; omega) | (rw [Bool.eq_iff_iff]; simp; omega)
set_option maxHeartbeats 1000000 in
theorem implValidVersion_any (x : VersionR) (w : World) : Calls Try.prog 69 #[.agg #[.int .i64 x.a0, .int .i64 x.a1, .int .i64 x.a2]] w
    fun e w' => e = .returned (.bool (vVerB x)) ∧ Below w.heap.size w w' := by
  go_enter Try.func69, Try.ntmps69
  go_wp2
  all_goals go_returns
  all_goals refine ⟨ret_bool ?_, by go_grown⟩
  all_goals
    unfold vVerB
    first | (symm; rw [decide_eq_true_eq]; omega) | (symm; rw [decide_eq_false_iff_not]; omega) | (rw [Bool.eq_iff_iff]; simp; omega)
set_option maxHeartbeats 1000000 in
theorem implAllVer_any (A : Option Addr) (c : Nat) (l : List VersionR) (w : World) (ha : Row VersionR.enc 3 w A l) :
    Calls Try.prog 97 #[.slice A l.length c, .func (.func 69) #[] #[]] w fun e w' => e = .returned (.bool (l.all vVerB)) ∧ Below w.heap.size w w' := by
  have hal := ha.1
  go_enter Try.func97, Try.ntmps97
  go_wp2
  go_loopw [9] (fun i wr => ∃ k : Nat, k ≤ l.length ∧ i = .int .i64 k ∧ (l.take k).all vVerB = true ∧ Below w.heap.size w wr) (fun i _ => l.length - (intOf i).toNat)
  case atStart => exact ⟨0, Nat.zero_le _, rfl, by simp, Below.refl _ _⟩
  case round =>
    obtain ⟨k, hk, rfl, hall, hbw⟩ := hrel
    have Hall := Lib.hid hall
    clear hall
    by_cases hlt : k < l.length
    · obtain ⟨b, off, rfl, _, q0, q1, q2⟩ := (ha.keep hbw).atVersion hlt
      have hx := List.getElem?_eq_getElem hlt
      generalize l[k] = x at *
      have Hx := Lib.hid hx
      clear hx ha
      go_wp2_with fail
      refine (implValidVersion_any x _).mono ?_
      rintro e w1 ⟨rfl, hb1⟩
      have hbw1 := (hbw.alloc hbw.size (.cells #[.int .i64 x.a0, .int .i64 x.a1, .int .i64 x.a2] 39)).trans (hb1.mono (by have := hbw.size; simp; omega))
      clear hb1
      rcases Bool.eq_false_or_eq_true (vVerB x) with hv | hv
      · have hn := all_next Hall.out Hx.out hv
        have Hn := Lib.hid hn
        rw [hv]
        clear hv hn
        go_wp2
        go_roundw
        case rel => exact ⟨k + 1, by omega, by go_num, Hn.out, hbw1⟩
        case measure => simp [intOf]; omega
      · have hn := all_stop Hx.out hv
        have Hn := Lib.hid hn
        rw [hv]
        clear hv hn
        go_wp2
        go_returns
        exact ⟨ret_bool Hn.out.symm, hbw1⟩
    · have hn : l.all vVerB = true := by
        have h := Hall.out
        rwa [List.take_of_length_le (by omega)] at h
      have Hn := Lib.hid hn
      clear hn
      go_wp2
      all_goals go_returns
      all_goals exact ⟨ret_bool Hn.out.symm, hbw⟩
set_option maxHeartbeats 1000000 in
theorem cmpOr2_any (x y : Int) (w : World) (B : Nat) (h0 : w.cell? ⟨B, 0, none⟩ = some (.int .i64 x)) (h1 : w.cell? ⟨B, 1, none⟩ = some (.int .i64 y)) :
    Calls Try.prog 99 #[.slice (some ⟨B, 0, none⟩) 2 2] w fun e w' => e = .returned (.int .i64 (orV2 x y)) ∧ w = w' := by
  unfold orV2
  by_cases hx : x = 0 <;> by_cases hy : y = 0
  all_goals
    go_enter Try.func99, Try.ntmps99
    go_wp2
    go_rounds 3
    all_goals go_returns
    all_goals simp_all
set_option maxHeartbeats 1000000 in
theorem cmpVerS_any (x y : VersionR) (w : World) : Calls Try.prog 75 #[.agg #[.int .i64 x.a0, .int .i64 x.a1, .int .i64 x.a2], .agg #[.int .i64 y.a0, .int .i64 y.a1, .int .i64 y.a2]] w
    fun e w' => e = .returned (.int .i64 (cmpVer x y)) ∧ Below w.heap.size w w' := by
  go_enter Try.func75, Try.ntmps75
  go_wp2
  all_goals go_returns
  all_goals refine ⟨ret_int ?_, by go_grown⟩
  all_goals
    simp only [bne_iff_ne, ne_eq, bne_eq_false_iff_eq] at *
    unfold cmpVer cmp2L cmpI
    (repeat' split) <;> omega
set_option maxRecDepth 100000 in
set_option maxHeartbeats 1000000 in
theorem cmpVerI_any (x y : VersionR) (w : World) : Calls Try.prog 71 #[.agg #[.int .i64 x.a0, .int .i64 x.a1, .int .i64 x.a2], .agg #[.int .i64 y.a0, .int .i64 y.a1, .int .i64 y.a2]] w
    fun e w' => e = .returned (.int .i64 (cmpVer x y)) ∧ Below w.heap.size w w' := by
  go_enter Try.func71, Try.ntmps71
  go_wp2
  refine wp_region_still_tail 10 (by kernel_rfl) (by kernel_rfl) ?_
  change wpStill _ _ (((w.alloc (.cells #[.int .i64 x.a0, .int .i64 x.a1, .int .i64 x.a2] 39)).alloc (.cells #[.int .i64 y.a0, .int .i64 y.a1, .int .i64 y.a2] 39)).drew) (fun a' => wpList _ _ _ _ a' (((w.alloc (.cells #[.int .i64 x.a0, .int .i64 x.a1, .int .i64 x.a2] 39)).alloc (.cells #[.int .i64 y.a0, .int .i64 y.a1, .int .i64 y.a2] 39)).drew)) _ _
  simp only [List.take_succ_cons, List.take_zero, List.drop_succ_cons, List.drop_zero]
  repeat (first | still_step | still_call (cmpC_any _ _ _))
  refine wpStill_nil ?_
  go_wp2_with fail
  refine (cmpOr2_any (cmpI x.a0 y.a0) (cmpI x.a1 y.a1) _ _ (by simp [go_sem]) (by simp [go_sem])).mono ?_
  rintro e w' ⟨rfl, rfl⟩
  go_wp2
  go_returns
  exact ⟨ret_int (cmp2_or x.a0 x.a1 y.a0 y.a1), by go_grown⟩
set_option maxRecDepth 100000 in
set_option maxHeartbeats 2000000 in
theorem implAscVer_any (A : Option Addr) (c : Nat) (l : List VersionR) (w : World) (ha : Row VersionR.enc 3 w A l) :
    Calls Try.prog 98 #[.slice A l.length c, .func (.func 71) #[] #[]] w fun e w' => e = .returned (.bool (ascB cmpVer l)) ∧ Below w.heap.size w w' := by
  have hal := ha.1
  go_enter Try.func98, Try.ntmps98
  go_wp2
  go_loopw [5] (fun i wr => ∃ k : Nat, k ≤ l.length ∧ i = .int .i64 (k + 1) ∧ ascB cmpVer (l.take (k + 1)) = true ∧ Below w.heap.size w wr) (fun i _ => l.length + 1 - (intOf i).toNat)
  case atStart => exact ⟨0, Nat.zero_le _, rfl, asc_one _ _, Below.refl _ _⟩
  case round =>
    obtain ⟨k, hk, rfl, hall, hbw⟩ := hrel
    have Hall := Lib.hid hall
    clear hall
    by_cases hlt : k + 1 < l.length
    · obtain ⟨b, off, hA, _, q0, q1, q2⟩ := (ha.keep hbw).atVersion (i := k) (by omega)
      obtain ⟨b', off', hA', _, r0, r1, r2⟩ := (ha.keep hbw).atVersion hlt
      subst hA
      injection hA' with hA'
      injection hA' with e1 e2
      subst e1 e2
      have hx : l[k]? = some l[k] := List.getElem?_eq_getElem (by omega)
      have hy : l[k + 1]? = some l[k + 1] := List.getElem?_eq_getElem hlt
      generalize l[k] = x at *
      generalize l[k + 1] = y at *
      have Hx := Lib.hid hx
      have Hy := Lib.hid hy
      clear hx hy ha
      have i0 : (0 : Int) ≤ (k : Int) := by omega
      have i2 : (0 : Int) ≤ (k : Int) + 1 := by omega
      have i1 : ((k : Int) + 1) < (l.length : Int) := by omega
      have i3 : (k : Int) < (l.length : Int) := by omega
      have i4 : k < l.length := by omega
      have i5 : ((k : Int) + 1).toNat = k + 1 := by omega
      go_wp2_with fail
      have hwk : IntKind.i64.wrap (k : Int) = (k : Int) := IntWalk.i64_in _ (by omega)
      refine wp_region_still_tail 10 (by kernel_rfl) (by kernel_rfl) ?_
      change wpStill _ _ wr.drew (fun a' => wpList _ _ _ _ a' wr.drew) _ _
      simp only [List.take_succ_cons, List.take_zero, List.drop_succ_cons, List.drop_zero]
      repeat still_step
      clear hwk
      refine wpStill_nil ?_
      go_wp2_with fail
      refine (cmpVerI_any x y _).mono ?_
      rintro e w1 ⟨rfl, hb1⟩
      have hbw1 : Below w.heap.size w w1 := hbw.drew.trans (hb1.mono (by have := hbw.size; simpa using this))
      clear hb1
      by_cases hc : cmpVer x y < 0
      · have hn := asc_next Hall.out Hx.out Hy.out hc
        have Hn := Lib.hid hn
        have hd : ¬ (0 ≤ cmpVer x y) := by omega
        clear hn
        go_wp2
        go_roundw
        case rel => exact ⟨k + 1, by omega, val_int (by omega), Hn.out, hbw1⟩
        case measure => simp [intOf]; omega
      · have hn := asc_stop Hx.out Hy.out hc
        have Hn := Lib.hid hn
        have hd : 0 ≤ cmpVer x y := by omega
        clear hn hc
        go_wp2
        go_returns
        exact ⟨ret_bool Hn.out.symm, hbw1⟩
    · have hn : ascB cmpVer l = true := by
        have h := Hall.out
        rwa [List.take_of_length_le (by omega)] at h
      have Hn := Lib.hid hn
      clear hn
      go_wp2
      all_goals go_returns
      all_goals exact ⟨ret_bool Hn.out.symm, hbw⟩
set_option maxHeartbeats 1000000 in
theorem implVers_any (A : Option Addr) (c : Nat) (l : List VersionR) (w : World) (ha : Row VersionR.enc 3 w A l) :
    Calls Try.prog 68 #[.slice A l.length c] w fun e w' => e = .returned (.bool (vVers l)) ∧ Below w.heap.size w w' := by
  have hal := ha.1
  have hn : vVers l = (decide (l.length ≤ 40) && (l.all vVerB && ascB cmpVer l)) := by unfold vVers; rw [Bool.and_assoc]
  by_cases h40 : l.length ≤ 40
  · rcases Bool.eq_false_or_eq_true (l.all vVerB) with hv | hv
    all_goals
      rw [decide_eq_true h40, Bool.true_and, hv] at hn
      have Hn := Lib.hid hn
      have Hv := Lib.hid hv
      clear hn hv
      go_enter Try.func68, Try.ntmps68
      go_wp2_with fail
      refine (implAllVer_any A c l w ha).mono ?_
      rintro e w1 ⟨rfl, hb1⟩
      rw [Hv.out]
    · go_wp2_with fail
      refine (implAscVer_any A c l w1 (ha.keep hb1)).mono ?_
      rintro e w2 ⟨rfl, hb2⟩
      go_wp2
      all_goals go_returns
      all_goals exact ⟨ret_bool (by rw [Hn.out]; simp), hb1.trans (hb2.mono hb1.size)⟩
    · go_wp2
      all_goals go_returns
      all_goals exact ⟨ret_bool (by rw [Hn.out]; simp), hb1⟩
  · rw [decide_eq_false h40, Bool.false_and] at hn
    have Hn := Lib.hid hn
    clear hn
    go_enter Try.func68, Try.ntmps68
    go_wp2
    all_goals go_returns
    all_goals exact ⟨ret_bool Hn.out.symm, Below.refl _ _⟩
set_option maxRecDepth 100000 in
set_option maxHeartbeats 4000000 in
theorem specVers_any (A : Option Addr) (c : Nat) (l : List VersionR) (w : World) (ha : Row VersionR.enc 3 w A l) :
    Calls Try.prog 73 #[.slice A l.length c] w fun e w' => e = .returned (.bool (vVers l)) ∧ Below w.heap.size w w' := by
  have hal := ha.1
  go_enter Try.func73, Try.ntmps73
  go_wp2
  go_loopw [3] (fun i wr => ∃ k : Nat, k ≤ l.length ∧ i = .int .i64 k ∧ ((l.take k).all vVerB = true ∧ ascB cmpVer (l.take k) = true) ∧ Below w.heap.size w wr) (fun i _ => l.length - (intOf i).toNat)
  case atStart => exact ⟨0, Nat.zero_le _, rfl, ⟨by simp, asc_zero _ _⟩, Below.refl _ _⟩
  case round =>
    obtain ⟨k0, hk, rfl, hall, hbw⟩ := hrel
    have Hall := Lib.hid hall
    clear hall
    by_cases hlt0 : k0 < l.length
    · rcases k0 with _ | k
      · obtain ⟨b, off, rfl, hblt, r0, r1, r2⟩ := (ha.keep hbw).atVersion hlt0
        have hy : l[0]? = some l[0] := List.getElem?_eq_getElem hlt0
        generalize l[0] = y at *
        have Hy := Lib.hid hy
        simp only [Nat.zero_mul, Nat.add_zero] at r0 r1 r2
        clear hy ha
        have i3 : (0 : Int) < (l.length : Int) := by omega
        rcases Bool.eq_false_or_eq_true (vVerB y) with hv | hv
        all_goals
          have Hv := Lib.hid hv
          have R0 := Bw.cellOf hblt r0
          have R1 := Bw.cellOf hblt r1
          have R2 := Bw.cellOf hblt r2
          go_wp2_with fail
          refine wp_region_quiet_below (by kernel_rfl) (by kernel_rfl) ?_
          repeat (any_goals (go_big_quiet_step (first | (go_at_call 74; refine Calls.below_of (specValidVersion_any y _)))))
          refine wpQuiet_nil ?_
          intro w1 hb1
          clear hv
        · have hall2 := all_next Hall.out.1 Hy.out Hv.out
          have Hn := Lib.hid (show (l.take (0 + 1)).all vVerB = true ∧ ascB cmpVer (l.take (0 + 1)) = true from ⟨hall2, asc_one _ _⟩)
          have hbw1 := hbw.trans (hb1.mono hbw.size)
          clear hall2
          go_wp2
          go_roundw
          case rel => exact ⟨1, by omega, rfl, Hn.out, hbw1⟩
          case measure => simp [intOf]; omega
        · have hn : vVers l = false := by unfold vVers; rw [all_stop Hy.out Hv.out, Bool.and_false, Bool.false_and]
          have Hn := Lib.hid hn
          have hbw1 := hbw.trans (hb1.mono hbw.size)
          clear hn
          go_wp2
          go_returns
          exact ⟨ret_bool Hn.out.symm, hbw1⟩
      · obtain ⟨b, off, hA, hblt, q0, q1, q2⟩ := (ha.keep hbw).atVersion (i := k) (by omega)
        obtain ⟨b', off', hA', _, r0, r1, r2⟩ := (ha.keep hbw).atVersion hlt0
        subst hA
        injection hA' with hA'
        injection hA' with e1 e2
        subst e1 e2
        have hx : l[k]? = some l[k] := List.getElem?_eq_getElem (by omega)
        have hy : l[k + 1]? = some l[k + 1] := List.getElem?_eq_getElem hlt0
        generalize l[k] = x at *
        generalize l[k + 1] = y at *
        have Hx := Lib.hid hx
        have Hy := Lib.hid hy
        clear hx hy ha
        have i0 : (0 : Int) ≤ (k : Int) := by omega
        have i2 : (0 : Int) ≤ (k : Int) + 1 := by omega
        have i1 : ((k : Int) + 1) < (l.length : Int) := by omega
        have i3 : (k : Int) < (l.length : Int) := by omega
        have i4 : k < l.length := by omega
        have i5 : ((k : Int) + 1).toNat = k + 1 := by omega
        have i6 : decide ((0 : Int) < (k : Int) + 1) = true := by simp
        rcases Bool.eq_false_or_eq_true (vVerB y) with hv | hv
        · have Hv := Lib.hid hv
          have Q0 := Bw.cellOf hblt q0
          have Q1 := Bw.cellOf hblt q1
          have Q2 := Bw.cellOf hblt q2
          have R0 := Bw.cellOf hblt r0
          have R1 := Bw.cellOf hblt r1
          have R2 := Bw.cellOf hblt r2
          go_wp2_with fail
          have hwk : IntKind.i64.wrap (k : Int) = (k : Int) := IntWalk.i64_in _ (by omega)
          refine wp_region_quiet_below (by kernel_rfl) (by kernel_rfl) ?_
          repeat (any_goals (go_big_quiet_step (first | (go_at_call 74; refine Calls.below_of (specValidVersion_any y _)) | (go_at_call 75; refine Calls.below_of (cmpVerS_any x y _)))))
          refine wpQuiet_nil ?_
          intro w1 hb1
          clear hwk hv
          have hbw1 := hbw.trans (hb1.mono hbw.size)
          by_cases hc : cmpVer x y < 0
          · have hall2 := all_next Hall.out.1 Hy.out Hv.out
            have Hn := Lib.hid (show (l.take (k + 1 + 1)).all vVerB = true ∧ ascB cmpVer (l.take (k + 1 + 1)) = true from ⟨hall2, asc_next Hall.out.2 Hx.out Hy.out hc⟩)
            have hd : ¬ (0 ≤ cmpVer x y) := by omega
            clear hall2
            go_wp2
            go_roundw
            case rel => exact ⟨k + 1 + 1, by omega, by go_num, Hn.out, hbw1⟩
            case measure => simp [intOf]; omega
          · have hn : vVers l = false := by unfold vVers; rw [asc_stop Hx.out Hy.out hc, Bool.and_false]
            have Hn := Lib.hid hn
            have hd : 0 ≤ cmpVer x y := by omega
            clear hn hc
            go_wp2
            go_returns
            exact ⟨ret_bool Hn.out.symm, hbw1⟩
        · have Hv := Lib.hid hv
          have R0 := Bw.cellOf hblt r0
          have R1 := Bw.cellOf hblt r1
          have R2 := Bw.cellOf hblt r2
          go_wp2_with fail
          refine wp_region_quiet_below (by kernel_rfl) (by kernel_rfl) ?_
          repeat (any_goals (go_big_quiet_step (first | (go_at_call 74; refine Calls.below_of (specValidVersion_any y _)))))
          refine wpQuiet_nil ?_
          intro w1 hb1
          clear hv
          have hn : vVers l = false := by unfold vVers; rw [all_stop Hy.out Hv.out, Bool.and_false, Bool.false_and]
          have Hn := Lib.hid hn
          have hbw1 := hbw.trans (hb1.mono hbw.size)
          clear hn
          go_wp2
          go_returns
          exact ⟨ret_bool Hn.out.symm, hbw1⟩
    · have hn : vVers l = decide ((l.length : Int) ≤ 40) := by
        have h := Hall.out
        rw [List.take_of_length_le (by omega)] at h
        unfold vVers
        rw [h.1, h.2, Bool.and_true, Bool.and_true]
        exact decide_eq_decide.2 (by omega)
      have Hn := Lib.hid hn
      clear hn
      go_wp2
      all_goals go_returns
      all_goals exact ⟨ret_bool (by first | (rw [Hn.out]; done) | (rw [Hn.out]; simp; omega)), hbw⟩
theorem ver_pw {l : List VersionR} (hv : vVers l = true) : l.Pairwise (fun x y => cmpVer x y < 0) := by
  unfold vVers at hv
  rw [Bool.and_eq_true] at hv
  exact asc_pairwise (c := cmpVer) (fun x y z => cmp2_trans _ _ _ _ _ _) hv.2
theorem ver_len {l : List VersionR} (hv : vVers l = true) : l.length ≤ 40 := by
  unfold vVers at hv
  rw [Bool.and_eq_true, Bool.and_eq_true] at hv
  exact of_decide_eq_true hv.1.1
theorem ver_bd {l : List VersionR} (hv : vVers l = true) {k : Nat} {x : VersionR} (hx : l[k]? = some x) : 0 ≤ x.a0 ∧ x.a0 ≤ 15 ∧ 0 ≤ x.a1 ∧ x.a1 ≤ 999 ∧ 0 ≤ x.a2 ∧ x.a2 ≤ 99 := by
  unfold vVers at hv
  rw [Bool.and_eq_true, Bool.and_eq_true, List.all_eq_true] at hv
  have := hv.1.2 x (List.mem_of_getElem? hx)
  unfold vVerB at this
  exact of_decide_eq_true this
end Go.Proofs.Ytjjjlpnbniofjab
