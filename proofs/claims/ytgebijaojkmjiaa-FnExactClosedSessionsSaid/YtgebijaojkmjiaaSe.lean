import Derived.Test.YtgebijaojkmjiaaTySession
import Derived.Test.YtgebijaojkmjiaaPure
import Derived.Test.YtgebijaojkmjiaaInR
import Derived.Test.YtgebijaojkmjiaaQb
import Derived.IntWalk
namespace Go.Proofs.Ytgebijaojkmjiaa
open Go.RowKit
def vSeB (s : SessionR) : Bool := decide (0 ≤ s.a0 ∧ s.a0 ≤ 999 ∧ s.a0 + 1 ≤ s.a1 ∧ s.a1 ≤ 1998 ∧ 1 ≤ s.a2 ∧ s.a2 ≤ 40 ∧ 0 ≤ s.a3 ∧ s.a3 ≤ s.a2 * 99)
/-- Negative exactly if the second one does not start before the end of the first one. -/
def cmpSe (x y : SessionR) : Int := if y.a0 < x.a1 then 0 else -1
def vSes (l : List SessionR) : Bool := decide (l.length ≤ 40) && l.all vSeB && ascB cmpSe l
theorem cmpSe_neg (x y : SessionR) : cmpSe x y < 0 ↔ x.a1 ≤ y.a0 := by unfold cmpSe; split <;> omega
theorem se_bd {x : SessionR} (h : vSeB x = true) : 0 ≤ x.a0 ∧ x.a0 ≤ 999 ∧ x.a0 + 1 ≤ x.a1 ∧ x.a1 ≤ 1998 ∧ 1 ≤ x.a2 ∧ x.a2 ≤ 40 ∧ 0 ≤ x.a3 ∧ x.a3 ≤ x.a2 * 99 := of_decide_eq_true h
set_option maxHeartbeats 1000000 in
theorem implValidSession_any (x : SessionR) (w : World) : Calls Try.prog 136 #[.agg #[.int .i64 x.a0, .int .i64 x.a1, .int .i64 x.a2, .int .i64 x.a3]] w
    fun e w' => e = .returned (.bool (vSeB x)) ∧ Below w.heap.size w w' := by
  go_enter Try.func136, Try.ntmps136
  go_wp2
  all_goals go_returns
  all_goals refine ⟨ret_bool ?_, by go_grown⟩
  all_goals
    unfold vSeB
    first | (symm; rw [decide_eq_true_eq]; omega) | (symm; rw [decide_eq_false_iff_not]; omega) | (rw [Bool.eq_iff_iff]; simp; omega)
set_option maxHeartbeats 1000000 in
theorem implAllSe_any (A : Option Addr) (c : Nat) (l : List SessionR) (w : World) (ha : Row SessionR.enc 4 w A l) :
    Calls Try.prog 135 #[.slice A l.length c, .func (.func 136) #[] #[]] w fun e w' => e = .returned (.bool (l.all vSeB)) ∧ Below w.heap.size w w' := by
  have hal := ha.1
  go_enter Try.func135, Try.ntmps135
  go_wp2
  go_loopw [9] (fun i wr => ∃ k : Nat, k ≤ l.length ∧ i = .int .i64 k ∧ (l.take k).all vSeB = true ∧ Below w.heap.size w wr) (fun i _ => l.length - (intOf i).toNat)
  case atStart => exact ⟨0, Nat.zero_le _, rfl, by simp, Below.refl _ _⟩
  case round =>
    obtain ⟨k, hk, rfl, hall, hbw⟩ := hrel
    have Hall := Lib.hid hall
    clear hall
    by_cases hlt : k < l.length
    · obtain ⟨b, off, rfl, _, q0, q1, q2, q3⟩ := (ha.keep hbw).atSession hlt
      have hx := List.getElem?_eq_getElem hlt
      generalize l[k] = x at *
      have Hx := Lib.hid hx
      clear hx ha
      go_wp2_with fail
      refine (implValidSession_any x _).mono ?_
      rintro e w1 ⟨rfl, hb1⟩
      have hbw1 := (hbw.alloc hbw.size (.cells #[.int .i64 x.a0, .int .i64 x.a1, .int .i64 x.a2, .int .i64 x.a3] 133)).trans (hb1.mono (by have := hbw.size; simp; omega))
      clear hb1
      rcases Bool.eq_false_or_eq_true (vSeB x) with hv | hv
      · have hn := all_next Hall.out Hx.out hv
        have Hn := Lib.hid hn
        rw [hv]
        clear hv hn
        go_wp2
        go_roundw
        case rel => exact ⟨k + 1, by omega, by go_num, Hn.out, hbw1⟩
        case measure => simp [intOf]; omega
      · have hn := all_stop Hx.out hv
        have Hn := Lib.hid hn
        rw [hv]
        clear hv hn
        go_wp2
        go_returns
        exact ⟨ret_bool Hn.out.symm, hbw1⟩
    · have hn : l.all vSeB = true := by
        have h := Hall.out
        rwa [List.take_of_length_le (by omega)] at h
      have Hn := Lib.hid hn
      clear hn
      go_wp2
      all_goals go_returns
      all_goals exact ⟨ret_bool Hn.out.symm, hbw⟩
set_option maxRecDepth 100000 in
set_option maxHeartbeats 2000000 in
theorem implApart_any (A : Option Addr) (c : Nat) (l : List SessionR) (w : World) (ha : Row SessionR.enc 4 w A l) (hv : l.all vSeB = true) :
    Calls Try.prog 137 #[.slice A l.length c] w fun e w' => e = .returned (.bool (ascB cmpSe l)) ∧ Below w.heap.size w w' := by
  have hal := ha.1
  go_enter Try.func137, Try.ntmps137
  go_wp2
  go_loopw [3] (fun i wr => ∃ k : Nat, k ≤ l.length ∧ i = .int .i64 (k + 1) ∧ ascB cmpSe (l.take (k + 1)) = true ∧ Below w.heap.size w wr) (fun i _ => l.length + 1 - (intOf i).toNat)
  case atStart => exact ⟨0, Nat.zero_le _, rfl, asc_one _ _, Below.refl _ _⟩
  case round =>
    obtain ⟨k, hk, rfl, hall, hbw⟩ := hrel
    have Hall := Lib.hid hall
    clear hall
    by_cases hlt : k + 1 < l.length
    · obtain ⟨b, off, hA, hblt, q0, q1, q2, q3⟩ := (ha.keep hbw).atSession (i := k) (by omega)
      obtain ⟨b', off', hA', _, r0, r1, r2, r3⟩ := (ha.keep hbw).atSession hlt
      subst hA
      injection hA' with hA'
      injection hA' with e1 e2
      subst e1 e2
      have hx : l[k]? = some l[k] := List.getElem?_eq_getElem (by omega)
      have hy : l[k + 1]? = some l[k + 1] := List.getElem?_eq_getElem hlt
      generalize l[k] = x at *
      generalize l[k + 1] = y at *
      have Hx := Lib.hid hx
      have Hy := Lib.hid hy
      have Q1 := Bw.cellOf hblt q1
      have R0 := Bw.cellOf hblt r0
      clear hx hy ha
      have i0 : (0 : Int) ≤ (k : Int) := by omega
      have i2 : (0 : Int) ≤ (k : Int) + 1 := by omega
      have i1 : ((k : Int) + 1) < (l.length : Int) := by omega
      have i3 : (k : Int) < (l.length : Int) := by omega
      have i5 : ((k : Int) + 1).toNat = k + 1 := by omega
      by_cases hc : x.a1 ≤ y.a0
      · have hn := asc_next Hall.out Hx.out Hy.out ((cmpSe_neg x y).2 hc)
        have Hn := Lib.hid hn
        have hd : decide (y.a0 < x.a1) = false := decide_eq_false (by omega)
        clear hn
        go_wp2_with fail
        have hwk : IntKind.i64.wrap (k : Int) = (k : Int) := IntWalk.i64_in _ (by omega)
        refine wp_region_quiet_below (by kernel_rfl) (by kernel_rfl) ?_
        repeat (any_goals (go_big_quiet_step (fail)))
        clear hwk
        refine wpQuiet_nil ?_
        intro w1 hb1
        have hbw1 := hbw.trans (hb1.mono hbw.size)
        go_wp2
        go_roundw
        case rel => exact ⟨k + 1, by omega, val_int (by omega), Hn.out, hbw1⟩
        case measure => simp [intOf]; omega
      · have hn := asc_stop Hx.out Hy.out (fun h => hc ((cmpSe_neg x y).1 h))
        have Hn := Lib.hid hn
        have hd : decide (y.a0 < x.a1) = true := decide_eq_true (by omega)
        clear hn hc
        go_wp2_with fail
        have hwk : IntKind.i64.wrap (k : Int) = (k : Int) := IntWalk.i64_in _ (by omega)
        refine wp_region_quiet_below (by kernel_rfl) (by kernel_rfl) ?_
        repeat (any_goals (go_big_quiet_step (fail)))
        clear hwk
        refine wpQuiet_nil ?_
        intro w1 hb1
        have hbw1 := hbw.trans (hb1.mono hbw.size)
        go_wp2
        go_returns
        exact ⟨ret_bool Hn.out.symm, hbw1⟩
    · have hn : ascB cmpSe l = true := by
        have h := Hall.out
        rwa [List.take_of_length_le (by omega)] at h
      have Hn := Lib.hid hn
      clear hn
      go_wp2
      all_goals go_returns
      all_goals exact ⟨ret_bool Hn.out.symm, hbw⟩
set_option maxHeartbeats 1000000 in
theorem implSes_any (A : Option Addr) (c : Nat) (l : List SessionR) (w : World) (ha : Row SessionR.enc 4 w A l) :
    Calls Try.prog 113 #[.slice A l.length c] w fun e w' => e = .returned (.bool (vSes l)) ∧ Below w.heap.size w w' := by
  have hal := ha.1
  have hn : vSes l = (decide (l.length ≤ 40) && (l.all vSeB && ascB cmpSe l)) := by unfold vSes; rw [Bool.and_assoc]
  by_cases h40 : l.length ≤ 40
  · rcases Bool.eq_false_or_eq_true (l.all vSeB) with hv | hv
    all_goals
      rw [decide_eq_true h40, Bool.true_and, hv] at hn
      have Hn := Lib.hid hn
      have Hv := Lib.hid hv
      clear hn hv
      go_enter Try.func113, Try.ntmps113
      go_wp2_with fail
      refine (implAllSe_any A c l w ha).mono ?_
      rintro e w1 ⟨rfl, hb1⟩
      rw [Hv.out]
    · go_wp2_with fail
      refine (implApart_any A c l w1 (ha.keep hb1) Hv.out).mono ?_
      rintro e w2 ⟨rfl, hb2⟩
      go_wp2
      all_goals go_returns
      all_goals exact ⟨ret_bool (by rw [Hn.out]; simp), hb1.trans (hb2.mono hb1.size)⟩
    · go_wp2
      all_goals go_returns
      all_goals exact ⟨ret_bool (by rw [Hn.out]; simp), hb1⟩
  · rw [decide_eq_false h40, Bool.false_and] at hn
    have Hn := Lib.hid hn
    clear hn
    go_enter Try.func113, Try.ntmps113
    go_wp2
    all_goals go_returns
    all_goals exact ⟨ret_bool Hn.out.symm, Below.refl _ _⟩
set_option maxRecDepth 100000 in
set_option maxHeartbeats 8000000 in
theorem specSes_any (A : Option Addr) (c : Nat) (l : List SessionR) (w : World) (ha : Row SessionR.enc 4 w A l) :
    Calls Try.prog 111 #[.slice A l.length c] w fun e w' => e = .returned (.bool (vSes l)) ∧ Below w.heap.size w w' := by
  have hal := ha.1
  go_enter Try.func111, Try.ntmps111
  go_wp2
  go_loopw [3] (fun i wr => ∃ k : Nat, k ≤ l.length ∧ i = .int .i64 k ∧ ((l.take k).all vSeB = true ∧ ascB cmpSe (l.take k) = true) ∧ Below w.heap.size w wr) (fun i _ => l.length - (intOf i).toNat)
  case atStart => exact ⟨0, Nat.zero_le _, rfl, ⟨by simp, asc_zero _ _⟩, Below.refl _ _⟩
  case round =>
    obtain ⟨k0, hk, rfl, hall, hbw⟩ := hrel
    have Hall := Lib.hid hall
    clear hall
    by_cases hlt0 : k0 < l.length
    · obtain ⟨b, off, rfl, hb0, qw0, qw1, qw2, qw3⟩ := ha.atSession hlt0
      have hx : l[k0]? = some l[k0] := List.getElem?_eq_getElem hlt0
      generalize l[k0] = x at *
      have Hx := Lib.hid hx
      have q0 := (hbw.cell hb0).trans qw0
      have q1 := (hbw.cell hb0).trans qw1
      have q2 := (hbw.cell hb0).trans qw2
      have q3 := (hbw.cell hb0).trans qw3
      clear hx
      by_cases h1 : 0 ≤ x.a0 ∧ x.a0 ≤ 999
      · obtain ⟨a1, a2⟩ := h1
        by_cases h2 : x.a0 + 1 ≤ x.a1 ∧ x.a1 ≤ 1998
        · obtain ⟨a3, a4⟩ := h2
          by_cases h3 : 1 ≤ x.a2 ∧ x.a2 ≤ 40
          · obtain ⟨a5, a6⟩ := h3
            by_cases h4 : 0 ≤ x.a3 ∧ x.a3 ≤ x.a2 * 99
            · obtain ⟨a7, a8⟩ := h4
              have hv : vSeB x = true := decide_eq_true ⟨a1, a2, a3, a4, a5, a6, a7, a8⟩
              have Hv := Lib.hid hv
              have hall2 := Lib.hid (all_next Hall.out.1 Hx.out hv)
              have hbv : Below wr.heap.size wr (wr.alloc (.cells #[.int .i64 x.a0, .int .i64 x.a1, .int .i64 x.a2, .int .i64 x.a3] 133)) := (Below.refl _ _).alloc (Nat.le_refl _) _
              have hbwv := hbw.trans (hbv.mono hbw.size)
              have v0 : (wr.alloc (.cells #[.int .i64 x.a0, .int .i64 x.a1, .int .i64 x.a2, .int .i64 x.a3] 133)).cell? ⟨wr.heap.size, 0, none⟩ = some (.int .i64 x.a0) := by simp [go_sem]
              have hzv : wr.heap.size < (wr.alloc (.cells #[.int .i64 x.a0, .int .i64 x.a1, .int .i64 x.a2, .int .i64 x.a3] 133)).heap.size := by simp
              clear hv
              rcases k0 with _ | k
              · simp only [Nat.zero_mul, Nat.add_zero] at q0 q1 q2 q3
                have Hn := Lib.hid (show (l.take (0 + 1)).all vSeB = true ∧ ascB cmpSe (l.take (0 + 1)) = true from ⟨hall2.out, asc_one _ _⟩)
                clear hall2
                go_wp2_with (go_at_call 95; first | ((with_reducible refine (inRS_t x.a0 0 999 _ (by omega) (by omega)).mono ?_); rintro e w' ⟨rfl, rfl⟩) | ((with_reducible refine (inRS_t x.a1 (x.a0 + 1) 1998 _ (by omega) (by omega)).mono ?_); rintro e w' ⟨rfl, rfl⟩) | ((with_reducible refine (inRS_t x.a2 1 40 _ (by omega) (by omega)).mono ?_); rintro e w' ⟨rfl, rfl⟩) | ((with_reducible refine (inRS_t x.a3 0 (x.a2 * 99) _ (by omega) (by omega)).mono ?_); rintro e w' ⟨rfl, rfl⟩))
                generalize wr.alloc (.cells #[.int .i64 x.a0, .int .i64 x.a1, .int .i64 x.a2, .int .i64 x.a3] 133) = wv at *
                refine wp_region_quiet_below (by kernel_rfl) (by kernel_rfl) ?_
                repeat (any_goals (go_big_quiet_step (fail)))
                refine wpQuiet_nil ?_
                intro w1 hb1
                have hbw1 := hbwv.trans (hb1.mono hbwv.size)
                go_wp2
                go_roundw
                case rel => exact ⟨1, by omega, rfl, Hn.out, hbw1⟩
                case measure => simp [intOf]; omega
              · obtain ⟨b', off', e', _, rw0, rw1, rw2, rw3⟩ := ha.atSession (i := k) (by omega)
                injection e' with e'
                injection e' with e1 e2
                subst e1 e2
                have hy : l[k]? = some l[k] := List.getElem?_eq_getElem (by omega)
                generalize l[k] = y at *
                have Hy := Lib.hid hy
                have s1 := (hbwv.cell hb0).trans rw1
                have hbz : b < (wr.alloc (.cells #[.int .i64 x.a0, .int .i64 x.a1, .int .i64 x.a2, .int .i64 x.a3] 133)).heap.size := Nat.lt_of_lt_of_le hb0 hbwv.size
                have i0 : (0 : Int) ≤ (k : Int) := by omega
                have i1 : ((k : Int) + 1) < (l.length : Int) := by omega
                have i3 : (k : Int) < (l.length : Int) := by omega
                have i6 : decide ((0 : Int) < (k : Int) + 1) = true := by simp
                clear hy rw0 rw1 rw2 rw3
                by_cases hc : y.a1 ≤ x.a0
                · have Hn := Lib.hid (show (l.take (k + 1 + 1)).all vSeB = true ∧ ascB cmpSe (l.take (k + 1 + 1)) = true from ⟨hall2.out, asc_next Hall.out.2 Hy.out Hx.out ((cmpSe_neg y x).2 hc)⟩)
                  have hd : decide (x.a0 < y.a1) = false := decide_eq_false (by omega)
                  clear hall2
                  go_wp2_with (go_at_call 95; first | ((with_reducible refine (inRS_t x.a0 0 999 _ (by omega) (by omega)).mono ?_); rintro e w' ⟨rfl, rfl⟩) | ((with_reducible refine (inRS_t x.a1 (x.a0 + 1) 1998 _ (by omega) (by omega)).mono ?_); rintro e w' ⟨rfl, rfl⟩) | ((with_reducible refine (inRS_t x.a2 1 40 _ (by omega) (by omega)).mono ?_); rintro e w' ⟨rfl, rfl⟩) | ((with_reducible refine (inRS_t x.a3 0 (x.a2 * 99) _ (by omega) (by omega)).mono ?_); rintro e w' ⟨rfl, rfl⟩))
                  generalize wr.alloc (.cells #[.int .i64 x.a0, .int .i64 x.a1, .int .i64 x.a2, .int .i64 x.a3] 133) = wv at *
                  have V0 := Bw.cellOf hzv v0
                  have S1 := Bw.cellOf hbz s1
                  have hwk : IntKind.i64.wrap (k : Int) = (k : Int) := IntWalk.i64_in _ (by omega)
                  refine wp_region_quiet_below (by kernel_rfl) (by kernel_rfl) ?_
                  repeat (any_goals (go_big_quiet_step (fail)))
                  clear hwk
                  refine wpQuiet_nil ?_
                  intro w1 hb1
                  have hbw1 := hbwv.trans (hb1.mono hbwv.size)
                  go_wp2
                  go_roundw
                  case rel => exact ⟨k + 1 + 1, by omega, by go_num, Hn.out, hbw1⟩
                  case measure => simp [intOf]; omega
                · have hn : vSes l = false := by unfold vSes; rw [asc_stop Hy.out Hx.out (fun h => hc ((cmpSe_neg y x).1 h)), Bool.and_false]
                  have Hn := Lib.hid hn
                  have hd : decide (x.a0 < y.a1) = true := decide_eq_true (by omega)
                  clear hn hc hall2
                  go_wp2_with (go_at_call 95; first | ((with_reducible refine (inRS_t x.a0 0 999 _ (by omega) (by omega)).mono ?_); rintro e w' ⟨rfl, rfl⟩) | ((with_reducible refine (inRS_t x.a1 (x.a0 + 1) 1998 _ (by omega) (by omega)).mono ?_); rintro e w' ⟨rfl, rfl⟩) | ((with_reducible refine (inRS_t x.a2 1 40 _ (by omega) (by omega)).mono ?_); rintro e w' ⟨rfl, rfl⟩) | ((with_reducible refine (inRS_t x.a3 0 (x.a2 * 99) _ (by omega) (by omega)).mono ?_); rintro e w' ⟨rfl, rfl⟩))
                  generalize wr.alloc (.cells #[.int .i64 x.a0, .int .i64 x.a1, .int .i64 x.a2, .int .i64 x.a3] 133) = wv at *
                  have V0 := Bw.cellOf hzv v0
                  have S1 := Bw.cellOf hbz s1
                  have hwk : IntKind.i64.wrap (k : Int) = (k : Int) := IntWalk.i64_in _ (by omega)
                  refine wp_region_quiet_below (by kernel_rfl) (by kernel_rfl) ?_
                  repeat (any_goals (go_big_quiet_step (fail)))
                  clear hwk
                  refine wpQuiet_nil ?_
                  intro w1 hb1
                  have hbw1 := hbwv.trans (hb1.mono hbwv.size)
                  go_wp2
                  go_returns
                  exact ⟨ret_bool Hn.out.symm, hbw1⟩
            · have hf := h4
              have hbad : vSeB x = false := decide_eq_false (fun h => h4 ⟨h.2.2.2.2.2.2.1, h.2.2.2.2.2.2.2⟩)
              clear h4
              have hn : vSes l = false := by unfold vSes; rw [all_stop Hx.out hbad, Bool.and_false, Bool.false_and]
              have Hn := Lib.hid hn
              have HF := Lib.hid hf
              have hbv := hbw.alloc hbw.size (.cells #[.int .i64 x.a0, .int .i64 x.a1, .int .i64 x.a2, .int .i64 x.a3] 133)
              clear hn hbad hf
              go_wp2_with (go_at_call 95; first | ((with_reducible refine (inRS_t x.a0 0 999 _ (by omega) (by omega)).mono ?_); rintro e w' ⟨rfl, rfl⟩) | ((with_reducible refine (inRS_t x.a1 (x.a0 + 1) 1998 _ (by omega) (by omega)).mono ?_); rintro e w' ⟨rfl, rfl⟩) | ((with_reducible refine (inRS_t x.a2 1 40 _ (by omega) (by omega)).mono ?_); rintro e w' ⟨rfl, rfl⟩) | ((with_reducible refine (inRS_f x.a3 0 (x.a2 * 99) _ HF.out).mono ?_); rintro e w' ⟨rfl, rfl⟩))
              go_returns
              exact ⟨ret_bool Hn.out.symm, hbv⟩
          · have hf := h3
            have hbad : vSeB x = false := decide_eq_false (fun h => h3 ⟨h.2.2.2.2.1, h.2.2.2.2.2.1⟩)
            clear h3
            have hn : vSes l = false := by unfold vSes; rw [all_stop Hx.out hbad, Bool.and_false, Bool.false_and]
            have Hn := Lib.hid hn
            have HF := Lib.hid hf
            have hbv := hbw.alloc hbw.size (.cells #[.int .i64 x.a0, .int .i64 x.a1, .int .i64 x.a2, .int .i64 x.a3] 133)
            clear hn hbad hf
            go_wp2_with (go_at_call 95; first | ((with_reducible refine (inRS_t x.a0 0 999 _ (by omega) (by omega)).mono ?_); rintro e w' ⟨rfl, rfl⟩) | ((with_reducible refine (inRS_t x.a1 (x.a0 + 1) 1998 _ (by omega) (by omega)).mono ?_); rintro e w' ⟨rfl, rfl⟩) | ((with_reducible refine (inRS_f x.a2 1 40 _ HF.out).mono ?_); rintro e w' ⟨rfl, rfl⟩))
            go_returns
            exact ⟨ret_bool Hn.out.symm, hbv⟩
        · have hf := h2
          have hbad : vSeB x = false := decide_eq_false (fun h => h2 ⟨h.2.2.1, h.2.2.2.1⟩)
          clear h2
          have hn : vSes l = false := by unfold vSes; rw [all_stop Hx.out hbad, Bool.and_false, Bool.false_and]
          have Hn := Lib.hid hn
          have HF := Lib.hid hf
          have hbv := hbw.alloc hbw.size (.cells #[.int .i64 x.a0, .int .i64 x.a1, .int .i64 x.a2, .int .i64 x.a3] 133)
          clear hn hbad hf
          go_wp2_with (go_at_call 95; first | ((with_reducible refine (inRS_t x.a0 0 999 _ (by omega) (by omega)).mono ?_); rintro e w' ⟨rfl, rfl⟩) | ((with_reducible refine (inRS_f x.a1 (x.a0 + 1) 1998 _ HF.out).mono ?_); rintro e w' ⟨rfl, rfl⟩))
          go_returns
          exact ⟨ret_bool Hn.out.symm, hbv⟩
      · have hf := h1
        have hbad : vSeB x = false := decide_eq_false (fun h => h1 ⟨h.1, h.2.1⟩)
        clear h1
        have hn : vSes l = false := by unfold vSes; rw [all_stop Hx.out hbad, Bool.and_false, Bool.false_and]
        have Hn := Lib.hid hn
        have HF := Lib.hid hf
        have hbv := hbw.alloc hbw.size (.cells #[.int .i64 x.a0, .int .i64 x.a1, .int .i64 x.a2, .int .i64 x.a3] 133)
        clear hn hbad hf
        go_wp2_with (go_at_call 95; first | ((with_reducible refine (inRS_f x.a0 0 999 _ HF.out).mono ?_); rintro e w' ⟨rfl, rfl⟩))
        go_returns
        exact ⟨ret_bool Hn.out.symm, hbv⟩
    · have hn : vSes l = decide ((l.length : Int) ≤ 40) := by
        have h := Hall.out
        rw [List.take_of_length_le (by omega)] at h
        unfold vSes
        rw [h.1, h.2, Bool.and_true, Bool.and_true]
        exact decide_eq_decide.2 (by omega)
      have Hn := Lib.hid hn
      clear hn
      go_wp2
      all_goals go_returns
      all_goals exact ⟨ret_bool (by first | (rw [Hn.out]; done) | (rw [Hn.out]; simp; omega)), hbw⟩
end Go.Proofs.Ytgebijaojkmjiaa
