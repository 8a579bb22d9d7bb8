import Derived.Test.YtgnogkkdojagcaaTyEvent
namespace Go.Proofs.Ytgnogkkdojagcaa
open Go.RowKit
def vEvB (e : EventR) : Bool := decide (0 ≤ e.a0 ∧ e.a0 ≤ 999 ∧ 0 ≤ e.a1 ∧ e.a1 ≤ 15 ∧ 0 ≤ e.a2 ∧ e.a2 ≤ 99)
def vEvs (l : List EventR) : Bool := decide (l.length ≤ 40) && l.all vEvB
set_option maxHeartbeats 1000000 in
theorem specValidEvent_any (x : EventR) (w : World) : Calls Try.prog 58 #[.agg #[.int .i64 x.a0, .int .i64 x.a1, .int .i64 x.a2]] w
    fun e w' => e = .returned (.bool (vEvB x)) ∧ Below w.heap.size w w' := by
  go_enter Try.func58, Try.ntmps58
  go_wp2
  all_goals go_returns
  all_goals refine ⟨ret_bool ?_, by go_grown⟩
  all_goals
    unfold vEvB
    first | (symm; rw [decide_eq_true_eq]; omega) | (symm; rw [decide_eq_false_iff_not]; omega) | (rw [Bool.eq_iff_iff]; simp; omega)
set_option maxHeartbeats 1000000 in
theorem implValidEvent_any (x : EventR) (w : World) : Calls Try.prog 57 #[.agg #[.int .i64 x.a0, .int .i64 x.a1, .int .i64 x.a2]] w
    fun e w' => e = .returned (.bool (vEvB x)) ∧ Below w.heap.size w w' := by
  go_enter Try.func57, Try.ntmps57
  go_wp2
  all_goals go_returns
  all_goals refine ⟨ret_bool ?_, by go_grown⟩
  all_goals
    unfold vEvB
    first | (symm; rw [decide_eq_true_eq]; omega) | (symm; rw [decide_eq_false_iff_not]; omega) | (rw [Bool.eq_iff_iff]; simp; omega)
set_option maxHeartbeats 1000000 in
theorem specValidEvents_any (A : Option Addr) (c : Nat) (l : List EventR) (w : World) (ha : Row EventR.enc 3 w A l) :
    Calls Try.prog 38 #[.slice A l.length c] w fun e w' => e = .returned (.bool (vEvs l)) ∧ Below w.heap.size w w' := by
  have hal := ha.1
  go_enter Try.func38, Try.ntmps38
  go_wp2
  go_loopw [3] (fun i wr => ∃ k : Nat, k ≤ l.length ∧ i = .int .i64 k ∧ (l.take k).all vEvB = true ∧ Below w.heap.size w wr) (fun i _ => l.length - (intOf i).toNat)
  case atStart => exact ⟨0, Nat.zero_le _, rfl, by simp, Below.refl _ _⟩
  case round =>
    obtain ⟨k, hk, rfl, hall, hbw⟩ := hrel
    have Hall := Lib.hid hall
    clear hall
    by_cases hlt : k < l.length
    · obtain ⟨b, off, rfl, _, q0, q1, q2⟩ := (ha.keep hbw).atEvent hlt
      have hx := List.getElem?_eq_getElem hlt
      generalize l[k] = x at *
      have Hx := Lib.hid hx
      clear hx ha
      go_wp2_with fail
      refine (specValidEvent_any x _).mono ?_
      rintro e w1 ⟨rfl, hb1⟩
      have hbw1 := hbw.trans (hb1.mono hbw.size)
      clear hb1
      rcases Bool.eq_false_or_eq_true (vEvB x) with hv | hv
      · have hn := all_next Hall.out Hx.out hv
        have Hn := Lib.hid hn
        rw [hv]
        clear hv hn
        go_wp2
        go_roundw
        case rel => exact ⟨k + 1, by omega, by go_num, Hn.out, hbw1⟩
        case measure => simp [intOf]; omega
      · have hn : vEvs l = false := by unfold vEvs; rw [all_stop Hx.out hv, Bool.and_false]
        have Hn := Lib.hid hn
        rw [hv]
        clear hv hn
        go_wp2
        go_returns
        exact ⟨ret_bool Hn.out.symm, hbw1⟩
    · have hn : vEvs l = decide ((l.length : Int) ≤ 40) := by
        have h := Hall.out
        rw [List.take_of_length_le (by omega)] at h
        unfold vEvs
        rw [h, Bool.and_true]
        exact decide_eq_decide.2 (by omega)
      have Hn := Lib.hid hn
      clear hn
      go_wp2
      all_goals go_returns
      all_goals exact ⟨ret_bool (by first | (rw [Hn.out]; done) | (rw [Hn.out]; simp; omega)), hbw⟩
set_option maxHeartbeats 1000000 in
theorem implAllOf_any (A : Option Addr) (c : Nat) (l : List EventR) (w : World) (ha : Row EventR.enc 3 w A l) :
    Calls Try.prog 56 #[.slice A l.length c, .func (.func 57) #[] #[]] w fun e w' => e = .returned (.bool (l.all vEvB)) ∧ Below w.heap.size w w' := by
  have hal := ha.1
  go_enter Try.func56, Try.ntmps56
  go_wp2
  go_loopw [9] (fun i wr => ∃ k : Nat, k ≤ l.length ∧ i = .int .i64 k ∧ (l.take k).all vEvB = true ∧ Below w.heap.size w wr) (fun i _ => l.length - (intOf i).toNat)
  case atStart => exact ⟨0, Nat.zero_le _, rfl, by simp, Below.refl _ _⟩
  case round =>
    obtain ⟨k, hk, rfl, hall, hbw⟩ := hrel
    have Hall := Lib.hid hall
    clear hall
    by_cases hlt : k < l.length
    · obtain ⟨b, off, rfl, _, q0, q1, q2⟩ := (ha.keep hbw).atEvent hlt
      have hx := List.getElem?_eq_getElem hlt
      generalize l[k] = x at *
      have Hx := Lib.hid hx
      clear hx ha
      go_wp2_with fail
      refine (implValidEvent_any x _).mono ?_
      rintro e w1 ⟨rfl, hb1⟩
      have hbw1 := (hbw.alloc hbw.size (.cells #[.int .i64 x.a0, .int .i64 x.a1, .int .i64 x.a2] 42)).trans (hb1.mono (by have := hbw.size; simp; omega))
      clear hb1
      rcases Bool.eq_false_or_eq_true (vEvB x) with hv | hv
      · have hn := all_next Hall.out Hx.out hv
        have Hn := Lib.hid hn
        rw [hv]
        clear hv hn
        go_wp2
        go_roundw
        case rel => exact ⟨k + 1, by omega, by go_num, Hn.out, hbw1⟩
        case measure => simp [intOf]; omega
      · have hn := all_stop Hx.out hv
        have Hn := Lib.hid hn
        rw [hv]
        clear hv hn
        go_wp2
        go_returns
        exact ⟨ret_bool Hn.out.symm, hbw1⟩
    · have hn : l.all vEvB = true := by
        have h := Hall.out
        rwa [List.take_of_length_le (by omega)] at h
      have Hn := Lib.hid hn
      clear hn
      go_wp2
      all_goals go_returns
      all_goals exact ⟨ret_bool Hn.out.symm, hbw⟩
set_option maxHeartbeats 1000000 in
theorem implValidEvents_any (A : Option Addr) (c : Nat) (l : List EventR) (w : World) (ha : Row EventR.enc 3 w A l) :
    Calls Try.prog 35 #[.slice A l.length c] w fun e w' => e = .returned (.bool (vEvs l)) ∧ Below w.heap.size w w' := by
  have hal := ha.1
  by_cases h40 : l.length ≤ 40
  · have hn : vEvs l = l.all vEvB := by unfold vEvs; rw [decide_eq_true h40, Bool.true_and]
    have Hn := Lib.hid hn
    clear hn
    go_enter Try.func35, Try.ntmps35
    go_wp2_with fail
    refine (implAllOf_any A c l w ha).mono ?_
    rintro e w1 ⟨rfl, hb1⟩
    go_wp2
    all_goals go_returns
    all_goals exact ⟨ret_bool Hn.out.symm, hb1⟩
  · have hn : vEvs l = false := by unfold vEvs; rw [decide_eq_false h40, Bool.false_and]
    have Hn := Lib.hid hn
    clear hn
    go_enter Try.func35, Try.ntmps35
    go_wp2
    all_goals go_returns
    all_goals exact ⟨ret_bool Hn.out.symm, Below.refl _ _⟩
end Go.Proofs.Ytgnogkkdojagcaa
