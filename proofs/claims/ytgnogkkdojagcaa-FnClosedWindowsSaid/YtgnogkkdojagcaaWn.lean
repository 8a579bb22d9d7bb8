import Derived.Test.YtgnogkkdojagcaaTyWindow
namespace Go.Proofs.Ytgnogkkdojagcaa
open Go.RowKit
def vWnB (e : WindowR) : Bool := decide (-999 ≤ e.a0 ∧ e.a0 ≤ 999 ∧ e.a0 < e.a1 ∧ e.a1 ≤ 1998)
def vWns (l : List WindowR) : Bool := decide (l.length ≤ 40) && l.all vWnB
set_option maxHeartbeats 1000000 in
theorem specWn_any (x : WindowR) (w : World) : Calls Try.prog 52 #[.agg #[.int .i64 x.a0, .int .i64 x.a1]] w
    fun e w' => e = .returned (.bool (vWnB x)) ∧ Below w.heap.size w w' := by
  go_enter Try.func52, Try.ntmps52
  go_wp2
  all_goals go_returns
  all_goals refine ⟨ret_bool ?_, by go_grown⟩
  all_goals
    unfold vWnB
    first | (symm; rw [decide_eq_true_eq]; omega) | (symm; rw [decide_eq_false_iff_not]; omega) | (rw [Bool.eq_iff_iff]; simp; omega)
set_option maxHeartbeats 1000000 in
theorem implWn_any (x : WindowR) (w : World) : Calls Try.prog 32 #[.agg #[.int .i64 x.a0, .int .i64 x.a1]] w
    fun e w' => e = .returned (.bool (vWnB x)) ∧ Below w.heap.size w w' := by
  go_enter Try.func32, Try.ntmps32
  go_wp2
  all_goals go_returns
  all_goals refine ⟨ret_bool ?_, by go_grown⟩
  all_goals
    unfold vWnB
    first | (symm; rw [decide_eq_true_eq]; omega) | (symm; rw [decide_eq_false_iff_not]; omega) | (rw [Bool.eq_iff_iff]; simp; omega)
set_option maxHeartbeats 1000000 in
theorem specWns_any (A : Option Addr) (c : Nat) (l : List WindowR) (w : World) (ha : Row WindowR.enc 2 w A l) :
    Calls Try.prog 30 #[.slice A l.length c] w fun e w' => e = .returned (.bool (vWns l)) ∧ Below w.heap.size w w' := by
  have hal := ha.1
  go_enter Try.func30, Try.ntmps30
  go_wp2
  go_loopw [3] (fun i wr => ∃ k : Nat, k ≤ l.length ∧ i = .int .i64 k ∧ (l.take k).all vWnB = true ∧ Below w.heap.size w wr) (fun i _ => l.length - (intOf i).toNat)
  case atStart => exact ⟨0, Nat.zero_le _, rfl, by simp, Below.refl _ _⟩
  case round =>
    obtain ⟨k, hk, rfl, hall, hbw⟩ := hrel
    have Hall := Lib.hid hall
    clear hall
    by_cases hlt : k < l.length
    · obtain ⟨b, off, rfl, _, q0, q1⟩ := (ha.keep hbw).atWindow hlt
      have hx := List.getElem?_eq_getElem hlt
      generalize l[k] = x at *
      have Hx := Lib.hid hx
      clear hx ha
      go_wp2_with fail
      refine (specWn_any x _).mono ?_
      rintro e w1 ⟨rfl, hb1⟩
      have hbw1 := hbw.trans (hb1.mono hbw.size)
      clear hb1
      rcases Bool.eq_false_or_eq_true (vWnB x) with hv | hv
      · have hn := all_next Hall.out Hx.out hv
        have Hn := Lib.hid hn
        rw [hv]
        clear hv hn
        go_wp2
        go_roundw
        case rel => exact ⟨k + 1, by omega, by go_num, Hn.out, hbw1⟩
        case measure => simp [intOf]; omega
      · have hn : vWns l = false := by unfold vWns; rw [all_stop Hx.out hv, Bool.and_false]
        have Hn := Lib.hid hn
        rw [hv]
        clear hv hn
        go_wp2
        go_returns
        exact ⟨ret_bool Hn.out.symm, hbw1⟩
    · have hn : vWns l = decide ((l.length : Int) ≤ 40) := by
        have h := Hall.out
        rw [List.take_of_length_le (by omega)] at h
        unfold vWns
        rw [h, Bool.and_true]
        exact decide_eq_decide.2 (by omega)
      have Hn := Lib.hid hn
      clear hn
      go_wp2
      all_goals go_returns
      all_goals exact ⟨ret_bool (by first | (rw [Hn.out]; done) | (rw [Hn.out]; simp; omega)), hbw⟩
set_option maxHeartbeats 1000000 in
theorem implAllWn_any (A : Option Addr) (c : Nat) (l : List WindowR) (w : World) (ha : Row WindowR.enc 2 w A l) :
    Calls Try.prog 50 #[.slice A l.length c, .func (.func 32) #[] #[]] w fun e w' => e = .returned (.bool (l.all vWnB)) ∧ Below w.heap.size w w' := by
  have hal := ha.1
  go_enter Try.func50, Try.ntmps50
  go_wp2
  go_loopw [9] (fun i wr => ∃ k : Nat, k ≤ l.length ∧ i = .int .i64 k ∧ (l.take k).all vWnB = true ∧ Below w.heap.size w wr) (fun i _ => l.length - (intOf i).toNat)
  case atStart => exact ⟨0, Nat.zero_le _, rfl, by simp, Below.refl _ _⟩
  case round =>
    obtain ⟨k, hk, rfl, hall, hbw⟩ := hrel
    have Hall := Lib.hid hall
    clear hall
    by_cases hlt : k < l.length
    · obtain ⟨b, off, rfl, _, q0, q1⟩ := (ha.keep hbw).atWindow hlt
      have hx := List.getElem?_eq_getElem hlt
      generalize l[k] = x at *
      have Hx := Lib.hid hx
      clear hx ha
      go_wp2_with fail
      refine (implWn_any x _).mono ?_
      rintro e w1 ⟨rfl, hb1⟩
      have hbw1 := (hbw.alloc hbw.size (.cells #[.int .i64 x.a0, .int .i64 x.a1] 32)).trans (hb1.mono (by have := hbw.size; simp; omega))
      clear hb1
      rcases Bool.eq_false_or_eq_true (vWnB x) with hv | hv
      · have hn := all_next Hall.out Hx.out hv
        have Hn := Lib.hid hn
        rw [hv]
        clear hv hn
        go_wp2
        go_roundw
        case rel => exact ⟨k + 1, by omega, by go_num, Hn.out, hbw1⟩
        case measure => simp [intOf]; omega
      · have hn := all_stop Hx.out hv
        have Hn := Lib.hid hn
        rw [hv]
        clear hv hn
        go_wp2
        go_returns
        exact ⟨ret_bool Hn.out.symm, hbw1⟩
    · have hn : l.all vWnB = true := by
        have h := Hall.out
        rwa [List.take_of_length_le (by omega)] at h
      have Hn := Lib.hid hn
      clear hn
      go_wp2
      all_goals go_returns
      all_goals exact ⟨ret_bool Hn.out.symm, hbw⟩
set_option maxHeartbeats 1000000 in
theorem implWns_any (A : Option Addr) (c : Nat) (l : List WindowR) (w : World) (ha : Row WindowR.enc 2 w A l) :
    Calls Try.prog 25 #[.slice A l.length c] w fun e w' => e = .returned (.bool (vWns l)) ∧ Below w.heap.size w w' := by
  have hal := ha.1
  by_cases h40 : l.length ≤ 40
  · have hn : vWns l = l.all vWnB := by unfold vWns; rw [decide_eq_true h40, Bool.true_and]
    have Hn := Lib.hid hn
    clear hn
    go_enter Try.func25, Try.ntmps25
    go_wp2_with fail
    refine (implAllWn_any A c l w ha).mono ?_
    rintro e w1 ⟨rfl, hb1⟩
    go_wp2
    all_goals go_returns
    all_goals exact ⟨ret_bool Hn.out.symm, hb1⟩
  · have hn : vWns l = false := by unfold vWns; rw [decide_eq_false h40, Bool.false_and]
    have Hn := Lib.hid hn
    clear hn
    go_enter Try.func25, Try.ntmps25
    go_wp2
    all_goals go_returns
    all_goals exact ⟨ret_bool Hn.out.symm, Below.refl _ _⟩
end Go.Proofs.Ytgnogkkdojagcaa
