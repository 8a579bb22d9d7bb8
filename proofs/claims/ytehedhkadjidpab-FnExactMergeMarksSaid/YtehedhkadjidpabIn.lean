import Derived.Test.YtehedhkadjidpabTyInput
import Derived.Test.YtehedhkadjidpabInR
namespace Go.Proofs.Ytehedhkadjidpab
open Go.RowKit
def vInB (e : InputR) : Bool := decide (-1 ≤ e.a0 ∧ e.a0 ≤ 999 ∧ 0 ≤ e.a1 ∧ e.a1 ≤ 9999)
def vIns (l : List InputR) : Bool := decide (1 ≤ l.length ∧ l.length ≤ 4) && l.all vInB
theorem in_bounds {l : List InputR} {k : Nat} {x : InputR} (h : vIns l = true) (hx : l[k]? = some x) : -1 ≤ x.a0 ∧ x.a0 ≤ 999 ∧ 0 ≤ x.a1 ∧ x.a1 ≤ 9999 := by
  unfold vIns at h
  rw [Bool.and_eq_true, List.all_eq_true] at h
  have := h.2 x (List.mem_of_getElem? hx)
  unfold vInB at this
  exact of_decide_eq_true this
theorem in_len {l : List InputR} (h : vIns l = true) : 1 ≤ l.length ∧ l.length ≤ 4 := by
  unfold vIns at h
  rw [Bool.and_eq_true] at h
  exact of_decide_eq_true h.1
set_option maxHeartbeats 2000000 in
theorem specIns_any (A : Option Addr) (c : Nat) (l : List InputR) (w : World) (ha : Row InputR.enc 2 w A l) :
    Calls Try.prog 51 #[.slice A l.length c] w fun e w' => e = .returned (.bool (vIns l)) ∧ Below w.heap.size w w' := by
  have hal := ha.1
  go_enter Try.func51, Try.ntmps51
  go_wp2
  go_loopw [3] (fun i wr => ∃ k : Nat, k ≤ l.length ∧ i = .int .i64 k ∧ (l.take k).all vInB = true ∧ Below w.heap.size w wr) (fun i _ => l.length - (intOf i).toNat)
  case atStart => exact ⟨0, Nat.zero_le _, rfl, by simp, Below.refl _ _⟩
  case round =>
    obtain ⟨k, hk, rfl, hall, hbw⟩ := hrel
    have Hall := Lib.hid hall
    clear hall
    by_cases hlt : k < l.length
    · obtain ⟨b, off, rfl, _, q0, q1⟩ := (ha.keep hbw).atInput hlt
      have hx := List.getElem?_eq_getElem hlt
      generalize l[k] = x at *
      have Hx := Lib.hid hx
      clear hx ha
      by_cases hv : -1 ≤ x.a0 ∧ x.a0 ≤ 999 ∧ 0 ≤ x.a1 ∧ x.a1 ≤ 9999
      · have hn := all_next (p := vInB) Hall.out Hx.out (by unfold vInB; exact decide_eq_true hv)
        have Hn := Lib.hid hn
        obtain ⟨v0, v1, v2, v3⟩ := hv
        clear hn
        go_wp2_with (go_at_call 66; refine (inRS_t _ _ _ _ (by omega) (by omega)).mono ?_; rintro e w' ⟨rfl, rfl⟩)
        go_roundw
        case rel => exact ⟨k + 1, by omega, by go_num, Hn.out, hbw⟩
        case measure => simp [intOf]; omega
      · have hn : vIns l = false := by unfold vIns; rw [all_stop Hx.out (by unfold vInB; exact decide_eq_false hv), Bool.and_false]
        have Hn := Lib.hid hn
        clear hn
        by_cases hv0 : -1 ≤ x.a0 ∧ x.a0 ≤ 999
        · have hv1 : ¬ (0 ≤ x.a1 ∧ x.a1 ≤ 9999) := fun h => hv ⟨hv0.1, hv0.2, h.1, h.2⟩
          have Hv1 := Lib.hid hv1
          obtain ⟨u0, u1⟩ := hv0
          clear hv hv1
          go_wp2_with (go_at_call 66; first | ((with_reducible refine (inRS_t x.a0 (-1) 999 _ (by omega) (by omega)).mono ?_); rintro e w' ⟨rfl, rfl⟩) | ((with_reducible refine (inRS_f x.a1 0 9999 _ Hv1.out).mono ?_); rintro e w' ⟨rfl, rfl⟩))
          go_returns
          exact ⟨ret_bool Hn.out.symm, hbw⟩
        · have Hv0 := Lib.hid hv0
          clear hv hv0
          go_wp2_with (go_at_call 66; refine (inRS_f _ _ _ _ Hv0.out).mono ?_; rintro e w' ⟨rfl, rfl⟩)
          go_returns
          exact ⟨ret_bool Hn.out.symm, hbw⟩
    · have hn : vIns l = decide (1 ≤ l.length ∧ l.length ≤ 4) := by
        have h := Hall.out
        rw [List.take_of_length_le (by omega)] at h
        unfold vIns
        rw [h, Bool.and_true]
      have Hn := Lib.hid hn
      clear hn
      by_cases h14 : 1 ≤ (l.length : Int) ∧ (l.length : Int) ≤ 4
      · obtain ⟨h1, h4⟩ := h14
        go_wp2_with (go_at_call 66; refine (inRS_t _ _ _ _ (by omega) (by omega)).mono ?_; rintro e w' ⟨rfl, rfl⟩)
        go_returns
        exact ⟨ret_bool (by rw [Hn.out]; symm; exact decide_eq_true (by omega)), hbw⟩
      · have H14 := Lib.hid h14
        clear h14
        go_wp2_with (go_at_call 66; refine (inRS_f _ _ _ _ H14.out).mono ?_; rintro e w' ⟨rfl, rfl⟩)
        go_returns
        exact ⟨ret_bool (by rw [Hn.out]; symm; have := H14.out; exact decide_eq_false (by omega)), hbw⟩
set_option maxHeartbeats 1000000 in
theorem implIn_any (x : InputR) (w : World) : Calls Try.prog 81 #[.agg #[.int .i64 x.a0, .int .i64 x.a1]] w
    fun e w' => e = .returned (.bool (vInB x)) ∧ Below w.heap.size w w' := by
  go_enter Try.func81, Try.ntmps81
  go_wp2
  all_goals go_returns
  all_goals refine ⟨ret_bool ?_, by go_grown⟩
  all_goals
    unfold vInB
    first | (symm; rw [decide_eq_true_eq]; omega) | (symm; rw [decide_eq_false_iff_not]; omega) | (rw [Bool.eq_iff_iff]; simp; omega)
set_option maxHeartbeats 1000000 in
theorem implAllIn_any (A : Option Addr) (c : Nat) (l : List InputR) (w : World) (ha : Row InputR.enc 2 w A l) :
    Calls Try.prog 80 #[.slice A l.length c, .func (.func 81) #[] #[]] w fun e w' => e = .returned (.bool (l.all vInB)) ∧ Below w.heap.size w w' := by
  have hal := ha.1
  go_enter Try.func80, Try.ntmps80
  go_wp2
  go_loopw [9] (fun i wr => ∃ k : Nat, k ≤ l.length ∧ i = .int .i64 k ∧ (l.take k).all vInB = true ∧ Below w.heap.size w wr) (fun i _ => l.length - (intOf i).toNat)
  case atStart => exact ⟨0, Nat.zero_le _, rfl, by simp, Below.refl _ _⟩
  case round =>
    obtain ⟨k, hk, rfl, hall, hbw⟩ := hrel
    have Hall := Lib.hid hall
    clear hall
    by_cases hlt : k < l.length
    · obtain ⟨b, off, rfl, _, q0, q1⟩ := (ha.keep hbw).atInput hlt
      have hx := List.getElem?_eq_getElem hlt
      generalize l[k] = x at *
      have Hx := Lib.hid hx
      clear hx ha
      go_wp2_with fail
      refine (implIn_any x _).mono ?_
      rintro e w1 ⟨rfl, hb1⟩
      have hbw1 := (hbw.alloc hbw.size (.cells #[.int .i64 x.a0, .int .i64 x.a1] 33)).trans (hb1.mono (by have := hbw.size; simp; omega))
      clear hb1
      rcases Bool.eq_false_or_eq_true (vInB x) with hv | hv
      · have hn := all_next Hall.out Hx.out hv
        have Hn := Lib.hid hn
        rw [hv]
        clear hv hn
        go_wp2
        go_roundw
        case rel => exact ⟨k + 1, by omega, by go_num, Hn.out, hbw1⟩
        case measure => simp [intOf]; omega
      · have hn := all_stop Hx.out hv
        have Hn := Lib.hid hn
        rw [hv]
        clear hv hn
        go_wp2
        go_returns
        exact ⟨ret_bool Hn.out.symm, hbw1⟩
    · have hn : l.all vInB = true := by
        have h := Hall.out
        rwa [List.take_of_length_le (by omega)] at h
      have Hn := Lib.hid hn
      clear hn
      go_wp2
      all_goals go_returns
      all_goals exact ⟨ret_bool Hn.out.symm, hbw⟩
set_option maxHeartbeats 1000000 in
theorem implIns_any (A : Option Addr) (c : Nat) (l : List InputR) (w : World) (ha : Row InputR.enc 2 w A l) :
    Calls Try.prog 61 #[.slice A l.length c] w fun e w' => e = .returned (.bool (vIns l)) ∧ Below w.heap.size w w' := by
  have hal := ha.1
  by_cases h14 : 1 ≤ (l.length : Int) ∧ (l.length : Int) ≤ 4
  · have hn : vIns l = l.all vInB := by unfold vIns; rw [decide_eq_true (by omega), Bool.true_and]
    have Hn := Lib.hid hn
    obtain ⟨h1, h4⟩ := h14
    clear hn
    go_enter Try.func61, Try.ntmps61
    go_wp2_with (first | (go_at_call 62; refine (inRI_t _ _ _ _ (by omega) (by omega)).mono ?_; rintro e w' ⟨rfl, rfl⟩) | (go_at_call 80; refine (implAllIn_any A c l w ha).mono ?_; rintro e w1 ⟨rfl, hb1⟩))
    all_goals go_returns
    all_goals exact ⟨ret_bool Hn.out.symm, hb1⟩
  · have hn : vIns l = false := by unfold vIns; rw [decide_eq_false (by omega), Bool.false_and]
    have Hn := Lib.hid hn
    have H14 := Lib.hid h14
    clear hn h14
    go_enter Try.func61, Try.ntmps61
    go_wp2_with (go_at_call 62; refine (inRI_f _ _ _ _ H14.out).mono ?_; rintro e w' ⟨rfl, rfl⟩)
    all_goals go_returns
    all_goals exact ⟨ret_bool Hn.out.symm, Below.refl _ _⟩
def clk (now idle : Int) : Prop := 0 ≤ now ∧ now ≤ 9999 ∧ 0 ≤ idle ∧ idle ≤ 9999
theorem specClock_t (now idle : Int) (w : World) (h0 : 0 ≤ now) (h1 : now ≤ 9999) (h2 : 0 ≤ idle) (h3 : idle ≤ 9999) : Calls Try.prog 52 #[.int .i64 now, .int .i64 idle] w fun e w' => e = .returned (.bool true) ∧ w = w' := by
  go_enter Try.func52, Try.ntmps52
  go_wp2
  all_goals go_returns
  all_goals first | exact ⟨rfl, rfl⟩ | exact ⟨ret_bool (by simp; omega), rfl⟩
theorem specClock_f (now idle : Int) (w : World) (h : ¬ clk now idle) : Calls Try.prog 52 #[.int .i64 now, .int .i64 idle] w fun e w' => e = .returned (.bool false) ∧ w = w' := by
  go_enter Try.func52, Try.ntmps52
  go_wp2
  all_goals go_returns
  all_goals (unfold clk at h; first | exact ⟨rfl, rfl⟩ | exact ⟨ret_bool (by simp; omega), rfl⟩ | (exfalso; apply h; omega))
theorem implWait_t (A : Option Addr) (c : Nat) (l : List InputR) (now idle : Int) (w : World) (ha : Row InputR.enc 2 w A l) (hv : vIns l = true) (h0 : 0 ≤ now) (h1 : now ≤ 9999) (h2 : 0 ≤ idle) (h3 : idle ≤ 9999) :
    Calls Try.prog 47 #[.slice A l.length c, .int .i64 now, .int .i64 idle] w fun e w' => e = .returned (.bool true) ∧ Below w.heap.size w w' := by
  have Hv := Lib.hid hv
  clear hv
  go_enter Try.func47, Try.ntmps47
  go_wp2_with (first | (go_at_call 61; refine (implIns_any A c l w ha).mono ?_; rintro e w1 ⟨rfl, hb1⟩; rw [Hv.out]) | go_in)
  all_goals go_returns
  all_goals first | exact ⟨rfl, hb1⟩ | exact ⟨ret_bool (by simp; omega), hb1⟩
theorem implWait_f (A : Option Addr) (c : Nat) (l : List InputR) (now idle : Int) (w : World) (ha : Row InputR.enc 2 w A l) (hv : ¬ (vIns l = true ∧ clk now idle)) :
    Calls Try.prog 47 #[.slice A l.length c, .int .i64 now, .int .i64 idle] w fun e w' => e = .returned (.bool false) ∧ Below w.heap.size w w' := by
  have Hv := Lib.hid hv
  clear hv
  rcases Bool.eq_false_or_eq_true (vIns l) with hw | hw
  all_goals
    have Hw := Lib.hid hw
    clear hw
    go_enter Try.func47, Try.ntmps47
    go_wp2_with (first | (go_at_call 61; refine (implIns_any A c l w ha).mono ?_; rintro e w1 ⟨rfl, hb1⟩; rw [Hw.out]) | go_in)
    all_goals go_returns
    all_goals first | exact ⟨rfl, hb1⟩ | (have h1 := Hv.out; have h2 := Hw.out; have h3 : ¬ clk now idle := fun h => h1 ⟨h2, h⟩; unfold clk at h3; first | exact ⟨ret_bool (by simp; omega), hb1⟩ | (exfalso; apply h3; omega))
end Go.Proofs.Ytehedhkadjidpab
