import Derived.Test.YtehedhkadjidpabBase
import Derived.Outline
namespace Go.Proofs.Ytehedhkadjidpab
open Go.RowKit
def vAccP (c s l m : Int) : Prop := (c = 0 ∧ s = 0 ∧ l = 0 ∧ m = 0) ∨ (1 ≤ c ∧ c ≤ 999 ∧ 0 ≤ l ∧ l ≤ m ∧ m ≤ 99 ∧ c * l ≤ s ∧ s ≤ c * m)
instance (c s l m : Int) : Decidable (vAccP c s l m) := by unfold vAccP; infer_instance
def vAcc (c s l m : Int) : Bool := decide (vAccP c s l m)
theorem prod_bd {c l : Int} (c0 : 1 ≤ c) (c1 : c ≤ 999) (l0 : 0 ≤ l) (l1 : l ≤ 99) : 0 ≤ c * l ∧ c * l ≤ 98901 := by
  constructor
  · exact Int.mul_nonneg (by omega) l0
  · have h1 : c * l ≤ 999 * l := Int.mul_le_mul_of_nonneg_right c1 l0
    omega
theorem vAcc_zero {s l m : Int} : vAcc 0 s l m = decide (s = 0 ∧ l = 0 ∧ m = 0) := by
  unfold vAcc; exact decide_eq_decide.2 (by unfold vAccP; omega)
theorem vAcc_in {c s l m : Int} (h : 1 ≤ c ∧ c ≤ 999 ∧ 0 ≤ l ∧ l ≤ m ∧ m ≤ 99) : vAcc c s l m = decide (c * l ≤ s ∧ s ≤ c * m) := by
  unfold vAcc; exact decide_eq_decide.2 (by
    unfold vAccP
    constructor
    · rintro (h' | h')
      · omega
      · exact ⟨h'.2.2.2.2.2.1, h'.2.2.2.2.2.2⟩
    · rintro ⟨a, b⟩; right; exact ⟨h.1, h.2.1, h.2.2.1, h.2.2.2.1, h.2.2.2.2, a, b⟩)
theorem vAcc_out {c s l m : Int} (h0 : c ≠ 0) (h : ¬ (1 ≤ c ∧ c ≤ 999 ∧ 0 ≤ l ∧ l ≤ m ∧ m ≤ 99)) : vAcc c s l m = false := by
  unfold vAcc; exact decide_eq_false (by
    unfold vAccP
    rintro (h' | h')
    · exact h0 h'.1
    · exact h ⟨h'.1, h'.2.1, h'.2.2.1, h'.2.2.2.1, h'.2.2.2.2.1⟩)
set_option maxHeartbeats 2000000 in
theorem specVAcc_any (c s l m : Int) (w : World) : Calls Try.prog 72 #[.agg #[.int .i64 c, .int .i64 s, .int .i64 l, .int .i64 m]] w
    fun e w' => e = .returned (.bool (vAcc c s l m)) ∧ Below w.heap.size w w' := by
  by_cases h0 : c = 0
  · subst h0
    have H := Lib.hid (@vAcc_zero s l m)
    go_enter Try.func72, Try.ntmps72
    go_wp2
    all_goals go_returns
    all_goals refine ⟨ret_bool (by rw [H.out]; first | rfl | (rw [Bool.eq_iff_iff]; simp; done) | (rw [Bool.eq_iff_iff]; simp; omega) | (simp_all; done) | (simp_all; omega)), by go_grown⟩
  · have h0' : (c == 0) = false := by simp [h0]
    by_cases h : 1 ≤ c ∧ c ≤ 999 ∧ 0 ≤ l ∧ l ≤ m ∧ m ≤ 99
    · have H := Lib.hid (vAcc_in (s := s) h)
      obtain ⟨a1, a2, a3, a4, a5⟩ := h
      obtain ⟨p0, p1⟩ := prod_bd a1 a2 a3 (by omega : l ≤ 99)
      obtain ⟨q0, q1⟩ := prod_bd a1 a2 (by omega : 0 ≤ m) a5
      clear h0
      go_enter Try.func72, Try.ntmps72
      go_wp2
      all_goals go_returns
      all_goals refine ⟨ret_bool (by rw [H.out]; first | rfl | (rw [Bool.eq_iff_iff]; simp; done) | (rw [Bool.eq_iff_iff]; simp; omega) | (simp_all; done) | (simp_all; omega)), by go_grown⟩
    · have H := Lib.hid (vAcc_out (s := s) h0 h)
      have Hh := Lib.hid h
      clear h h0
      go_enter Try.func72, Try.ntmps72
      go_wp2
      all_goals go_returns
      all_goals first | (exfalso; apply Hh.out; clear Hh H; first | omega | (simp only [Bool.not_eq_eq_eq_not, Bool.not_true, Bool.not_false, decide_eq_false_iff_not, decide_eq_true_eq] at *; omega)) | (refine ⟨ret_bool ?_, by go_grown⟩; rw [H.out])
set_option maxHeartbeats 2000000 in
theorem implVAcc_any (c s l m : Int) (w : World) : Calls Try.prog 70 #[.agg #[.int .i64 c, .int .i64 s, .int .i64 l, .int .i64 m]] w
    fun e w' => e = .returned (.bool (vAcc c s l m)) ∧ Below w.heap.size w w' := by
  by_cases h0 : c = 0
  · subst h0
    have H := Lib.hid (@vAcc_zero s l m)
    by_cases hz : s = 0 ∧ l = 0 ∧ m = 0
    · obtain ⟨rfl, rfl, rfl⟩ := hz
      go_enter Try.func70, Try.ntmps70
      go_wp2
      all_goals go_returns
      all_goals refine ⟨ret_bool (by rw [H.out]; first | rfl | (simp; done)), by go_grown⟩
    have hv : vAcc 0 s l m = false := by rw [H.out]; exact decide_eq_false hz
    have Hv := Lib.hid hv
    clear H hv
    go_enter Try.func70, Try.ntmps70
    go_wp2
    all_goals go_returns
    all_goals refine ⟨ret_bool ?_, by go_grown⟩
    all_goals first | (rw [Hv.out]; done) | (exfalso; apply hz; omega) | (rw [Hv.out]; simp; omega) | (rw [Hv.out]; simp_all; done)
  · have h0' : (c == 0) = false := by simp [h0]
    by_cases h : 1 ≤ c ∧ c ≤ 999 ∧ 0 ≤ l ∧ l ≤ m ∧ m ≤ 99
    · have H := Lib.hid (vAcc_in (s := s) h)
      obtain ⟨a1, a2, a3, a4, a5⟩ := h
      obtain ⟨p0, p1⟩ := prod_bd a1 a2 a3 (by omega : l ≤ 99)
      obtain ⟨q0, q1⟩ := prod_bd a1 a2 (by omega : 0 ≤ m) a5
      clear h0
      go_enter Try.func70, Try.ntmps70
      go_wp2
      all_goals go_returns
      all_goals refine ⟨ret_bool (by rw [H.out]; first | rfl | (rw [Bool.eq_iff_iff]; simp; done) | (rw [Bool.eq_iff_iff]; simp; omega) | (simp_all; done) | (simp_all; omega)), by go_grown⟩
    · have H := Lib.hid (vAcc_out (s := s) h0 h)
      have Hh := Lib.hid h
      clear h h0
      go_enter Try.func70, Try.ntmps70
      go_wp2
      all_goals go_returns
      all_goals first | (exfalso; apply Hh.out; clear Hh H; first | omega | (simp only [Bool.not_eq_eq_eq_not, Bool.not_true, Bool.not_false, decide_eq_false_iff_not, decide_eq_true_eq] at *; omega)) | (refine ⟨ret_bool ?_, by go_grown⟩; rw [H.out])
end Go.Proofs.Ytehedhkadjidpab
