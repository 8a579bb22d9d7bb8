import Derived.Test.YtehedhkadjidpabAcc
import Derived.Outline
namespace Go.Proofs.Ytehedhkadjidpab
open Go.RowKit
def avgF (c s l m : Int) : Int := if vAccP c s l m ∧ c ≠ 0 then s / c else -1
set_option maxHeartbeats 1000000 in
theorem avgS_any (c s l m : Int) (w : World) : Calls Try.prog 41 #[.agg #[.int .i64 c, .int .i64 s, .int .i64 l, .int .i64 m]] w
    fun e w' => e = .returned (.int .i64 (avgF c s l m)) ∧ Below w.heap.size w w' := by
  have hb0 : Below w.heap.size w (w.alloc (.cells #[.int .i64 c, .int .i64 s, .int .i64 l, .int .i64 m] 48)) := (Below.refl _ _).alloc (Nat.le_refl _) _
  by_cases hv : vAccP c s l m
  · have e : vAcc c s l m = true := decide_eq_true hv
    have E := Lib.hid e
    clear e
    rcases hv with ⟨rfl, rfl, rfl, rfl⟩ | ⟨a1, a2, a3, a4, a5, a6, a7⟩
    · have hF : avgF 0 0 0 0 = -1 := by decide
      have HF := Lib.hid hF
      clear hF
      go_enter Try.func41, Try.ntmps41
      go_wp2_with (first | (go_at_call 72; refine (specVAcc_any _ _ _ _ _).mono ?_; rw [E.out]; rintro e w1 ⟨rfl, hb1⟩; obtain ⟨hc, hf⟩ := bcell hb1; have hz : w.heap.size < w1.heap.size := (by have := hb1.size; simp at this; omega)) | go_in)
      all_goals go_returns
      all_goals (rw [HF.out]; exact ⟨rfl, (hb0.trans (hb1.mono (by simp))).trans (by have : w.heap.size ≤ w1.heap.size := (by omega); go_grown)⟩)
    · have hF : avgF c s l m = s / c := by unfold avgF; rw [if_pos ⟨.inr ⟨a1, a2, a3, a4, a5, a6, a7⟩, by omega⟩]
      have HF := Lib.hid hF
      obtain ⟨p0, p1⟩ := prod_bd a1 a2 a3 (by omega : l ≤ 99)
      have s0 : 0 ≤ s := by omega
      obtain ⟨q0, q1⟩ := prod_bd a1 a2 (by omega : 0 ≤ m) a5
      have s1 : s ≤ 98901 := by omega
      have d0 : 0 ≤ s / c := Int.ediv_nonneg s0 (by omega)
      have d1 : s / c ≤ s := Int.ediv_le_self _ s0
      have ht : wrap64 (s.tdiv c) = s / c := by rw [Int.tdiv_eq_ediv_of_nonneg s0]; exact IntWalk.wrap64_in _ ⟨by omega, by omega⟩
      have Ht := Lib.hid ht
      clear ht q0 q1 d0 d1 s1
      have c0 : (c == 0) = false := by simp; omega
      clear hF a6 a7 p0 p1
      go_enter Try.func41, Try.ntmps41
      go_wp2_with (first | (go_at_call 72; refine (specVAcc_any _ _ _ _ _).mono ?_; rw [E.out]; rintro e w1 ⟨rfl, hb1⟩; obtain ⟨hc, hf⟩ := bcell hb1; have hz : w.heap.size < w1.heap.size := (by have := hb1.size; simp at this; omega)) | go_in)
      all_goals first | (exfalso; omega) | skip
      all_goals go_returns
      all_goals (rw [HF.out]; exact ⟨ret_int Ht.out, (hb0.trans (hb1.mono (by simp))).trans (by have : w.heap.size ≤ w1.heap.size := (by omega); go_grown)⟩)
  · have e : vAcc c s l m = false := decide_eq_false hv
    have E := Lib.hid e
    have hF : avgF c s l m = -1 := by unfold avgF; rw [if_neg (fun h => hv h.1)]
    have HF := Lib.hid hF
    clear e hv hF
    go_enter Try.func41, Try.ntmps41
    go_wp2_with (first | (go_at_call 72; refine (specVAcc_any _ _ _ _ _).mono ?_; rw [E.out]; rintro e w1 ⟨rfl, hb1⟩; obtain ⟨hc, hf⟩ := bcell hb1; have hz : w.heap.size < w1.heap.size := (by have := hb1.size; simp at this; omega)) | go_in)
    all_goals go_returns
    all_goals (rw [HF.out]; exact ⟨rfl, hb0.trans (hb1.mono (by simp))⟩)
set_option maxHeartbeats 1000000 in
theorem avgI_any (c s l m : Int) (w : World) : Calls Try.prog 40 #[.agg #[.int .i64 c, .int .i64 s, .int .i64 l, .int .i64 m]] w
    fun e w' => e = .returned (.int .i64 (avgF c s l m)) ∧ Below w.heap.size w w' := by
  have hb0 : Below w.heap.size w (w.alloc (.cells #[.int .i64 c, .int .i64 s, .int .i64 l, .int .i64 m] 48)) := (Below.refl _ _).alloc (Nat.le_refl _) _
  by_cases hv : vAccP c s l m
  · have e : vAcc c s l m = true := decide_eq_true hv
    have E := Lib.hid e
    clear e
    rcases hv with ⟨rfl, rfl, rfl, rfl⟩ | ⟨a1, a2, a3, a4, a5, a6, a7⟩
    · have hF : avgF 0 0 0 0 = -1 := by decide
      have HF := Lib.hid hF
      clear hF
      go_enter Try.func40, Try.ntmps40
      go_wp2_with (first | (go_at_call 70; refine (implVAcc_any _ _ _ _ _).mono ?_; rw [E.out]; rintro e w1 ⟨rfl, hb1⟩; obtain ⟨hc, hf⟩ := bcell hb1; have hz : w.heap.size < w1.heap.size := (by have := hb1.size; simp at this; omega)) | go_in)
      all_goals go_returns
      all_goals (rw [HF.out]; exact ⟨rfl, (hb0.trans (hb1.mono (by simp))).trans (by have : w.heap.size ≤ w1.heap.size := (by omega); go_grown)⟩)
    · have hF : avgF c s l m = s / c := by unfold avgF; rw [if_pos ⟨.inr ⟨a1, a2, a3, a4, a5, a6, a7⟩, by omega⟩]
      have HF := Lib.hid hF
      obtain ⟨p0, p1⟩ := prod_bd a1 a2 a3 (by omega : l ≤ 99)
      have s0 : 0 ≤ s := by omega
      obtain ⟨q0, q1⟩ := prod_bd a1 a2 (by omega : 0 ≤ m) a5
      have s1 : s ≤ 98901 := by omega
      have d0 : 0 ≤ s / c := Int.ediv_nonneg s0 (by omega)
      have d1 : s / c ≤ s := Int.ediv_le_self _ s0
      have ht : wrap64 (s.tdiv c) = s / c := by rw [Int.tdiv_eq_ediv_of_nonneg s0]; exact IntWalk.wrap64_in _ ⟨by omega, by omega⟩
      have Ht := Lib.hid ht
      clear ht q0 q1 d0 d1 s1
      have c0 : (c == 0) = false := by simp; omega
      clear hF a6 a7 p0 p1
      go_enter Try.func40, Try.ntmps40
      go_wp2_with (first | (go_at_call 70; refine (implVAcc_any _ _ _ _ _).mono ?_; rw [E.out]; rintro e w1 ⟨rfl, hb1⟩; obtain ⟨hc, hf⟩ := bcell hb1; have hz : w.heap.size < w1.heap.size := (by have := hb1.size; simp at this; omega)) | go_in)
      all_goals first | (exfalso; omega) | skip
      all_goals go_returns
      all_goals (rw [HF.out]; exact ⟨ret_int Ht.out, (hb0.trans (hb1.mono (by simp))).trans (by have : w.heap.size ≤ w1.heap.size := (by omega); go_grown)⟩)
  · have e : vAcc c s l m = false := decide_eq_false hv
    have E := Lib.hid e
    have hF : avgF c s l m = -1 := by unfold avgF; rw [if_neg (fun h => hv h.1)]
    have HF := Lib.hid hF
    clear e hv hF
    go_enter Try.func40, Try.ntmps40
    go_wp2_with (first | (go_at_call 70; refine (implVAcc_any _ _ _ _ _).mono ?_; rw [E.out]; rintro e w1 ⟨rfl, hb1⟩; obtain ⟨hc, hf⟩ := bcell hb1; have hz : w.heap.size < w1.heap.size := (by have := hb1.size; simp at this; omega)) | go_in)
    all_goals go_returns
    all_goals (rw [HF.out]; exact ⟨rfl, hb0.trans (hb1.mono (by simp))⟩)
end Go.Proofs.Ytehedhkadjidpab
