import Derived.Test.YtcpjidbinhfapaaInR
import Derived.Test.YtcpjidbinhfapaaSlk2
import Derived.IntWalk
namespace Go.Proofs.Ytcpjidbinhfapaa
open Go.RowKit
def kgF (k : Int) : Int := if 0 ≤ k ∧ k ≤ 15 then (11 * k + 5) % 16 else -1
def grV (t n : Int) : Prop := 1 ≤ n ∧ n ≤ 8 ∧ 0 ≤ t ∧ t ≤ n - 1
instance (t n : Int) : Decidable (grV t n) := by unfold grV; infer_instance
def grLo (t n : Int) : Int := if grV t n then (t * 16 + n - 1) / n else -1
def grHi (t n : Int) : Int := if grV t n then ((t + 1) * 16 + n - 1) / n else -1
def stV (g n : Int) : Prop := 1 ≤ n ∧ n ≤ 8 ∧ 0 ≤ g ∧ g ≤ 15
instance (t n : Int) : Decidable (stV t n) := by unfold stV; infer_instance
def stF (g n : Int) : Int := if stV g n then g * n / 16 else -1
theorem eight {n : Int} (h0 : 1 ≤ n) (h1 : n ≤ 8) : n = 1 ∨ n = 2 ∨ n = 3 ∨ n = 4 ∨ n = 5 ∨ n = 6 ∨ n = 7 ∨ n = 8 := by omega
theorem ret_ii {a b a' b' : Int} (h : a = a') (h' : b = b') : Ending.returned (.tuple #[.int .i64 a, .int .i64 b]) = .returned (.tuple #[.int .i64 a', .int .i64 b']) := by rw [h, h']
theorem kgF_bd (k : Int) : -1 ≤ kgF k ∧ kgF k ≤ 15 := by unfold kgF; split <;> omega

set_option maxHeartbeats 1000000 in
theorem kgS_any (k : Int) (w : World)  : Calls Try.prog 15 #[.int .i64 k] w
    fun e w' => e = .returned (.int .i64 (kgF k)) ∧ w = w' := by
  by_cases hv : 0 ≤ k ∧ k ≤ 15
  · have h1 : kgF k = (11 * k + 5) % 16 := by unfold kgF; rw [if_pos hv]
    rw [h1]
    clear h1
    obtain ⟨a0, a1⟩ := hv
    go_enter Try.func15, Try.ntmps15
    go_wp2_with go_in
    all_goals go_returns
    all_goals exact ⟨ret_int (by first | rfl | go_arith | omega), rfl⟩
  · have h1 : kgF k = -1 := by unfold kgF; rw [if_neg hv]
    rw [h1]
    clear h1
    go_enter Try.func15, Try.ntmps15
    go_wp2_with go_in
    all_goals first | (go_returns; exact ⟨rfl, by first | rfl | exact Below.refl _ _⟩) | (exfalso; apply hv; clear hv; first | omega | (simp only [Bool.not_eq_eq_eq_not, Bool.not_true, Bool.not_false, decide_eq_false_iff_not, decide_eq_true_eq] at *; omega))

set_option maxHeartbeats 1000000 in
theorem kgI_any (k : Int) (w : World)  : Calls Try.prog 16 #[.int .i64 k] w
    fun e w' => e = .returned (.int .i64 (kgF k)) ∧ w = w' := by
  by_cases hv : 0 ≤ k ∧ k ≤ 15
  · have h1 : kgF k = (11 * k + 5) % 16 := by unfold kgF; rw [if_pos hv]
    rw [h1]
    clear h1
    obtain ⟨a0, a1⟩ := hv
    go_enter Try.func16, Try.ntmps16
    go_wp2_with go_in
    all_goals go_returns
    all_goals exact ⟨ret_int (by first | rfl | go_arith | omega), rfl⟩
  · have h1 : kgF k = -1 := by unfold kgF; rw [if_neg hv]
    rw [h1]
    clear h1
    go_enter Try.func16, Try.ntmps16
    go_wp2_with go_in
    all_goals first | (go_returns; exact ⟨rfl, by first | rfl | exact Below.refl _ _⟩) | (exfalso; apply hv; clear hv; first | omega | (simp only [Bool.not_eq_eq_eq_not, Bool.not_true, Bool.not_false, decide_eq_false_iff_not, decide_eq_true_eq] at *; omega))

set_option maxHeartbeats 1000000 in
theorem fgI_any (t n : Int) (w : World) (n0 : 1 ≤ n) (n1 : n ≤ 8) (t0 : 0 ≤ t) (t1 : t ≤ 8) : Calls Try.prog 50 #[.int .i64 t, .int .i64 n] w
    fun e w' => e = .returned (.int .i64 ((t * 16 + n - 1) / n)) ∧ w = w' := by
  rcases eight n0 n1 with rfl | rfl | rfl | rfl | rfl | rfl | rfl | rfl
  all_goals
    go_enter Try.func50, Try.ntmps50
    go_wp2
    all_goals go_returns
    all_goals exact ⟨ret_int (by first | rfl | go_arith | omega), rfl⟩

set_option maxHeartbeats 1000000 in
theorem fgS_any (t n : Int) (w : World) (n0 : 1 ≤ n) (n1 : n ≤ 8) (t0 : 0 ≤ t) (t1 : t ≤ 7) : Calls Try.prog 48 #[.int .i64 t, .int .i64 n] w
    fun e w' => e = .returned (.tuple #[.int .i64 ((t * 16 + n - 1) / n), .int .i64 (((t + 1) * 16 + n - 1) / n)]) ∧ Below w.heap.size w w' := by
  have q0 : 0 ≤ (t * 16 + n - 1) / n := Int.ediv_nonneg (by omega) (by omega)
  have q1 : (t * 16 + n - 1) / n ≤ t * 16 + n - 1 := Int.ediv_le_self _ (by omega)
  have r0 : 0 ≤ ((t + 1) * 16 + n - 1) / n := Int.ediv_nonneg (by omega) (by omega)
  have r1 : ((t + 1) * 16 + n - 1) / n ≤ (t + 1) * 16 + n - 1 := Int.ediv_le_self _ (by omega)
  have q2 : (t * 16 + n - 1).tdiv n = (t * 16 + n - 1) / n := Int.tdiv_eq_ediv_of_nonneg (by omega)
  have r2 : ((t + 1) * 16 + n - 1).tdiv n = ((t + 1) * 16 + n - 1) / n := Int.tdiv_eq_ediv_of_nonneg (by omega)
  have e1 : IntKind.i64.wrap (t * 16) = t * 16 := IntWalk.i64_in _ (by omega)
  have e2 : IntKind.i64.wrap (t * 16 + n) = t * 16 + n := IntWalk.i64_in _ (by omega)
  have e3 : IntKind.i64.wrap (t * 16 + n - 1) = t * 16 + n - 1 := IntWalk.i64_in _ (by omega)
  have e4 : IntKind.i64.wrap (t + 1) = t + 1 := IntWalk.i64_in _ (by omega)
  have e5 : IntKind.i64.wrap ((t + 1) * 16) = (t + 1) * 16 := IntWalk.i64_in _ (by omega)
  have e6 : IntKind.i64.wrap ((t + 1) * 16 + n) = (t + 1) * 16 + n := IntWalk.i64_in _ (by omega)
  have e7 : IntKind.i64.wrap ((t + 1) * 16 + n - 1) = (t + 1) * 16 + n - 1 := IntWalk.i64_in _ (by omega)
  have e8 : IntKind.i64.wrap ((t * 16 + n - 1) / n) = (t * 16 + n - 1) / n := IntWalk.i64_in _ (by omega)
  have e9 : IntKind.i64.wrap (((t + 1) * 16 + n - 1) / n) = ((t + 1) * 16 + n - 1) / n := IntWalk.i64_in _ (by omega)
  have hn : (n == 0) = false := by simp; omega
  go_enter Try.func48, Try.ntmps48
  go_wp2_with fail
  go_quiet (fail)
  clear q2 r2 e1 e2 e3 e4 e5 e6 e7 e8 e9
  go_wp2
  all_goals go_returns
  all_goals exact ⟨ret_ii (by first | rfl | omega) (by first | rfl | omega), by first | exact Below.refl _ _ | exact below_drewN (Below.refl _ _) _⟩

set_option maxHeartbeats 1000000 in
theorem grS_any (t n : Int) (w : World)  : Calls Try.prog 17 #[.int .i64 t, .int .i64 n] w
    fun e w' => e = .returned (.tuple #[.int .i64 (grLo t n), .int .i64 (grHi t n)]) ∧ Below w.heap.size w w' := by
  by_cases hv : grV t n
  · have h1 : grLo t n = (t * 16 + n - 1) / n := by unfold grLo; rw [if_pos hv]
    have h2 : grHi t n = ((t + 1) * 16 + n - 1) / n := by unfold grHi; rw [if_pos hv]
    rw [h1, h2]
    clear h1 h2
    obtain ⟨a0, a1, a2, a3⟩ := hv
    go_enter Try.func17, Try.ntmps17
    go_wp2_with (first | (go_at_call 48; refine (fgS_any _ _ _ (by omega) (by omega) (by omega) (by omega)).mono ?_; rintro e w' ⟨rfl, hb1⟩) | go_in)
    all_goals go_returns
    all_goals exact ⟨rfl, by first | rfl | assumption | exact Below.refl _ _⟩
  · have h1 : grLo t n = -1 := by unfold grLo; rw [if_neg hv]
    have h2 : grHi t n = -1 := by unfold grHi; rw [if_neg hv]
    rw [h1, h2]
    clear h1 h2
    unfold grV at hv
    go_enter Try.func17, Try.ntmps17
    go_wp2_with (first | (go_at_call 48; exfalso; apply hv; clear hv; first | omega | (simp only [Bool.not_eq_eq_eq_not, Bool.not_true, Bool.not_false, decide_eq_false_iff_not, decide_eq_true_eq] at *; omega)) | go_in)
    all_goals first | (go_returns; exact ⟨rfl, by first | rfl | exact Below.refl _ _⟩) | (exfalso; apply hv; clear hv; first | omega | (simp only [Bool.not_eq_eq_eq_not, Bool.not_true, Bool.not_false, decide_eq_false_iff_not, decide_eq_true_eq] at *; omega))

set_option maxHeartbeats 1000000 in
theorem grI_any (t n : Int) (w : World)  : Calls Try.prog 18 #[.int .i64 t, .int .i64 n] w
    fun e w' => e = .returned (.tuple #[.int .i64 (grLo t n), .int .i64 (grHi t n)]) ∧ w = w' := by
  by_cases hv : grV t n
  · have h1 : grLo t n = (t * 16 + n - 1) / n := by unfold grLo; rw [if_pos hv]
    have h2 : grHi t n = ((t + 1) * 16 + n - 1) / n := by unfold grHi; rw [if_pos hv]
    rw [h1, h2]
    clear h1 h2
    obtain ⟨a0, a1, a2, a3⟩ := hv
    go_enter Try.func18, Try.ntmps18
    go_wp2_with (first | (go_at_call 50; refine (fgI_any _ _ _ (by omega) (by omega) (by omega) (by omega)).mono ?_; rintro e w' ⟨rfl, rfl⟩) | go_in)
    all_goals go_returns
    all_goals exact ⟨rfl, by first | rfl | assumption | exact Below.refl _ _⟩
  · have h1 : grLo t n = -1 := by unfold grLo; rw [if_neg hv]
    have h2 : grHi t n = -1 := by unfold grHi; rw [if_neg hv]
    rw [h1, h2]
    clear h1 h2
    unfold grV at hv
    go_enter Try.func18, Try.ntmps18
    go_wp2_with (first | (go_at_call 50; exfalso; apply hv; clear hv; first | omega | (simp only [Bool.not_eq_eq_eq_not, Bool.not_true, Bool.not_false, decide_eq_false_iff_not, decide_eq_true_eq] at *; omega)) | go_in)
    all_goals first | (go_returns; exact ⟨rfl, by first | rfl | exact Below.refl _ _⟩) | (exfalso; apply hv; clear hv; first | omega | (simp only [Bool.not_eq_eq_eq_not, Bool.not_true, Bool.not_false, decide_eq_false_iff_not, decide_eq_true_eq] at *; omega))

set_option maxHeartbeats 1000000 in
theorem stS_any (g n : Int) (w : World)  : Calls Try.prog 19 #[.int .i64 g, .int .i64 n] w
    fun e w' => e = .returned (.int .i64 (stF g n)) ∧ w = w' := by
  by_cases hv : stV g n
  · have h1 : stF g n = g * n / 16 := by unfold stF; rw [if_pos hv]
    rw [h1]
    clear h1
    obtain ⟨a0, a1, a2, a3⟩ := hv
    rcases eight a0 a1 with rfl | rfl | rfl | rfl | rfl | rfl | rfl | rfl
    all_goals
      go_enter Try.func19, Try.ntmps19
      go_wp2_with go_in
      all_goals go_returns
      all_goals exact ⟨ret_int (by first | rfl | go_arith | omega), rfl⟩
  · have h1 : stF g n = -1 := by unfold stF; rw [if_neg hv]
    rw [h1]
    clear h1
    unfold stV at hv
    go_enter Try.func19, Try.ntmps19
    go_wp2_with go_in
    all_goals first | (go_returns; exact ⟨rfl, by first | rfl | exact Below.refl _ _⟩) | (exfalso; apply hv; clear hv; first | omega | (simp only [Bool.not_eq_eq_eq_not, Bool.not_true, Bool.not_false, decide_eq_false_iff_not, decide_eq_true_eq] at *; omega))

set_option maxHeartbeats 1000000 in
theorem stI_any (g n : Int) (w : World)  : Calls Try.prog 20 #[.int .i64 g, .int .i64 n] w
    fun e w' => e = .returned (.int .i64 (stF g n)) ∧ w = w' := by
  by_cases hv : stV g n
  · have h1 : stF g n = g * n / 16 := by unfold stF; rw [if_pos hv]
    rw [h1]
    clear h1
    obtain ⟨a0, a1, a2, a3⟩ := hv
    rcases eight a0 a1 with rfl | rfl | rfl | rfl | rfl | rfl | rfl | rfl
    all_goals
      go_enter Try.func20, Try.ntmps20
      go_wp2_with go_in
      all_goals go_returns
      all_goals exact ⟨ret_int (by first | rfl | go_arith | omega), rfl⟩
  · have h1 : stF g n = -1 := by unfold stF; rw [if_neg hv]
    rw [h1]
    clear h1
    unfold stV at hv
    go_enter Try.func20, Try.ntmps20
    go_wp2_with go_in
    all_goals first | (go_returns; exact ⟨rfl, by first | rfl | exact Below.refl _ _⟩) | (exfalso; apply hv; clear hv; first | omega | (simp only [Bool.not_eq_eq_eq_not, Bool.not_true, Bool.not_false, decide_eq_false_iff_not, decide_eq_true_eq] at *; omega))

theorem gr_facts {t n : Int} (hv : grV t n) : 0 ≤ grLo t n ∧ grLo t n < grHi t n ∧ grLo 0 n = 0 ∧ grHi (n - 1) n = 16 ∧ (t < n - 1 → grLo (t + 1) n = grHi t n) ∧ 0 ≤ t ∧ t ≤ n - 1 := by
  obtain ⟨h0, h1, h2, h3⟩ := hv
  rcases eight h0 h1 with rfl | rfl | rfl | rfl | rfl | rfl | rfl | rfl
  all_goals
    unfold grLo grHi grV
    refine ⟨?_, ?_, ?_, ?_, ?_, h2, h3⟩
    all_goals (repeat' split) <;> omega
theorem st_facts {g n : Int} (hv : stV g n) : 0 ≤ stF g n ∧ grLo (stF g n) n ≤ g ∧ g < grHi (stF g n) n ∧ (g < 15 → stF g n ≤ stF (g + 1) n) := by
  obtain ⟨h0, h1, h2, h3⟩ := hv
  rcases eight h0 h1 with rfl | rfl | rfl | rfl | rfl | rfl | rfl | rfl
  all_goals
    unfold grLo grHi stF grV stV
    refine ⟨?_, ?_, ?_, ?_⟩
    all_goals (repeat' split) <;> omega

end Go.Proofs.Ytcpjidbinhfapaa
