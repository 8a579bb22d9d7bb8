import Derived.Test.YtjjjlpnbniofjabBase
namespace Go.Proofs.Ytjjjlpnbniofjab
open Go.RowKit
def mtV (b h : Int) : Int := if 0 ≤ b ∧ b ≤ 999 ∧ -1 ≤ h ∧ h ≤ 999 then (if h - b - 1 < -1 then -1 else h - b - 1) else -2
set_option maxHeartbeats 1000000 in
theorem markTimeS_any (b h : Int) (w : World) (b0 : -9223372036854775808 ≤ b) (b1 : b ≤ 9223372036854775807) (h0 : -9223372036854775808 ≤ h) (h1 : h ≤ 9223372036854775807) :
    Calls Try.prog 111 #[.agg #[.int .i64 b, .int .i64 h]] w fun e w' => e = .returned (.int .i64 (mtV b h)) ∧ Below w.heap.size w w' := by
  go_enter Try.func111, Try.ntmps111
  go_wp2
  all_goals go_returns
  all_goals refine ⟨ret_int ?_, by go_grown⟩
  all_goals
    (try simp only [Bool.not_eq_true', Bool.not_eq_false', decide_eq_false_iff_not, decide_eq_true_eq] at *)
    unfold mtV
    (repeat' split) <;> omega
set_option maxHeartbeats 1000000 in
theorem markTimeI_any (b h : Int) (w : World) (b0 : -9223372036854775808 ≤ b) (b1 : b ≤ 9223372036854775807) (h0 : -9223372036854775808 ≤ h) (h1 : h ≤ 9223372036854775807) :
    Calls Try.prog 50 #[.agg #[.int .i64 b, .int .i64 h]] w fun e w' => e = .returned (.int .i64 (mtV b h)) ∧ Below w.heap.size w w' := by
  go_enter Try.func50, Try.ntmps50
  go_wp2
  all_goals go_returns
  all_goals refine ⟨ret_int ?_, by go_grown⟩
  all_goals
    (try simp only [Bool.not_eq_true', Bool.not_eq_false', decide_eq_false_iff_not, decide_eq_true_eq] at *)
    unfold mtV
    (repeat' split) <;> omega
def MtC (f : FuncId) (b h n : Int) : Prop := ∀ w, Calls Try.prog f #[.agg #[.int .i64 b, .int .i64 h]] w fun e w' => e = .returned (.int .i64 n) ∧ Below w.heap.size w w'
theorem mt_three (b h : Int) (b0 : -2 ≤ b) (b1 : b ≤ 1000) (h0 : -2 ≤ h) (h1 : h ≤ 1000) : ∃ n m : Int, MtC 50 b h n ∧ MtC 111 b h n ∧
    (b + 1 ≤ 999 → MtC 50 (b + 1) h m) ∧ (999 ≤ b + 1 → MtC 50 999 h m) ∧
    (n = -2 ∨ (n ≠ -2 ∧ (n = -1 ∨ n = h - b - 1) ∧ n ≤ h - 1 ∧ -1 ≤ n ∧ m ≤ n) ∨ (n = -1 ∧ h - 1 < -1 ∧ m ≤ n)) := by
  refine ⟨mtV b h, if b + 1 ≤ 999 then mtV (b + 1) h else mtV 999 h, fun w => markTimeI_any b h w (by omega) (by omega) (by omega) (by omega), fun w => markTimeS_any b h w (by omega) (by omega) (by omega) (by omega), fun hb w => ?_, fun hb w => ?_, ?_⟩
  · rw [if_pos hb]; exact markTimeI_any (b + 1) h w (by omega) (by omega) (by omega) (by omega)
  · by_cases hh : b + 1 ≤ 999
    · have : b + 1 = 999 := by omega
      rw [if_pos hh, this]; exact markTimeI_any 999 h w (by omega) (by omega) (by omega) (by omega)
    · rw [if_neg hh]; exact markTimeI_any 999 h w (by omega) (by omega) (by omega) (by omega)
  · unfold mtV
    (repeat' split) <;> omega
end Go.Proofs.Ytjjjlpnbniofjab
