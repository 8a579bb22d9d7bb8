import Derived.Test.YtjjjlpnbniofjabTm2
namespace Go.Proofs.Ytjjjlpnbniofjab
open Go.RowKit
set_option maxHeartbeats 1000000 in
theorem neqTm_run (x t : TimerR) (w : World) : (binOp .neq 25 (.agg #[.int .i64 x.a0, .int .i64 x.a1, .int .i64 x.a2]) (.agg #[.int .i64 t.a0, .int .i64 t.a1, .int .i64 t.a2])).run Try.prog w = .ok (.bool (!decide (x = t))) w := by
  have e : (x = t) ↔ (x.a0 = t.a0 ∧ x.a1 = t.a1 ∧ x.a2 = t.a2) := by
    constructor
    · rintro rfl; exact ⟨rfl, rfl, rfl⟩
    · rintro ⟨h0, h1, h2⟩; cases x; cases t; simp_all
  have hne : decide (x = t) = decide (x.a0 = t.a0 ∧ x.a1 = t.a1 ∧ x.a2 = t.a2) := decide_eq_decide.2 e
  rw [hne]
  clear hne e
  by_cases h0 : x.a0 = t.a0 <;> by_cases h1 : x.a1 = t.a1 <;> by_cases h2 : x.a2 = t.a2 <;> simp [go_sem, h0, h1, h2]
set_option maxHeartbeats 1000000 in
theorem eqlTm_run (x t : TimerR) (w : World) : (binOp .eql 25 (.agg #[.int .i64 x.a0, .int .i64 x.a1, .int .i64 x.a2]) (.agg #[.int .i64 t.a0, .int .i64 t.a1, .int .i64 t.a2])).run Try.prog w = .ok (.bool (decide (x = t))) w := by
  have e : (x = t) ↔ (x.a0 = t.a0 ∧ x.a1 = t.a1 ∧ x.a2 = t.a2) := by
    constructor
    · rintro rfl; exact ⟨rfl, rfl, rfl⟩
    · rintro ⟨h0, h1, h2⟩; cases x; cases t; simp_all
  have hne : decide (x = t) = decide (x.a0 = t.a0 ∧ x.a1 = t.a1 ∧ x.a2 = t.a2) := decide_eq_decide.2 e
  rw [hne]
  clear hne e
  by_cases h0 : x.a0 = t.a0 <;> by_cases h1 : x.a1 = t.a1 <;> by_cases h2 : x.a2 = t.a2 <;> simp [go_sem, h0, h1, h2]
end Go.Proofs.Ytjjjlpnbniofjab
