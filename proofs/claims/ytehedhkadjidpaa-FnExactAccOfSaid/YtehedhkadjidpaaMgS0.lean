import Derived.Test.YtehedhkadjidpaaB4
namespace Go.Proofs.Ytehedhkadjidpaa
open Go.RowKit
def mnI (a b : Int) : Int := if b < a then b else a
def mxI (a b : Int) : Int := if a < b then b else a
theorem ret_a4 {c s l m c' s' l' m' : Int} (h1 : c = c') (h2 : s = s') (h3 : l = l') (h4 : m = m') : Ending.returned (.agg #[.int .i64 c, .int .i64 s, .int .i64 l, .int .i64 m]) = .returned (.agg #[.int .i64 c', .int .i64 s', .int .i64 l', .int .i64 m']) := by rw [h1, h2, h3, h4]

set_option maxRecDepth 100000 in
set_option maxHeartbeats 2000000 in
theorem mergeS_0 (s l m c2 s2 l2 m2 : Int) (w : World)  : Calls Try.prog 78 #[.agg #[.int .i64 0, .int .i64 s, .int .i64 l, .int .i64 m], .agg #[.int .i64 c2, .int .i64 s2, .int .i64 l2, .int .i64 m2]] w fun e w' => e = .returned (.agg #[.int .i64 c2, .int .i64 s2, .int .i64 l2, .int .i64 m2]) ∧ Below w.heap.size w w' := by
  go_enter Try.func78, Try.ntmps78
  go_wp2
  all_goals go_returns
  all_goals exact ⟨rfl, by go_grown⟩

set_option maxRecDepth 100000 in
set_option maxHeartbeats 2000000 in
theorem mergeS_1 (c s l m s2 l2 m2 : Int) (w : World) (hc : c ≠ 0) : Calls Try.prog 78 #[.agg #[.int .i64 c, .int .i64 s, .int .i64 l, .int .i64 m], .agg #[.int .i64 0, .int .i64 s2, .int .i64 l2, .int .i64 m2]] w fun e w' => e = .returned (.agg #[.int .i64 c, .int .i64 s, .int .i64 l, .int .i64 m]) ∧ Below w.heap.size w w' := by
  have h : (c == 0) = false := by simp [hc]
  clear hc
  go_enter Try.func78, Try.ntmps78
  go_wp2
  all_goals go_returns
  all_goals exact ⟨rfl, by go_grown⟩

set_option maxRecDepth 100000 in
set_option maxHeartbeats 2000000 in
theorem mergeS_2 (c s l m c2 s2 l2 m2 : Int) (w : World) (a1 : 1 ≤ c) (a2 : c ≤ 999) (a3 : 1 ≤ c2) (a4 : c2 ≤ 999) (a5 : 0 ≤ s) (a6 : s ≤ 98901) (a7 : 0 ≤ s2) (a8 : s2 ≤ 98901) : Calls Try.prog 78 #[.agg #[.int .i64 c, .int .i64 s, .int .i64 l, .int .i64 m], .agg #[.int .i64 c2, .int .i64 s2, .int .i64 l2, .int .i64 m2]] w fun e w' => e = .returned (.agg #[.int .i64 (c + c2), .int .i64 (s + s2), .int .i64 (mnI l l2), .int .i64 (mxI m m2)]) ∧ Below w.heap.size w w' := by
  have h : (c == 0) = false := by simp; omega
  have h2 : (c2 == 0) = false := by simp; omega
  go_enter Try.func78, Try.ntmps78
  go_wp2
  all_goals go_returns
  all_goals (refine ⟨ret_a4 ?_ ?_ ?_ ?_, by go_grown⟩)
  all_goals first | rfl | omega | (unfold mnI; split <;> omega) | (unfold mxI; split <;> omega)

end Go.Proofs.Ytehedhkadjidpaa
