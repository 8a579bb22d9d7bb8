import Derived.Test.YtehedhkadjidpaaAcI
namespace Go.Proofs.Ytehedhkadjidpaa
open Go.RowKit
set_option maxHeartbeats 1000000 in
theorem eqAcc_same (c s l m : Int) (w : World) : Calls Try.prog 50 #[.agg #[.int .i64 c, .int .i64 s, .int .i64 l, .int .i64 m], .agg #[.int .i64 c, .int .i64 s, .int .i64 l, .int .i64 m]] w
    fun e w' => e = .returned (.bool true) ∧ Below w.heap.size w w' := by
  go_enter Try.func50, Try.ntmps50
  go_wp2
  all_goals go_returns
  all_goals exact ⟨rfl, by go_grown⟩
end Go.Proofs.Ytehedhkadjidpaa
