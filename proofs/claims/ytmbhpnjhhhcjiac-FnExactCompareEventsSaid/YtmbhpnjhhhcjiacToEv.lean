import Derived.Test.YtmbhpnjhhhcjiacBase
namespace Go.Proofs.Ytmbhpnjhhhcjiac
open Go.RowKit
set_option maxHeartbeats 400000 in
theorem toEvent_any (t k v : Int) (w : World) : Calls Try.prog 24 #[.agg #[.int .i64 t, .int .i64 k, .int .i64 v]] w
    fun e w' => e = .returned (.agg #[.int .i64 t, .int .i64 k, .int .i64 v]) ∧ Below w.heap.size w w' := by
  go_enter Try.func24, Try.ntmps24
  go_wp2
  all_goals go_returns
  all_goals exact ⟨rfl, by go_grown⟩
end Go.Proofs.Ytmbhpnjhhhcjiac
