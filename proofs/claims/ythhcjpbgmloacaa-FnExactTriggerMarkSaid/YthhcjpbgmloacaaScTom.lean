import Derived.Test.YthhcjpbgmloacaaScm
namespace Go.Proofs.Ythhcjpbgmloacaa
open Go.RowKit
set_option maxRecDepth 100000 in
set_option maxHeartbeats 1000000 in
theorem toWindow_any (s d : Int) (w : World) : Calls Try.prog 9 #[.agg #[.int .i64 s, .int .i64 d]] w
    fun e w' => e = .returned (.agg #[.int .i64 s, .int .i64 d]) ∧ Below w.heap.size w w' := by
  go_enter Try.func9, Try.ntmps9
  go_wp2
  all_goals go_returns
  all_goals exact ⟨rfl, by go_grown⟩

set_option maxRecDepth 100000 in
set_option maxHeartbeats 1000000 in
theorem toTrigger_any (ev la : Int) (w : World) : Calls Try.prog 8 #[.agg #[.int .i64 ev, .int .i64 la]] w
    fun e w' => e = .returned (.agg #[.int .i64 ev, .int .i64 la]) ∧ Below w.heap.size w w' := by
  go_enter Try.func8, Try.ntmps8
  go_wp2
  all_goals go_returns
  all_goals exact ⟨rfl, by go_grown⟩

end Go.Proofs.Ythhcjpbgmloacaa
