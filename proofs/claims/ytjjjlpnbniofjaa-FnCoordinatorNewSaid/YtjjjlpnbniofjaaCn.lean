import Derived.Test.YtjjjlpnbniofjaaInR
import Derived.Test.YtjjjlpnbniofjaaQb
import Derived.Test.YtjjjlpnbniofjaaBo
namespace Go.Proofs.Ytjjjlpnbniofjaa
open Go.RowKit
/-- A coordinator without checkpoints. -/
def CnPost (a b c : Int) (w : World) (e : Ending) (w' : World) : Prop := e = .returned (.agg #[.int .i64 a, .int .i64 b, .int .i64 c, .slice none 0 0]) ∧ Below w.heap.size w w'
theorem vtI_t (x : Int) (w : World) (h0 : 1 ≤ x) (h1 : x ≤ 8) : Calls Try.prog 72 #[.int .i64 x] w fun e w' => e = .returned (.bool true) ∧ w = w' := by
  go_enter Try.func72, Try.ntmps72
  go_wp2_with fail
  refine (inRI_t x 1 8 _ h0 h1).mono ?_
  rintro e w1 ⟨rfl, rfl⟩
  go_wp2
  all_goals go_returns
  all_goals exact ⟨rfl, rfl⟩
theorem vtI_f (x : Int) (w : World) (h : ¬ (1 ≤ x ∧ x ≤ 8)) : Calls Try.prog 72 #[.int .i64 x] w fun e w' => e = .returned (.bool false) ∧ w = w' := by
  go_enter Try.func72, Try.ntmps72
  go_wp2_with fail
  refine (inRI_f x 1 8 _ h).mono ?_
  rintro e w1 ⟨rfl, rfl⟩
  go_wp2
  all_goals go_returns
  all_goals exact ⟨rfl, rfl⟩
set_option maxHeartbeats 1000000 in
theorem cnS_t (x : Int) (w : World) (h0 : 1 ≤ x) (h1 : x ≤ 8) : Calls Try.prog 38 #[.int .i64 x] w (CnPost x 1 0 w) := by
  go_enter Try.func38, Try.ntmps38
  go_wp2_with fail
  refine (inRS_t x 1 8 _ h0 h1).mono ?_
  rintro e w1 ⟨rfl, rfl⟩
  go_wp2
  all_goals go_returns
  all_goals exact ⟨rfl, by go_grown⟩
set_option maxHeartbeats 1000000 in
theorem cnS_f (x : Int) (w : World) (h : ¬ (1 ≤ x ∧ x ≤ 8)) : Calls Try.prog 38 #[.int .i64 x] w (CnPost 0 0 0 w) := by
  go_enter Try.func38, Try.ntmps38
  go_wp2_with fail
  refine (inRS_f x 1 8 _ h).mono ?_
  rintro e w1 ⟨rfl, rfl⟩
  go_wp2
  all_goals go_returns
  all_goals exact ⟨rfl, by go_grown⟩
set_option maxHeartbeats 1000000 in
theorem cnI_t (x : Int) (w : World) (h0 : 1 ≤ x) (h1 : x ≤ 8) : Calls Try.prog 39 #[.int .i64 x] w (CnPost x 1 0 w) := by
  go_enter Try.func39, Try.ntmps39
  go_wp2_with fail
  refine (vtI_t x _ h0 h1).mono ?_
  rintro e w1 ⟨rfl, rfl⟩
  go_wp2
  all_goals go_returns
  all_goals exact ⟨rfl, by go_grown⟩
set_option maxHeartbeats 1000000 in
theorem cnI_f (x : Int) (w : World) (h : ¬ (1 ≤ x ∧ x ≤ 8)) : Calls Try.prog 39 #[.int .i64 x] w (CnPost 0 0 0 w) := by
  go_enter Try.func39, Try.ntmps39
  go_wp2_with fail
  refine (vtI_f x _ h).mono ?_
  rintro e w1 ⟨rfl, rfl⟩
  go_wp2
  all_goals go_returns
  all_goals exact ⟨rfl, by go_grown⟩
theorem eqCkS_nil (w : World) : Calls Try.prog 73 #[.slice none 0 0, .slice none 0 0] w fun e w' => e = .returned (.bool true) ∧ Below w.heap.size w w' := by
  go_enter Try.func73, Try.ntmps73
  go_wp2
  go_rounds 1
  all_goals go_wp2
  all_goals go_returns
  all_goals exact ⟨rfl, by go_grown⟩
theorem markCkS_nil (w : World) : Calls Try.prog 74 #[.slice none 0 0, .int .i64 1] w fun e w' => e = .returned (.int .i64 1) ∧ Below w.heap.size w w' := by
  go_enter Try.func74, Try.ntmps74
  go_wp2
  go_rounds 1
  all_goals go_wp2
  all_goals go_returns
  all_goals exact ⟨rfl, by go_grown⟩
theorem heldCkS_nil (w : World) : Calls Try.prog 75 #[.slice none 0 0, .int .i64 1] w fun e w' => e = .returned (.int .i64 1) ∧ Below w.heap.size w w' := by
  go_enter Try.func75, Try.ntmps75
  go_wp2
  go_rounds 1
  all_goals go_wp2
  all_goals go_returns
  all_goals exact ⟨rfl, by go_grown⟩
set_option maxHeartbeats 1000000 in
theorem eqCoord_nil (a b c : Int) (w : World) : Calls Try.prog 40 #[.agg #[.int .i64 a, .int .i64 b, .int .i64 c, .slice none 0 0], .agg #[.int .i64 a, .int .i64 b, .int .i64 c, .slice none 0 0]] w fun e w' => e = .returned (.bool true) ∧ Below w.heap.size w w' := by
  go_enter Try.func40, Try.ntmps40
  go_wp2_with fail
  refine (eqCkS_nil _).mono ?_
  rintro e w1 ⟨rfl, b1⟩
  go_wp2
  all_goals go_returns
  all_goals exact ⟨rfl, (((Below.refl _ _).alloc (Nat.le_refl _) _).alloc (by simp) _).trans (b1.mono (by simp; try omega))⟩
set_option maxHeartbeats 1000000 in
theorem markCoord_nil (a b c : Int) (w : World) : Calls Try.prog 41 #[.agg #[.int .i64 a, .int .i64 b, .int .i64 c, .slice none 0 0], .int .i64 1] w fun e w' => e = .returned (.int .i64 1) ∧ Below w.heap.size w w' := by
  go_enter Try.func41, Try.ntmps41
  go_wp2_with fail
  refine (markCkS_nil _).mono ?_
  rintro e w1 ⟨rfl, b1⟩
  go_wp2
  all_goals go_returns
  all_goals exact ⟨rfl, ((Below.refl _ _).alloc (Nat.le_refl _) _).trans (b1.mono (by simp))⟩
set_option maxHeartbeats 1000000 in
theorem heldCoord_nil (a b c : Int) (w : World) : Calls Try.prog 42 #[.agg #[.int .i64 a, .int .i64 b, .int .i64 c, .slice none 0 0], .int .i64 1] w fun e w' => e = .returned (.int .i64 1) ∧ Below w.heap.size w w' := by
  go_enter Try.func42, Try.ntmps42
  go_wp2_with fail
  refine (heldCkS_nil _).mono ?_
  rintro e w1 ⟨rfl, b1⟩
  go_wp2
  all_goals go_returns
  all_goals exact ⟨rfl, ((Below.refl _ _).alloc (Nat.le_refl _) _).trans (b1.mono (by simp))⟩
end Go.Proofs.Ytjjjlpnbniofjaa
