import Derived.Test.YtehedhkadjidpaaPure
import Derived.StillTailTactics
namespace Go.Proofs.Ytehedhkadjidpaa
open Go.RowKit

def cmpE (t k v t' k' v' : Int) : Int := if t ≠ t' then cmpI t t' else if k ≠ k' then cmpI k k' else cmpI v v'
set_option maxHeartbeats 1000000 in
theorem cmpOr_any (x y z : Int) (w : World) (B : Nat) (h0 : w.cell? ⟨B, 0, none⟩ = some (.int .i64 x)) (h1 : w.cell? ⟨B, 1, none⟩ = some (.int .i64 y)) (h2 : w.cell? ⟨B, 2, none⟩ = some (.int .i64 z)) :
    Calls Try.prog 66 #[.slice (some ⟨B, 0, none⟩) 3 3] w fun e w' => e = .returned (.int .i64 (orV x y z)) ∧ w = w' := by
  unfold orV
  by_cases hx : x = 0 <;> by_cases hy : y = 0 <;> by_cases hz : z = 0
  all_goals
    go_enter Try.func66, Try.ntmps66
    go_wp2
    go_rounds 4
    all_goals go_returns
    all_goals simp_all
set_option maxHeartbeats 1000000 in
theorem cmpSpec_any (t k v t' k' v' : Int) (w : World) : Calls Try.prog 82 #[.agg #[.int .i64 t, .int .i64 k, .int .i64 v], .agg #[.int .i64 t', .int .i64 k', .int .i64 v']] w
    fun e w' => e = .returned (.int .i64 (cmpE t k v t' k' v')) ∧ Below w.heap.size w w' := by
  go_enter Try.func82, Try.ntmps82
  go_wp2
  all_goals go_returns
  all_goals refine ⟨ret_int ?_, by go_grown⟩
  all_goals
    simp only [bne_iff_ne, ne_eq, bne_eq_false_iff_eq] at *
    unfold cmpE cmpI
    (repeat' split) <;> omega
set_option maxHeartbeats 1000000 in
theorem cmpC_any (x y : Int) (w : World) : Calls Try.prog 67 #[.int .i64 x, .int .i64 y] w fun e w' => e = .returned (.int .i64 (cmpI x y)) ∧ w' = w := by
  go_enter Try.func67, Try.ntmps67
  go_wp2
  all_goals go_returns
  all_goals refine ⟨ret_int ?_, rfl⟩
  all_goals
    unfold cmpI
    (repeat' split) <;> omega
theorem cmp3 (t k v t' k' v' : Int) : orV (cmpI t t') (cmpI k k') (cmpI v v') = cmpE t k v t' k' v' := by
  unfold orV cmpE cmpI
  (repeat' split) <;> omega
set_option maxRecDepth 100000 in
set_option maxHeartbeats 1000000 in
theorem cmpImpl_any (t k v t' k' v' : Int) (w : World) : Calls Try.prog 30 #[.agg #[.int .i64 t, .int .i64 k, .int .i64 v], .agg #[.int .i64 t', .int .i64 k', .int .i64 v']] w
    fun e w' => e = .returned (.int .i64 (cmpE t k v t' k' v')) ∧ Below w.heap.size w w' := by
  go_enter Try.func30, Try.ntmps30
  go_wp2
  refine wp_region_still_tail 15 (by kernel_rfl) (by kernel_rfl) ?_
  change wpStill _ _ (((w.alloc (.cells #[.int .i64 t, .int .i64 k, .int .i64 v] 32)).alloc (.cells #[.int .i64 t', .int .i64 k', .int .i64 v'] 32)).drew) (fun a' => wpList _ _ _ _ a' (((w.alloc (.cells #[.int .i64 t, .int .i64 k, .int .i64 v] 32)).alloc (.cells #[.int .i64 t', .int .i64 k', .int .i64 v'] 32)).drew)) _ _
  simp only [List.take_succ_cons, List.take_zero, List.drop_succ_cons, List.drop_zero]
  repeat (first | still_step | still_call (cmpC_any _ _ _))
  refine wpStill_nil ?_
  go_wp2_with fail
  refine (cmpOr_any (cmpI t t') (cmpI k k') (cmpI v v') _ _ (by simp [go_sem]) (by simp [go_sem]) (by simp [go_sem])).mono ?_
  rintro e w' ⟨rfl, rfl⟩
  go_wp2
  go_returns
  exact ⟨ret_int (cmp3 t k v t' k' v'), by go_grown⟩

end Go.Proofs.Ytehedhkadjidpaa
