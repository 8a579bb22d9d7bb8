import Derived.Test.YthhcjpbgmloacaaScm
import Derived.Deep.RegionHeld3
namespace Go.Proofs.Ythhcjpbgmloacaa
open Go.RowKit
set_option maxRecDepth 100000 in
set_option maxHeartbeats 1000000 in
theorem mlast_any (s d : Int) (w : World) (hd0 : -1000 ≤ d) (hd : d ≤ 2000) : Calls Try.prog 42 #[.agg #[.int .i64 s, .int .i64 d]] w
    fun e w' => e = .returned (.int .i64 (d - 1)) ∧ Below w.heap.size w w' := by
  go_enter Try.func42, Try.ntmps42
  go_wp2
  all_goals go_returns
  all_goals exact ⟨ret_int (by go_arith), by go_grown⟩

set_option maxRecDepth 100000 in
set_option maxHeartbeats 1000000 in
theorem mclean_any (ev la s d : Int) (w : World) (hd0 : -1000 ≤ d) (hd : d ≤ 2000) (h0 : 0 ≤ la) (h1 : la ≤ 999) : Calls Try.prog 38 #[.agg #[.int .i64 ev, .int .i64 la], .agg #[.int .i64 s, .int .i64 d]] w
    fun e w' => e = .returned (.int .i64 (d - 1 + la)) ∧ Below w.heap.size w w' := by
  go_enter Try.func38, Try.ntmps38
  have q0 : IntKind.i64.wrap (d - 1 + la) = d - 1 + la := IntWalk.i64_in _ (by omega)
  go_wp2
  have hB0 : Below w.heap.size w ((w.alloc (.cells #[.int .i64 ev, .int .i64 la] 28)).alloc (.cells #[.int .i64 s, .int .i64 d] 30)).drew := by go_grown
  go_region_held3 (fun w' => w'.cell? ⟨w.heap.size, 0, none⟩ = some (.int .i64 ev) ∧ w'.cell? ⟨w.heap.size, 1, none⟩ = some (.int .i64 la) ∧ w'.cell? ⟨w.heap.size + 1, 0, none⟩ = some (.int .i64 s) ∧ w'.cell? ⟨w.heap.size + 1, 1, none⟩ = some (.int .i64 d) ∧ w.heap.size + 2 ≤ w'.heap.size ∧ Below w.heap.size w w') (first | go_keep | (go_split_ands; have hz := hb.size; refine ⟨?_, ?_, ?_, ?_, ?_, ?_⟩ <;> first | omega | (refine (hb.cell (by first | omega | (simp; done) | (simp; omega))).trans ?_; assumption) | (refine Below.trans ?_ (hb.mono (by first | omega | (simp; done) | (simp; omega))); assumption))) (first | (go_at_call 42; refine (mlast_any _ _ _ (by omega) (by omega)).mono ?_; rintro e w1 ⟨rfl, hb⟩))
  rename_i hS
  obtain ⟨s0, s1, s2, s3, s4, s5⟩ := hS
  go_wp2
  all_goals go_returns
  all_goals exact ⟨ret_int (by go_arith), by go_grown⟩

def phF (la d mark : Int) : Int := if d - 1 + la ≤ mark then 2 else if d - 1 ≤ mark then 1 else 0

set_option maxRecDepth 100000 in
set_option maxHeartbeats 1000000 in
theorem mclosed_any (s d mark : Int) (w : World) (hd0 : -1000 ≤ d) (hd : d ≤ 2000) : Calls Try.prog 39 #[.agg #[.int .i64 s, .int .i64 d], .int .i64 mark] w
    fun e w' => e = .returned (.bool (decide (d - 1 ≤ mark))) ∧ Below w.heap.size w w' := by
  go_enter Try.func39, Try.ntmps39
  go_wp2
  all_goals go_returns
  all_goals refine ⟨ret_bool ?_, by go_grown⟩
  all_goals first | rfl | (rw [Bool.eq_iff_iff]; simp; done) | (rw [Bool.eq_iff_iff]; simp; go_arith) | (simp; go_arith) | go_arith

set_option maxRecDepth 100000 in
set_option maxHeartbeats 1000000 in
theorem phase_any (ev la s d mark : Int) (w : World) (hd0 : -1000 ≤ d) (hd : d ≤ 2000) (h0 : 0 ≤ la) (h1 : la ≤ 999) : Calls Try.prog 25 #[.agg #[.int .i64 ev, .int .i64 la], .agg #[.int .i64 s, .int .i64 d], .int .i64 mark] w
    fun e w' => e = .returned (.int .i64 (phF la d mark)) ∧ Below w.heap.size w w' := by
  go_enter Try.func25, Try.ntmps25
  go_wp2_with (first | (go_at_call 38; refine (mclean_any _ _ _ _ _ (by omega) (by omega) (by omega) (by omega)).mono ?_; rintro e w1 ⟨rfl, hb⟩; obtain ⟨hc, hf⟩ := bcell hb) | (go_at_call 39; refine (mclosed_any _ _ _ _ (by omega) (by omega)).mono ?_; rintro e w2 ⟨rfl, hb2⟩) | go_in)
  all_goals go_returns
  all_goals refine ⟨ret_int ?_, by first | (refine Below.trans ?_ (hb.mono (by simp; omega)); go_grown; done) | (refine Below.trans (b := w1) ?_ (hb2.mono (by have := hb.size; simp at this; first | omega | (simp; omega))); refine Below.trans ?_ (hb.mono (by simp; omega)); go_grown)⟩
  all_goals
    unfold phF
    try simp only [decide_eq_true_eq, decide_eq_false_iff_not, Bool.not_eq_eq_eq_not, Bool.not_true, Bool.not_false] at *
    (repeat' split) <;> omega
end Go.Proofs.Ythhcjpbgmloacaa
