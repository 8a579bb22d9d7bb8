import Derived.Test.YtpfcmejcgkfjmabSc
import Derived.Deep.RegionHeld3
namespace Go.Proofs.Ytpfcmejcgkfjmab
open Go.RowKit
set_option maxRecDepth 100000 in
set_option maxHeartbeats 1000000 in
theorem mlast_any (s d : Int) (w : World) (hd0 : -1000 ≤ d) (hd : d ≤ 2000) : Calls Try.prog 59 #[.agg #[.int .i64 s, .int .i64 d]] w
    fun e w' => e = .returned (.int .i64 (d - 1)) ∧ Below w.heap.size w w' := by
  go_enter Try.func59, Try.ntmps59
  go_wp2
  all_goals go_returns
  all_goals exact ⟨ret_int (by go_arith), by go_grown⟩

set_option maxRecDepth 100000 in
set_option maxHeartbeats 1000000 in
theorem mclean_any (ev la s d : Int) (w : World) (hd0 : -1000 ≤ d) (hd : d ≤ 2000) (h0 : 0 ≤ la) (h1 : la ≤ 999) : Calls Try.prog 40 #[.agg #[.int .i64 ev, .int .i64 la], .agg #[.int .i64 s, .int .i64 d]] w
    fun e w' => e = .returned (.int .i64 (d - 1 + la)) ∧ Below w.heap.size w w' := by
  go_enter Try.func40, Try.ntmps40
  have q0 : IntKind.i64.wrap (d - 1 + la) = d - 1 + la := IntWalk.i64_in _ (by omega)
  go_wp2
  have hB0 : Below w.heap.size w ((w.alloc (.cells #[.int .i64 ev, .int .i64 la] 30)).alloc (.cells #[.int .i64 s, .int .i64 d] 24)).drew := by go_grown
  go_region_held3 (fun w' => w'.cell? ⟨w.heap.size, 0, none⟩ = some (.int .i64 ev) ∧ w'.cell? ⟨w.heap.size, 1, none⟩ = some (.int .i64 la) ∧ w'.cell? ⟨w.heap.size + 1, 0, none⟩ = some (.int .i64 s) ∧ w'.cell? ⟨w.heap.size + 1, 1, none⟩ = some (.int .i64 d) ∧ w.heap.size + 2 ≤ w'.heap.size ∧ Below w.heap.size w w') (first | go_keep | (go_split_ands; have hz := hb.size; refine ⟨?_, ?_, ?_, ?_, ?_, ?_⟩ <;> first | omega | (refine (hb.cell (by first | omega | (simp; done) | (simp; omega))).trans ?_; assumption) | (refine Below.trans ?_ (hb.mono (by first | omega | (simp; done) | (simp; omega))); assumption))) (first | (go_at_call 59; refine (mlast_any _ _ _ (by omega) (by omega)).mono ?_; rintro e w1 ⟨rfl, hb⟩))
  rename_i hS
  obtain ⟨s0, s1, s2, s3, s4, s5⟩ := hS
  go_wp2
  all_goals go_returns
  all_goals exact ⟨ret_int (by go_arith), by go_grown⟩

set_option maxRecDepth 100000 in
set_option maxHeartbeats 1000000 in
theorem cleanI_any (ev la s d : Int) (w : World)  : Calls Try.prog 16 #[.agg #[.int .i64 ev, .int .i64 la], .agg #[.int .i64 s, .int .i64 d]] w
    fun e w' => e = .returned (.int .i64 (cleanF ev la s d)) ∧ Below w.heap.size w w' := by
  by_cases hv : (0 ≤ ev ∧ ev ≤ 40 ∧ 0 ≤ la ∧ la ≤ 999) ∧ (-999 ≤ s ∧ s ≤ 999 ∧ s < d ∧ d ≤ 1998)
  · have hf : cleanF ev la s d = d - 1 + la := by unfold cleanF trgV winV; rw [if_pos hv]
    rw [hf]
    clear hf
    obtain ⟨⟨a1, a2, a3, a4⟩, ⟨a5, a6, a7, a8⟩⟩ := hv
    go_enter Try.func16, Try.ntmps16
    go_wp2_with (first | (go_at_call 40; refine (mclean_any _ _ _ _ _ (by omega) (by omega) (by omega) (by omega)).mono ?_; rintro e w1 ⟨rfl, hb⟩) | go_in)
    go_returns
    exact ⟨rfl, (by first | (go_grown; done) | (refine Below.trans ?_ (hb.mono (by first | omega | (simp; done) | (simp; omega))); go_grown))⟩
  · go_enter Try.func16, Try.ntmps16
    go_wp2
    all_goals first | (go_returns; refine ⟨ret_int ?_, by go_grown⟩; unfold cleanF trgV winV; rw [if_neg hv]; done) | (exfalso; apply hv; clear hv; first | omega | (simp only [Bool.not_eq_eq_eq_not, Bool.not_true, Bool.not_false, decide_eq_false_iff_not, decide_eq_true_eq] at *; omega))

def phF (la d mark : Int) : Int := if d - 1 + la ≤ mark then 2 else if d - 1 ≤ mark then 1 else 0

set_option maxRecDepth 100000 in
set_option maxHeartbeats 1000000 in
theorem mclosed_any (s d mark : Int) (w : World) (hd0 : -1000 ≤ d) (hd : d ≤ 2000) : Calls Try.prog 60 #[.agg #[.int .i64 s, .int .i64 d], .int .i64 mark] w
    fun e w' => e = .returned (.bool (decide (d - 1 ≤ mark))) ∧ Below w.heap.size w w' := by
  go_enter Try.func60, Try.ntmps60
  go_wp2
  all_goals go_returns
  all_goals refine ⟨ret_bool ?_, by go_grown⟩
  all_goals first | rfl | (rw [Bool.eq_iff_iff]; simp; done) | (rw [Bool.eq_iff_iff]; simp; go_arith) | (simp; go_arith) | go_arith

set_option maxRecDepth 100000 in
set_option maxHeartbeats 1000000 in
theorem phase_any (ev la s d mark : Int) (w : World) (hd0 : -1000 ≤ d) (hd : d ≤ 2000) (h0 : 0 ≤ la) (h1 : la ≤ 999) : Calls Try.prog 45 #[.agg #[.int .i64 ev, .int .i64 la], .agg #[.int .i64 s, .int .i64 d], .int .i64 mark] w
    fun e w' => e = .returned (.int .i64 (phF la d mark)) ∧ Below w.heap.size w w' := by
  go_enter Try.func45, Try.ntmps45
  go_wp2_with (first | (go_at_call 40; refine (mclean_any _ _ _ _ _ (by omega) (by omega) (by omega) (by omega)).mono ?_; rintro e w1 ⟨rfl, hb⟩; obtain ⟨hc, hf⟩ := bcell hb) | (go_at_call 60; refine (mclosed_any _ _ _ _ (by omega) (by omega)).mono ?_; rintro e w2 ⟨rfl, hb2⟩) | go_in)
  all_goals go_returns
  all_goals refine ⟨ret_int ?_, by first | (refine Below.trans ?_ (hb.mono (by simp; omega)); go_grown; done) | (refine Below.trans (b := w1) ?_ (hb2.mono (by have := hb.size; simp at this; first | omega | (simp; omega))); refine Below.trans ?_ (hb.mono (by simp; omega)); go_grown)⟩
  all_goals
    unfold phF
    try simp only [decide_eq_true_eq, decide_eq_false_iff_not, Bool.not_eq_eq_eq_not, Bool.not_true, Bool.not_false] at *
    (repeat' split) <;> omega

set_option maxRecDepth 100000 in
set_option maxHeartbeats 1000000 in
theorem mearly_any (ev la many : Int) (w : World) (h0 : 0 ≤ ev) (h1 : ev ≤ 40) (h2 : 1 ≤ many) (h3 : many ≤ 40) : Calls Try.prog 46 #[.agg #[.int .i64 ev, .int .i64 la], .int .i64 many] w
    fun e w' => e = .returned (.bool (decide (0 < ev ∧ many % ev = 0))) ∧ Below w.heap.size w w' := by
  go_enter Try.func46, Try.ntmps46
  go_wp2
  all_goals go_returns
  all_goals refine ⟨ret_bool ?_, by go_grown⟩
  all_goals first | (rw [Bool.eq_iff_iff]; simp_all; done) | (simp_all; omega) | (rw [Bool.eq_iff_iff]; simp only [Bool.and_eq_true, bne_iff_ne, ne_eq, beq_iff_eq, decide_eq_true_eq]; constructor <;> (rintro ⟨p, q⟩; exact ⟨by omega, q⟩))

end Go.Proofs.Ytpfcmejcgkfjmab
