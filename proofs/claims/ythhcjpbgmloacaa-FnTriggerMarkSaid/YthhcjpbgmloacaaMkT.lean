import Derived.Test.YthhcjpbgmloacaaSim
import Derived.Test.YthhcjpbgmloacaaQb
import Derived.Deep.RegionHeld3
namespace Go.Proofs.Ythhcjpbgmloacaa
open Go.RowKit
set_option maxRecDepth 100000 in
set_option maxHeartbeats 1000000 in
theorem mkI_any (ev la s d old mark : Int) (w : World)  : Calls Try.prog 10 #[.agg #[.int .i64 ev, .int .i64 la], .agg #[.int .i64 s, .int .i64 d], .int .i64 old, .int .i64 mark] w
    fun e w' => e = .returned (.tuple #[.bool (mkFire ev la s d old mark), .bool (mkClean ev la s d old mark), .bool (mkOk ev la s d old mark)]) ∧ Below w.heap.size w w' := by
  by_cases hv : (0 ≤ ev ∧ ev ≤ 40 ∧ 0 ≤ la ∧ la ≤ 999) ∧ (-999 ≤ s ∧ s ≤ 999 ∧ s < d ∧ d ≤ 1998) ∧ -1 ≤ old ∧ old ≤ 3000 ∧ -1 ≤ mark ∧ mark ≤ 3000 ∧ old ≤ mark
  · have hf1 : mkFire ev la s d old mark = decide (old < d - 1 ∧ d - 1 ≤ mark) := by unfold mkFire; exact decide_eq_decide.2 ⟨fun h => h.2, fun h => ⟨hv, h⟩⟩
    have hf2 : mkClean ev la s d old mark = decide (old < d - 1 + la ∧ d - 1 + la ≤ mark) := by unfold mkClean; exact decide_eq_decide.2 ⟨fun h => h.2, fun h => ⟨hv, h⟩⟩
    have hf3 : mkOk ev la s d old mark = true := by unfold mkOk; exact decide_eq_true hv
    have Hf1 := Lib.hid hf1
    have Hf2 := Lib.hid hf2
    have Hf3 := Lib.hid hf3
    clear hf1 hf2 hf3
    obtain ⟨⟨a1, a2, a3, a4⟩, ⟨a5, a6, a7, a8⟩, a9, a10, a11, a12, a13⟩ := hv
    go_enter Try.func10, Try.ntmps10
    have hB0 : Below w.heap.size w ((((w.alloc (.cells #[.int .i64 ev, .int .i64 la] 28)).alloc (.cells #[.int .i64 s, .int .i64 d] 30)).alloc (.cells #[.int .i64 ev, .int .i64 la] 28)).alloc (.cells #[.int .i64 s, .int .i64 d] 30)).drew := by go_grown
    go_wp2
    go_region_held3 (fun w' => w'.cell? ⟨w.heap.size, 0, none⟩ = some (.int .i64 ev) ∧ w'.cell? ⟨w.heap.size, 1, none⟩ = some (.int .i64 la) ∧ w'.cell? ⟨w.heap.size + 1, 0, none⟩ = some (.int .i64 s) ∧ w'.cell? ⟨w.heap.size + 1, 1, none⟩ = some (.int .i64 d) ∧ w.heap.size + 4 ≤ w'.heap.size ∧ Below w.heap.size w w') (first | (refine ⟨?_, ?_, ?_, ?_, ?_, ?_⟩ <;> first | assumption | (simp only [World.cell?_drew]; assumption) | (simp only [World.size_drew]; omega) | omega | (go_keep; done)) | go_keep | (go_split_ands; have hz := hb.size; refine ⟨?_, ?_, ?_, ?_, ?_, ?_⟩ <;> first | omega | assumption | (refine (hb.cell (by first | omega | (simp; done) | (simp; omega))).trans ?_; assumption) | (refine Below.trans ?_ (hb.mono (by first | omega | (simp; done) | (simp; omega))); assumption))) (first | (go_at_call 25; refine (phase_any _ _ _ _ _ _ (by omega) (by omega) (by omega) (by omega)).mono ?_; rintro e w1 ⟨rfl, hb⟩))
    rename_i hS
    obtain ⟨s0, s1, s2, s3, s4, s5⟩ := hS
    go_wp2
    all_goals go_returns
    all_goals refine ⟨ret_tup3 (bool_eq ?_) (bool_eq ?_) (bool_eq ?_), s5⟩
    all_goals first | rw [Hf1.out] | rw [Hf2.out] | rw [Hf3.out]
    all_goals clear Hf1 Hf2 Hf3
    all_goals
      (try unfold phF at *)
      (try simp only [decide_eq_true_eq, decide_eq_false_iff_not, beq_iff_eq, beq_eq_false_iff_ne, bne_iff_ne, bne_eq_false_iff_eq, ne_eq] at *)
      first | rfl | (rw [Bool.eq_iff_iff]; simp; (repeat' split at *) <;> omega) | (symm; rw [decide_eq_true_eq]; (repeat' split at *) <;> omega) | (symm; rw [decide_eq_false_iff_not]; (repeat' split at *) <;> omega)
  · go_enter Try.func10, Try.ntmps10
    go_wp2
    all_goals first | (go_returns; refine ⟨ret_tup3 (bool_eq ?_) (bool_eq ?_) (bool_eq ?_), by go_grown⟩ <;> (first | unfold mkFire | unfold mkClean | unfold mkOk) <;> (symm; rw [decide_eq_false_iff_not]; intro hx; first | exact hv hx | exact hv hx.1); done) | (exfalso; apply hv; clear hv; first | omega | (simp only [Bool.not_eq_eq_eq_not, Bool.not_true, Bool.not_false, decide_eq_false_iff_not, decide_eq_true_eq] at *; omega))

set_option maxRecDepth 100000 in
set_option maxHeartbeats 1000000 in
theorem sclean_any (ev la s d : Int) (w : World) (hd0 : -1000 ≤ d) (hd : d ≤ 2000) (h0 : 0 ≤ la) (h1 : la ≤ 999) : Calls Try.prog 21 #[.agg #[.int .i64 ev, .int .i64 la], .agg #[.int .i64 s, .int .i64 d]] w
    fun e w' => e = .returned (.int .i64 (d - 1 + la)) ∧ Below w.heap.size w w' := by
  go_enter Try.func21, Try.ntmps21
  go_wp2
  all_goals go_returns
  all_goals exact ⟨ret_int (by go_arith), by go_grown⟩

set_option maxRecDepth 100000 in
set_option maxHeartbeats 4000000 in
theorem mkS_any (ev la s d old mark : Int) (w : World)  : Calls Try.prog 7 #[.agg #[.int .i64 ev, .int .i64 la], .agg #[.int .i64 s, .int .i64 d], .int .i64 old, .int .i64 mark] w
    fun e w' => e = .returned (.tuple #[.bool (mkFire ev la s d old mark), .bool (mkClean ev la s d old mark), .bool (mkOk ev la s d old mark)]) ∧ Below w.heap.size w w' := by
  by_cases hv : (0 ≤ ev ∧ ev ≤ 40 ∧ 0 ≤ la ∧ la ≤ 999) ∧ (-999 ≤ s ∧ s ≤ 999 ∧ s < d ∧ d ≤ 1998) ∧ -1 ≤ old ∧ old ≤ 3000 ∧ -1 ≤ mark ∧ mark ≤ 3000 ∧ old ≤ mark
  · have hf1 : mkFire ev la s d old mark = decide (old < d - 1 ∧ d - 1 ≤ mark) := by unfold mkFire; exact decide_eq_decide.2 ⟨fun h => h.2, fun h => ⟨hv, h⟩⟩
    have hf2 : mkClean ev la s d old mark = decide (old < d - 1 + la ∧ d - 1 + la ≤ mark) := by unfold mkClean; exact decide_eq_decide.2 ⟨fun h => h.2, fun h => ⟨hv, h⟩⟩
    have hf3 : mkOk ev la s d old mark = true := by unfold mkOk; exact decide_eq_true hv
    have Hf1 := Lib.hid hf1
    have Hf2 := Lib.hid hf2
    have Hf3 := Lib.hid hf3
    clear hf1 hf2 hf3
    obtain ⟨⟨a1, a2, a3, a4⟩, ⟨a5, a6, a7, a8⟩, a9, a10, a11, a12, a13⟩ := hv
    have q1 : IntKind.i64.wrap (d - 1) = d - 1 := IntWalk.i64_in _ (by omega)
    have gg : (decide (old < d - 1) = true ∧ decide (old < d - 1 + la) = true) ∨ (decide (old < d - 1) = false ∧ decide (old < d - 1 + la) = true) ∨ (decide (old < d - 1) = false ∧ decide (old < d - 1 + la) = false) := by
      simp only [decide_eq_true_eq, decide_eq_false_iff_not]; omega
    rcases gg with ⟨g1, g2⟩ | ⟨g1, g2⟩ | ⟨g1, g2⟩
    all_goals
      have hB0 : Below w.heap.size w ((((w.alloc (.cells #[.int .i64 ev, .int .i64 la] 28)).alloc (.cells #[.int .i64 s, .int .i64 d] 30)).alloc (.cells #[.int .i64 ev, .int .i64 la] 28)).alloc (.cells #[.int .i64 s, .int .i64 d] 30)) := by go_grown
      have k00 := Bw.cellOf (w := ((((w.alloc (.cells #[.int .i64 ev, .int .i64 la] 28)).alloc (.cells #[.int .i64 s, .int .i64 d] 30)).alloc (.cells #[.int .i64 ev, .int .i64 la] 28)).alloc (.cells #[.int .i64 s, .int .i64 d] 30))) (b := w.heap.size) (o := 0) (v := .int .i64 ev) (by simp; try omega) (by simp [go_sem])
      have k01 := Bw.cellOf (w := ((((w.alloc (.cells #[.int .i64 ev, .int .i64 la] 28)).alloc (.cells #[.int .i64 s, .int .i64 d] 30)).alloc (.cells #[.int .i64 ev, .int .i64 la] 28)).alloc (.cells #[.int .i64 s, .int .i64 d] 30))) (b := w.heap.size) (o := 1) (v := .int .i64 la) (by simp; try omega) (by simp [go_sem])
      have k10 := Bw.cellOf (w := ((((w.alloc (.cells #[.int .i64 ev, .int .i64 la] 28)).alloc (.cells #[.int .i64 s, .int .i64 d] 30)).alloc (.cells #[.int .i64 ev, .int .i64 la] 28)).alloc (.cells #[.int .i64 s, .int .i64 d] 30))) (b := w.heap.size + 1) (o := 0) (v := .int .i64 s) (by simp; try omega) (by simp [go_sem])
      have k11 := Bw.cellOf (w := ((((w.alloc (.cells #[.int .i64 ev, .int .i64 la] 28)).alloc (.cells #[.int .i64 s, .int .i64 d] 30)).alloc (.cells #[.int .i64 ev, .int .i64 la] 28)).alloc (.cells #[.int .i64 s, .int .i64 d] 30))) (b := w.heap.size + 1) (o := 1) (v := .int .i64 d) (by simp; try omega) (by simp [go_sem])
      go_enter Try.func7, Try.ntmps7
      go_wp2_with (go_in)
      refine wp_region_quiet_below (by kernel_rfl) (by kernel_rfl) ?_
      repeat (any_goals (go_big_quiet_step (first | (go_at_call 21; refine Calls.below_of (sclean_any _ _ _ _ _ (by omega) (by omega) (by omega) (by omega))))))
      refine wpQuiet_nil ?_
      intro w1 hb1
      clear q1
      go_wp2
      all_goals go_returns
      all_goals refine ⟨ret_tup3 (bool_eq ?_) (bool_eq ?_) (bool_eq ?_), hB0.trans (hb1.mono hB0.size)⟩
      all_goals first | rw [Hf1.out] | rw [Hf2.out] | rw [Hf3.out]
      all_goals clear Hf1 Hf2 Hf3
      all_goals
        (try simp only [decide_eq_true_eq, decide_eq_false_iff_not, beq_iff_eq, beq_eq_false_iff_ne, bne_iff_ne, bne_eq_false_iff_eq, ne_eq] at *)
        first | rfl | (rw [Bool.eq_iff_iff]; simp; (repeat' split at *) <;> omega) | (symm; rw [decide_eq_true_eq]; (repeat' split at *) <;> omega) | (symm; rw [decide_eq_false_iff_not]; (repeat' split at *) <;> omega) | (simp; omega)
  · go_enter Try.func7, Try.ntmps7
    go_wp2
    all_goals first | (go_returns; refine ⟨ret_tup3 (bool_eq ?_) (bool_eq ?_) (bool_eq ?_), by go_grown⟩ <;> (first | unfold mkFire | unfold mkClean | unfold mkOk) <;> (symm; rw [decide_eq_false_iff_not]; intro hx; first | exact hv hx | exact hv hx.1); done) | (exfalso; apply hv; clear hv; first | omega | (simp only [Bool.not_eq_eq_eq_not, Bool.not_true, Bool.not_false, decide_eq_false_iff_not, decide_eq_true_eq] at *; omega))

end Go.Proofs.Ythhcjpbgmloacaa
