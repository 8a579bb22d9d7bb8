import Derived.Test.YtpfcmejcgkfjmabSi
import Derived.Deep.RegionHeld3
namespace Go.Proofs.Ytpfcmejcgkfjmab
open Go.RowKit
set_option maxRecDepth 100000 in
set_option maxHeartbeats 1000000 in
theorem evI_any (ev la s d many mark : Int) (w : World)  : Calls Try.prog 19 #[.agg #[.int .i64 ev, .int .i64 la], .agg #[.int .i64 s, .int .i64 d], .int .i64 many, .int .i64 mark] w
    fun e w' => e = .returned (.int .i64 (evF ev la s d many mark)) ∧ Below w.heap.size w w' := by
  by_cases hv : (0 ≤ ev ∧ ev ≤ 40 ∧ 0 ≤ la ∧ la ≤ 999) ∧ (-999 ≤ s ∧ s ≤ 999 ∧ s < d ∧ d ≤ 1998) ∧ 1 ≤ many ∧ many ≤ 40 ∧ -1 ≤ mark ∧ mark ≤ 3000
  · have hf : evF ev la s d many mark = if d - 1 + la ≤ mark then 2 else if d - 1 ≤ mark then 1 else if 0 < ev ∧ many % ev = 0 then 1 else 0 := by unfold evF trgV winV; rw [if_pos hv]
    have Hf := Lib.hid hf
    clear hf
    obtain ⟨⟨a1, a2, a3, a4⟩, ⟨a5, a6, a7, a8⟩, a9, a10, a11, a12⟩ := hv
    go_enter Try.func19, Try.ntmps19
    go_wp2_with (first | (go_at_call 45; refine (phase_any _ _ _ _ _ _ (by omega) (by omega) (by omega) (by omega)).mono ?_; rintro e w1 ⟨rfl, hb⟩; obtain ⟨hc, hf⟩ := bcell hb) | (go_at_call 46; refine (mearly_any _ _ _ _ (by omega) (by omega) (by omega) (by omega)).mono ?_; rintro e w2 ⟨rfl, hb2⟩) | go_in)
    all_goals go_returns
    all_goals refine ⟨ret_int ?_, by first | (refine Below.trans ?_ (hb.mono (by simp; omega)); go_grown; done) | (refine Below.trans (b := w1) ?_ (hb2.mono (by have := hb.size; simp at this; first | omega | (simp; omega))); refine Below.trans ?_ (hb.mono (by simp; omega)); go_grown)⟩
    all_goals
      rw [Hf.out]
      clear Hf
      unfold phF at *
      (try simp only [decide_eq_true_eq, decide_eq_false_iff_not, beq_iff_eq, beq_eq_false_iff_ne] at *)
      (repeat' split at *) <;> omega
  · go_enter Try.func19, Try.ntmps19
    go_wp2
    all_goals first | (go_returns; refine ⟨ret_int ?_, by go_grown⟩; unfold evF trgV winV; rw [if_neg hv]; done) | (exfalso; apply hv; clear hv; first | omega | (simp only [Bool.not_eq_eq_eq_not, Bool.not_true, Bool.not_false, decide_eq_false_iff_not, decide_eq_true_eq] at *; omega))

end Go.Proofs.Ytpfcmejcgkfjmab
