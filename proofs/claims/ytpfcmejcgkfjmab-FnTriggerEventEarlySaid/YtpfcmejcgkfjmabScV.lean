import Derived.Test.YtpfcmejcgkfjmabSj
namespace Go.Proofs.Ytpfcmejcgkfjmab
open Go.RowKit
theorem cleanF_pos {ev la s d : Int} (h1 : trgV ev la) (h2 : winV s d) : cleanF ev la s d = d - 1 + la := by unfold cleanF; rw [if_pos ⟨h1, h2⟩]
theorem cleanF_neg {ev la s d : Int} (h : ¬ (trgV ev la ∧ winV s d)) : cleanF ev la s d = -1 := by unfold cleanF; rw [if_neg h]
theorem cleanI_pos (ev la s d : Int) (w : World) (h1 : trgV ev la) (h2 : winV s d) : Calls Try.prog 16 #[.agg #[.int .i64 ev, .int .i64 la], .agg #[.int .i64 s, .int .i64 d]] w
    fun e w' => e = .returned (.int .i64 (d - 1 + la)) ∧ Below w.heap.size w w' :=
  (cleanI_any ev la s d w).mono fun e w' h => by rw [cleanF_pos h1 h2] at h; exact h
theorem cleanI_zero (ev s d : Int) (w : World) (h1 : trgV ev 0) (h2 : winV s d) : Calls Try.prog 16 #[.agg #[.int .i64 ev, .int .i64 0], .agg #[.int .i64 s, .int .i64 d]] w
    fun e w' => e = .returned (.int .i64 (d - 1)) ∧ Below w.heap.size w w' :=
  (cleanI_any ev 0 s d w).mono fun e w' h => by rw [cleanF_pos h1 h2] at h; simpa using h
theorem cleanI_neg (ev la s d : Int) (w : World) (h : ¬ (trgV ev la ∧ winV s d)) : Calls Try.prog 16 #[.agg #[.int .i64 ev, .int .i64 la], .agg #[.int .i64 s, .int .i64 d]] w
    fun e w' => e = .returned (.int .i64 (-1)) ∧ Below w.heap.size w w' :=
  (cleanI_any ev la s d w).mono fun e w' hh => by rw [cleanF_neg h] at hh; exact hh
theorem cleanS_pos (ev la s d : Int) (w : World) (h1 : trgV ev la) (h2 : winV s d) : Calls Try.prog 17 #[.agg #[.int .i64 ev, .int .i64 la], .agg #[.int .i64 s, .int .i64 d]] w
    fun e w' => e = .returned (.int .i64 (d - 1 + la)) ∧ Below w.heap.size w w' :=
  (cleanS_any ev la s d w).mono fun e w' h => by rw [cleanF_pos h1 h2] at h; exact h
theorem cleanS_neg (ev la s d : Int) (w : World) (h : ¬ (trgV ev la ∧ winV s d)) : Calls Try.prog 17 #[.agg #[.int .i64 ev, .int .i64 la], .agg #[.int .i64 s, .int .i64 d]] w
    fun e w' => e = .returned (.int .i64 (-1)) ∧ Below w.heap.size w w' :=
  (cleanS_any ev la s d w).mono fun e w' hh => by rw [cleanF_neg h] at hh; exact hh
theorem hasI_start (s d : Int) (w : World) (h2 : winV s d) : Calls Try.prog 13 #[.agg #[.int .i64 s, .int .i64 d], .int .i64 s] w
    fun e w' => e = .returned (.bool true) ∧ Below w.heap.size w w' :=
  (hasI_any s d s w).mono fun e w' hh => by
    have : hasF s d s = true := by unfold hasF; have h2' := h2; unfold winV at h2'; exact decide_eq_true ⟨h2, by omega, by omega⟩
    rw [this] at hh; exact hh
def EvC (f : Nat) (ev la s d m t n : Int) : Prop := ∀ w : World, Calls Try.prog f #[.agg #[.int .i64 ev, .int .i64 la], .agg #[.int .i64 s, .int .i64 d], .int .i64 m, .int .i64 t] w fun e w' => e = .returned (.int .i64 n) ∧ Below w.heap.size w w'
def ClC (f : Nat) (ev la s d n : Int) : Prop := ∀ w : World, Calls Try.prog f #[.agg #[.int .i64 ev, .int .i64 la], .agg #[.int .i64 s, .int .i64 d]] w fun e w' => e = .returned (.int .i64 n) ∧ Below w.heap.size w w'
theorem ev_five (ev la s d m t : Int) : ∃ n : Int, EvC 19 ev la s d m t n ∧ EvC 20 ev la s d m t n ∧
    (n = 3 ∨ (0 ≤ ev ∧ 0 ≤ m ∧ ClC 16 ev la s d (d - 1 + la) ∧
      ((n = 2 ∧ d - 1 + la ≤ t ∧ d - 1 ≤ t) ∨ (n = 1 ∧ t < d - 1 + la ∧ d - 1 ≤ t) ∨ (n = 1 ∧ t < d - 1 + la ∧ t < d - 1 ∧ 0 < ev ∧ m % ev = 0) ∨ (n = 0 ∧ t < d - 1 + la ∧ t < d - 1 ∧ ¬(0 < ev ∧ m % ev = 0))))) := by
  refine ⟨evF ev la s d m t, fun w => evI_any ev la s d m t w, fun w => evS_any ev la s d m t w, ?_⟩
  by_cases hv : trgV ev la ∧ winV s d ∧ 1 ≤ m ∧ m ≤ 40 ∧ -1 ≤ t ∧ t ≤ 3000
  · right
    have e : evF ev la s d m t = (if d - 1 + la ≤ t then 2 else if d - 1 ≤ t then 1 else if 0 < ev ∧ m % ev = 0 then 1 else 0) := by unfold evF; rw [if_pos hv]
    have hv1 := hv.1
    unfold trgV at hv1
    refine ⟨by omega, by omega, fun w => cleanI_pos ev la s d w hv.1 hv.2.1, ?_⟩
    rw [e]
    by_cases h1 : d - 1 + la ≤ t
    · rw [if_pos h1]; omega
    · rw [if_neg h1]
      by_cases h2 : d - 1 ≤ t
      · rw [if_pos h2]; omega
      · rw [if_neg h2]
        by_cases h3 : 0 < ev ∧ m % ev = 0
        · rw [if_pos h3]; right; right; left; exact ⟨rfl, by omega, by omega, h3.1, h3.2⟩
        · rw [if_neg h3]; right; right; right; exact ⟨rfl, by omega, by omega, h3⟩
  · left; unfold evF; rw [if_neg hv]
end Go.Proofs.Ytpfcmejcgkfjmab
