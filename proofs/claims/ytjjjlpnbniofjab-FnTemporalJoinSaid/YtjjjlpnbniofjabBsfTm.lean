import Derived.Test.YtjjjlpnbniofjabTm2
namespace Go.Proofs.Ytjjjlpnbniofjab
open Go.RowKit
def hitTm (t : TimerR) : Option TimerR → Bool
  | some x => decide (cmpTim x t = 0)
  | none => false
set_option maxRecDepth 100000 in
set_option maxHeartbeats 4000000 in
/-- The halving: what is ahead of k is before t, and nothing from k on. -/
theorem bsfTm_any (A : Option Addr) (c : Nat) (l : List TimerR) (t : TimerR) (k : Nat) (w : World) (ha : Row TimerR.enc 3 w A l) (hk : k ≤ l.length)
    (h0 : ∀ (i : Nat) (x : TimerR), i < k → l[i]? = some x → cmpTim x t < 0) (h1 : ∀ (i : Nat) (x : TimerR), k ≤ i → l[i]? = some x → ¬ cmpTim x t < 0) :
    Calls Try.prog 94 #[.slice A l.length c, .agg #[.int .i64 t.a0, .int .i64 t.a1, .int .i64 t.a2], .func (.func 93) #[] #[]] w fun e w' => e = .returned (.tuple #[.int .i64 k, .bool (hitTm t l[k]?)]) ∧ Below w.heap.size w w' := by
  have hal := ha.1
  have H0 := Lib.hid h0
  have H1 := Lib.hid h1
  have hB : Below w.heap.size w (w.alloc (.cells #[.int .i64 t.a0, .int .i64 t.a1, .int .i64 t.a2] 25)) := (Below.refl _ _).alloc (Nat.le_refl _) _
  have Ha := Lib.hid ha
  clear h0 h1 ha
  go_enter Try.func94, Try.ntmps94
  go_wp2
  go_loopw [9, 10] (fun s5 s6 wr => ∃ lo hi : Nat, s5 = .int .i64 lo ∧ s6 = .int .i64 hi ∧ lo ≤ k ∧ k ≤ hi ∧ hi ≤ l.length ∧ Below (w.alloc (.cells #[.int .i64 t.a0, .int .i64 t.a1, .int .i64 t.a2] 25)).heap.size (w.alloc (.cells #[.int .i64 t.a0, .int .i64 t.a1, .int .i64 t.a2] 25)) wr) (fun s5 s6 _ => (intOf s6).toNat - (intOf s5).toNat)
  case atStart => exact ⟨0, l.length, rfl, rfl, Nat.zero_le _, hk, Nat.le_refl _, Below.refl _ _⟩
  case round =>
    obtain ⟨lo, hi, rfl, rfl, hlk, hkh, hhn, hbw⟩ := hrel
    have hBw := hB.trans (hbw.mono (by simp))
    have hbox : w.heap.size < wr.heap.size := by have := hbw.size; simp at this; omega
    have c0 : wr.cell? ⟨w.heap.size, 0, none⟩ = some (.int .i64 t.a0) := (hbw.cell (by simp)).trans (by simp [go_sem])
    have c1 : wr.cell? ⟨w.heap.size, 1, none⟩ = some (.int .i64 t.a1) := (hbw.cell (by simp)).trans (by simp [go_sem])
    have c2 : wr.cell? ⟨w.heap.size, 2, none⟩ = some (.int .i64 t.a2) := (hbw.cell (by simp)).trans (by simp [go_sem])
    have K0 := Bw.cellOf (w := wr) hbox c0
    have K1 := Bw.cellOf (w := wr) hbox c1
    have K2 := Bw.cellOf (w := wr) hbox c2
    by_cases hlt : lo < hi
    · obtain ⟨b, off, rfl, hblt, q0, q1, q2⟩ := (Ha.out.keep hBw).atTimer (i := (lo + hi) / 2) (by omega)
      have hx : l[(lo + hi) / 2]? = some l[(lo + hi) / 2] := List.getElem?_eq_getElem (by omega)
      generalize l[(lo + hi) / 2] = x at *
      have Hx := Lib.hid hx
      clear hx
      have i0 : (0 : Int) ≤ ((lo : Int) + (hi : Int)) / 2 := by omega
      have i1 : ((lo : Int) + (hi : Int)) / 2 < (l.length : Int) := by omega
      have i5 : (((lo : Int) + (hi : Int)) / 2).toNat = (lo + hi) / 2 := by omega
      by_cases hc : cmpTim x t < 0
      · have hm : (lo + hi) / 2 < k := by
          rcases Nat.lt_or_ge ((lo + hi) / 2) k with h | h
          · exact h
          · exact absurd hc (by have := H1.out _ _ h Hx.out; omega)
        have Q0 := Bw.cellOf (w := wr) hblt q0
        have Q1 := Bw.cellOf (w := wr) hblt q1
        have Q2 := Bw.cellOf (w := wr) hblt q2
        go_wp2_with fail
        refine wp_region_quiet_below (by kernel_rfl) (by kernel_rfl) ?_
        repeat (any_goals (go_big_quiet_step (first | (go_at_call 93; refine Calls.below_of (cmpTimI_any x t _)))))
        refine wpQuiet_nil ?_
        intro w1 hb1
        have hbw2 := hbw.trans (hb1.mono hbw.size)
        go_wp2
        go_roundw
        case rel => exact ⟨(lo + hi) / 2 + 1, hi, val_int (by omega), rfl, by omega, hkh, hhn, hbw2⟩
        case measure => simp [intOf]; omega
      · have hm : k ≤ (lo + hi) / 2 := by
          rcases Nat.lt_or_ge ((lo + hi) / 2) k with h | h
          · exact absurd (H0.out _ _ h Hx.out) hc
          · exact h
        have hd : 0 ≤ cmpTim x t := by omega
        have Q0 := Bw.cellOf (w := wr) hblt q0
        have Q1 := Bw.cellOf (w := wr) hblt q1
        have Q2 := Bw.cellOf (w := wr) hblt q2
        go_wp2_with fail
        refine wp_region_quiet_below (by kernel_rfl) (by kernel_rfl) ?_
        repeat (any_goals (go_big_quiet_step (first | (go_at_call 93; refine Calls.below_of (cmpTimI_any x t _)))))
        refine wpQuiet_nil ?_
        intro w1 hb1
        have hbw2 := hbw.trans (hb1.mono hbw.size)
        go_wp2
        go_roundw
        case rel => exact ⟨lo, (lo + hi) / 2, rfl, val_int (by omega), hlk, by omega, by omega, hbw2⟩
        case measure => simp [intOf]; omega
    · obtain rfl : lo = k := by omega
      have Hlh := Lib.hid (show hi = lo by omega)
      by_cases hll : lo < l.length
      · obtain ⟨b, off, rfl, hblt, q0, q1, q2⟩ := (Ha.out.keep hBw).atTimer (i := lo) hll
        have hx : l[lo]? = some l[lo] := List.getElem?_eq_getElem hll
        generalize l[lo] = x at *
        have hh : hitTm t l[lo]? = decide (cmpTim x t = 0) := by rw [hx]; rfl
        have Hh := Lib.hid hh
        have i0 : (0 : Int) ≤ (lo : Int) := by omega
        have i1 : (lo : Int) < (l.length : Int) := by omega
        clear hx hh
        have Q0 := Bw.cellOf (w := wr) hblt q0
        have Q1 := Bw.cellOf (w := wr) hblt q1
        have Q2 := Bw.cellOf (w := wr) hblt q2
        by_cases hz : cmpTim x t = 0
        all_goals
          first | have Hz := Lib.hid (show (decide (cmpTim x t = 0) = true) from decide_eq_true hz) | have Hz := Lib.hid (show (decide (cmpTim x t = 0) = false) from decide_eq_false hz)
          go_wp2_with fail
          refine wp_region_quiet_below (by kernel_rfl) (by kernel_rfl) ?_
          repeat (any_goals (go_big_quiet_step (first | (go_at_call 93; refine Calls.below_of (cmpTimI_any x t _)))))
          refine wpQuiet_nil ?_
          intro w1 hb1
          have hbw2 := hBw.trans (hb1.mono hBw.size)
          clear hz
          go_wp2
          all_goals go_returns
          all_goals exact ⟨by rw [Hh.out]; first | rfl | (rw [Hz.out]; rfl) | simp [Hz.out] | (have := Hz.out; simp_all), hbw2⟩
      · have hh : hitTm t l[lo]? = false := by rw [List.getElem?_eq_none (by omega)]; rfl
        have Hh := Lib.hid hh
        clear hh
        go_wp2_with fail
        refine wp_region_quiet_below (by kernel_rfl) (by kernel_rfl) ?_
        repeat (any_goals (go_big_quiet_step (fail)))
        refine wpQuiet_nil ?_
        intro w1 hb1
        have hbw2 := hBw.trans (hb1.mono hBw.size)
        go_wp2
        all_goals go_returns
        all_goals exact ⟨by rw [Hh.out]; first | rfl | (simp; omega) | simp, hbw2⟩
end Go.Proofs.Ytjjjlpnbniofjab
