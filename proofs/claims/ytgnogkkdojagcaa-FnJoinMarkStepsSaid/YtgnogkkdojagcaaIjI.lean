import Derived.Test.YtgnogkkdojagcaaIjP
namespace Go.Proofs.Ytgnogkkdojagcaa
open Go.RowKit
set_option maxRecDepth 100000 in
set_option maxHeartbeats 2000000 in
theorem implIj_any (A : Option Addr) (c : Nat) (l : List EventR) (B : Option Addr) (d : Nat) (r : List EventR) (low high : Int) (w : World) (ha : Row EventR.enc 3 w A l) (hr : Row EventR.enc 3 w B r) :
    Calls Try.prog 14 #[.slice A l.length c, .slice B r.length d, .int .i64 low, .int .i64 high] w (OwnPost PairR.enc 6 44 w (ijF l r low high)) := by
  have hal := ha.1
  have hBA : Below w.heap.size w (w.alloc (.cells #[.int .i64 low, .int .i64 high] 66)) := (Below.refl _ _).alloc (Nat.le_refl _) _
  have hAz : w.heap.size < (w.alloc (.cells #[.int .i64 low, .int .i64 high] 66)).heap.size := by simp
  have n0 : (w.alloc (.cells #[.int .i64 low, .int .i64 high] 66)).cell? ⟨w.heap.size, 0, none⟩ = some (.int .i64 low) := by simp [go_sem]
  have n1 : (w.alloc (.cells #[.int .i64 low, .int .i64 high] 66)).cell? ⟨w.heap.size, 1, none⟩ = some (.int .i64 high) := by simp [go_sem]
  go_enter Try.func14, Try.ntmps14
  go_wp2_with fail
  generalize w.alloc (.cells #[.int .i64 low, .int .i64 high] 66) = wA at *
  refine (implValidEvents_any A c l _ (ha.keep hBA)).mono ?_
  rintro e w1 ⟨rfl, hb1⟩
  have hbw1 := hBA.trans (hb1.mono hBA.size)
  by_cases hv : ijP l r low high
  · have HF := Lib.hid (show ijF l r low high = l.flatMap (prs low high r) by unfold ijF; rw [if_pos hv])
    have Hv := Lib.hid hv
    obtain ⟨hv1, hv2, hv3⟩ := hv
    rw [hv1]
    clear hv1 hv2 hv3
    go_wp2_with fail
    refine (implValidEvents_any B d r _ (hr.keep hbw1)).mono ?_
    rintro e w2 ⟨rfl, hb2⟩
    rw [Hv.out.2.1]
    have hB2 := hb1.trans (hb2.mono hb1.size)
    have m0 := (hB2.cell hAz).trans n0
    have m1 := (hB2.cell hAz).trans n1
    clear hb1 hb2 hbw1
    go_wp2_with fail
    refine (implVR_any low high _).mono ?_
    rintro e w3 ⟨rfl, hb3⟩
    rw [Hv.out.2.2]
    have hB3 := hB2.trans (hb3.mono hB2.size)
    have hbw3 := hBA.trans (hB3.mono hBA.size)
    have o0 := (hB3.cell hAz).trans n0
    have o1 := (hB3.cell hAz).trans n1
    clear hb3 hB2 m0 m1 n0 n1
    go_wp2_with fail
    refine (implPairs_any A c l B d r low high _ (ha.keep hbw3) (hr.keep hbw3) Hv.out.1 Hv.out.2.1).mono ?_
    rintro e w4 ⟨A1, d1, rfl, p1, b1⟩
    have Hfin := Lib.hid (own_acc (w := w) p1 hbw3.size (hbw3.trans (b1.mono hbw3.size)))
    have hl1 := ij_bd (low := low) (high := high) (l := l) (r := r) (k := l.length) (ev_len Hv.out.1) (ev_len Hv.out.2.1)
    rw [List.take_of_length_le (Nat.le_refl _)] at hl1
    have Hl := Lib.hid hl1
    clear p1 b1 hl1
    generalize l.flatMap (prs low high r) = L at *
    go_wp2
    all_goals go_returns
    all_goals (rw [HF.out]; exact acc_post Hfin.out (by have := Hl.out; omega))
  · have HF := Lib.hid (show ijF l r low high = [] by unfold ijF; rw [if_neg hv])
    rcases Bool.eq_false_or_eq_true (vEvs l) with h1 | h1
    · rw [h1]
      go_wp2_with fail
      refine (implValidEvents_any B d r _ (hr.keep hbw1)).mono ?_
      rintro e w2 ⟨rfl, hb2⟩
      have hB2 := hb1.trans (hb2.mono hb1.size)
      have hbw2 := hbw1.trans (hb2.mono hbw1.size)
      have m0 := (hB2.cell hAz).trans n0
      have m1 := (hB2.cell hAz).trans n1
      clear hb2
      rcases Bool.eq_false_or_eq_true (vEvs r) with h2 | h2
      · have h3 : vrB low high = false := by rw [Bool.eq_false_iff]; exact fun h => hv ⟨h1, h2, h⟩
        rw [h2]
        clear hv h1 h2
        go_wp2_with fail
        refine (implVR_any low high _).mono ?_
        rintro e w3 ⟨rfl, hb3⟩
        have hbw3 := hbw2.trans (hb3.mono hbw2.size)
        rw [h3]
        clear h3
        go_wp2
        all_goals go_returns
        all_goals (rw [HF.out]; exact acc_post (acc_none _ _ _ hbw3) (by simp))
      · rw [h2]
        clear hv h1 h2
        go_wp2
        all_goals go_returns
        all_goals (rw [HF.out]; exact acc_post (acc_none _ _ _ hbw2) (by simp))
    · rw [h1]
      clear hv h1
      go_wp2
      all_goals go_returns
      all_goals (rw [HF.out]; exact acc_post (acc_none _ _ _ hbw1) (by simp))
end Go.Proofs.Ytgnogkkdojagcaa
