import Derived.Test.YtjjjlpnbniofjabAddS
namespace Go.Proofs.Ytjjjlpnbniofjab
open Go.RowKit
theorem rowTm_one {W : World} {g : Nat} {t : TimerR} (h0 : W.cell? ⟨g, 0, none⟩ = some (.int .i64 t.a0)) (h1 : W.cell? ⟨g, 1, none⟩ = some (.int .i64 t.a1)) (h2 : W.cell? ⟨g, 2, none⟩ = some (.int .i64 t.a2)) : Row TimerR.enc 3 W (some ⟨g, 0, none⟩) [t] := by
  refine ⟨by simp, fun _ => ⟨g, 0, rfl, cell_lt h0, fun i x hx j u hu => ?_⟩⟩
  rcases i with _ | i
  · simp at hx
    subst hx
    rcases j with _ | _ | _ | j <;> simp [TimerR.enc] at hu <;> subst hu
    · simpa using h0
    · simpa using h1
    · simpa using h2
  · simp at hx
set_option maxRecDepth 100000 in
set_option maxHeartbeats 4000000 in
theorem implAdd_any (A : Option Addr) (c : Nat) (l : List TimerR) (t : TimerR) (w : World) (ha : Row TimerR.enc 3 w A l) (hc : l.length ≤ c) :
    Calls Try.prog 16 #[.slice A l.length c, .agg #[.int .i64 t.a0, .int .i64 t.a1, .int .i64 t.a2]] w (OwnBPost TimerR.enc 3 25 w (addF l t) (addK l t)) := by
  have hal := ha.1
  have hBA : Below w.heap.size w (w.alloc (.cells #[.int .i64 t.a0, .int .i64 t.a1, .int .i64 t.a2] 25)) := (Below.refl _ _).alloc (Nat.le_refl _) _
  have hAz : w.heap.size < (w.alloc (.cells #[.int .i64 t.a0, .int .i64 t.a1, .int .i64 t.a2] 25)).heap.size := by simp
  have c0 : (w.alloc (.cells #[.int .i64 t.a0, .int .i64 t.a1, .int .i64 t.a2] 25)).cell? ⟨w.heap.size, 0, none⟩ = some (.int .i64 t.a0) := by simp [go_sem]
  have c1 : (w.alloc (.cells #[.int .i64 t.a0, .int .i64 t.a1, .int .i64 t.a2] 25)).cell? ⟨w.heap.size, 1, none⟩ = some (.int .i64 t.a1) := by simp [go_sem]
  have c2 : (w.alloc (.cells #[.int .i64 t.a0, .int .i64 t.a1, .int .i64 t.a2] 25)).cell? ⟨w.heap.size, 2, none⟩ = some (.int .i64 t.a2) := by simp [go_sem]
  go_enter Try.func16, Try.ntmps16
  go_wp2_with fail
  generalize w.alloc (.cells #[.int .i64 t.a0, .int .i64 t.a1, .int .i64 t.a2] 25) = wA at *
  refine (implTims_any A c l _ (ha.keep hBA)).mono ?_
  rintro e w1 ⟨rfl, hb1⟩
  have d0 : w1.cell? ⟨w.heap.size, 0, none⟩ = some (.int .i64 t.a0) := (hb1.cell hAz).trans c0
  have d1 : w1.cell? ⟨w.heap.size, 1, none⟩ = some (.int .i64 t.a1) := (hb1.cell hAz).trans c1
  have d2 : w1.cell? ⟨w.heap.size, 2, none⟩ = some (.int .i64 t.a2) := (hb1.cell hAz).trans c2
  have Hc := Lib.hid (show _ ∧ _ ∧ _ from ⟨c0, c1, c2⟩)
  have hbw1 := hBA.trans (hb1.mono hBA.size)
  clear c0 c1 c2
  by_cases hv : addP l t
  · have Hv := Lib.hid hv
    obtain ⟨hv1, hv2⟩ := hv
    rw [hv1]
    go_wp2_with fail
    refine (implValidTimer_any t _).mono ?_
    rintro e w2 ⟨rfl, hb2⟩
    rw [hv2]
    have hB2 := hb1.trans (hb2.mono hb1.size)
    have hbw2 := hBA.trans (hB2.mono hBA.size)
    have f0 : w2.cell? ⟨w.heap.size, 0, none⟩ = some (.int .i64 t.a0) := (hB2.cell hAz).trans Hc.out.1
    have f1 : w2.cell? ⟨w.heap.size, 1, none⟩ = some (.int .i64 t.a1) := (hB2.cell hAz).trans Hc.out.2.1
    have f2 : w2.cell? ⟨w.heap.size, 2, none⟩ = some (.int .i64 t.a2) := (hB2.cell hAz).trans Hc.out.2.2
    clear hb1 hb2 d0 d1 d2 hbw1
    have H := placeTm_any A c l t w2 (ha.keep hbw2) hv1
    have hk := cutN_le (befTm t) l
    have hh := hit_iff hv1 t
    have h20' : l.length ≤ 20 := by
      have := hv1
      unfold vTims at this
      rw [Bool.and_eq_true, Bool.and_eq_true] at this
      exact of_decide_eq_true this.1.1
    by_cases hm : t ∈ l
    · rw [hh.2 hm] at H
      have HF := Lib.hid (show addF l t = l ∧ addK l t = true by
        unfold addF addK
        rw [if_pos Hv.out, if_pos Hv.out, if_pos (.inl hm), if_pos hm]
        exact ⟨rfl, rfl⟩)
      have H := Lib.hid H
      clear hh hm hv1 hv2
      go_wp2_with fail
      refine H.out.mono ?_
      rintro e w3 ⟨rfl, hb3⟩
      have hbw3 := hbw2.trans (hb3.mono hbw2.size)
      clear H f0 f1 f2
      go_wp2_with fail
      refine (cloneTm_any A c l _ (ha.keep hbw3)).mono ?_
      rintro e w4 ⟨A1, d1, rfl, o1, b1⟩
      have Hfin := Lib.hid (own_acc (w := w) o1 hbw3.size (hbw3.trans (b1.mono hbw3.size)))
      clear o1 b1
      go_wp2
      all_goals go_returns
      all_goals (rw [HF.out.1, HF.out.2]; exact accB Hfin.out (by omega) rfl)
    · have hh2 : hitTm t l[cutN (befTm t) l]? = false := by rw [Bool.eq_false_iff]; exact fun h => hm (hh.1 h)
      rw [hh2] at H
      by_cases h20 : l.length = 20
      · have HF := Lib.hid (show addF l t = l ∧ addK l t = false by
          unfold addF addK
          rw [if_pos Hv.out, if_pos Hv.out, if_pos (.inr h20), if_neg hm, if_pos h20]
          exact ⟨rfl, rfl⟩)
        have hq : ((l.length : Int) == 20) = true := by simp; omega
        have H := Lib.hid H
        clear hh hh2 hm hv1 hv2 h20
        go_wp2_with fail
        refine H.out.mono ?_
        rintro e w3 ⟨rfl, hb3⟩
        have hbw3 := hbw2.trans (hb3.mono hbw2.size)
        clear H f0 f1 f2
        go_wp2_with fail
        refine (cloneTm_any A c l _ (ha.keep hbw3)).mono ?_
        rintro e w4 ⟨A1, d1, rfl, o1, b1⟩
        have Hfin := Lib.hid (own_acc (w := w) o1 hbw3.size (hbw3.trans (b1.mono hbw3.size)))
        clear o1 b1
        go_wp2
        all_goals go_returns
        all_goals (rw [HF.out.1, HF.out.2]; exact accB Hfin.out (by omega) rfl)
      · have HF := Lib.hid (show addF l t = addG l t ∧ addK l t = true by
          unfold addF addK
          rw [if_pos Hv.out, if_pos Hv.out, if_neg (by rintro (h | h); exact hm h; exact h20 h), if_neg hm, if_neg h20]
          exact ⟨rfl, rfl⟩)
        have HG := Lib.hid (show addG l t = l.take (cutN (befTm t) l) ++ [t] ++ l.drop (cutN (befTm t) l) from rfl)
        have hq : ((l.length : Int) == 20) = false := by simp; omega
        have H := Lib.hid H
        clear hh hh2 hm hv1 hv2 h20
        generalize cutN (befTm t) l = k at *
        go_wp2_with fail
        refine H.out.mono ?_
        rintro e w3 ⟨rfl, hb3⟩
        have hbw3 := hbw2.trans (hb3.mono hbw2.size)
        have hz3 : w.heap.size < w2.heap.size := by have := hB2.size; omega
        have g0 : w3.cell? ⟨w.heap.size, 0, none⟩ = some (.int .i64 t.a0) := (hb3.cell hz3).trans f0
        have g1 : w3.cell? ⟨w.heap.size, 1, none⟩ = some (.int .i64 t.a1) := (hb3.cell hz3).trans f1
        have g2 : w3.cell? ⟨w.heap.size, 2, none⟩ = some (.int .i64 t.a2) := (hb3.cell hz3).trans f2
        have hz4 : w.heap.size < w3.heap.size := by have := hb3.size; omega
        have ha3 := Lib.hid (ha.keep hbw3)
        have HL1 := Lib.hid (show k = (l.take k).length by rw [List.length_take]; omega)
        have HL2 := Lib.hid (show l.length - k = (l.drop k).length by rw [List.length_drop])
        have HL3 := Lib.hid (show (l.take k).length + [t].length + (l.drop k).length ≤ 1048576 by simp; omega)
        have hlenG : (l.take k ++ [t] ++ l.drop k).length ≤ 1048576 := by simp; omega
        have HlG := Lib.hid hlenG
        clear H f0 f1 f2 hb3 ha hbw2 hB2 hlenG
        go_wp2_with fail
        have hD : (if c = k then A else Option.map (fun x => x.add (k * 3)) A) = dropA A c k 3 := rfl
        have i0 : (0 : Int) ≤ (k : Int) := by omega
        have i1 : (k : Int) ≤ (l.length : Int) := by omega
        have i2 : (k : Int) ≤ (c : Int) := by omega
        go_region_held3 (fun w' => w'.cell? ⟨w.heap.size, 0, none⟩ = some (.int .i64 t.a0) ∧ w'.cell? ⟨w.heap.size, 1, none⟩ = some (.int .i64 t.a1) ∧ w'.cell? ⟨w.heap.size, 2, none⟩ = some (.int .i64 t.a2) ∧ w3.heap.size + 0 ≤ w'.heap.size ∧ Below w3.heap.size w3 w') ((go_split_ands; (try have hz0 := b1.size); (repeat' apply And.intro) <;> first | assumption | (simp only [World.cell?_drew]; assumption) | (simp only [World.size_drew]; omega) | omega | exact Below.drew (Below.refl _ _) | (refine (b1.cell (by first | omega | (simp; done) | (simp; omega))).trans ?_; first | assumption | (simp only [World.cell?_drew]; assumption)) | (refine Below.trans ?_ (b1.mono (by first | omega | (simp; done) | (simp; omega) | (exact Below.size (by assumption)))); first | assumption | exact Below.drew (Below.refl _ _)) | (go_grown; done) | (simp; done) | (simp; omega) | (go_keep; done))) (first | (go_at_call 60; go_split_ands; refine (cat3Tm_any (w3.heap.size + 1) A k c (l.take k) (some ⟨w3.heap.size, 0, none⟩) 1 1 [t] (dropA A c k 3) (l.length - k) (c - k) (l.drop k) _ ((ha3.out.keep (by assumption)).take k) HL1.out (by simp [go_sem]) (rowTm_one (by simp [go_sem]) (by simp [go_sem]) (by simp [go_sem])) rfl (by simp [go_sem]) ((ha3.out.keep (by assumption)).dropIf hc) HL2.out (by simp [go_sem]) HL3.out).mono ?_; rintro e w4 ⟨A1, d1, rfl, o1, b1⟩))
        have hb4 : Below w.heap.size w w4 := hbw3.trans ((‹_ ∧ _ ∧ _ ∧ _ ∧ Below w3.heap.size w3 w4›).2.2.2.2.mono hbw3.size)
        have A1' := own_acc (w := w) o1 (by have := hbw3.size; simp; omega) hb4
        rw [← HG.out] at A1'
        have HlG2 := HlG.out
        rw [← HG.out] at HlG2
        have Hl2 := Lib.hid HlG2
        rw [show (addG l t).length = k + (l.length - k + 1) by rw [HG.out]; simp; omega] at A1'
        clear HlG2
        have Hfin := Lib.hid A1'
        clear o1 b1 A1' hb4 hD
        go_wp2
        all_goals go_returns
        all_goals (rw [HF.out.1, HF.out.2]; exact accB Hfin.out Hl2.out rfl)
  · have HF := Lib.hid (show addF l t = [] ∧ addK l t = false by unfold addF addK; rw [if_neg hv, if_neg hv]; exact ⟨rfl, rfl⟩)
    rcases Bool.eq_false_or_eq_true (vTims l) with h1 | h1
    · have h2 : vTimB t = false := by
        rw [Bool.eq_false_iff]; intro h; exact hv ⟨h1, h⟩
      rw [h1]
      clear hv h1
      go_wp2_with fail
      refine (implValidTimer_any t _).mono ?_
      rintro e w2 ⟨rfl, hb2⟩
      rw [h2]
      have hbw2 := hbw1.trans (hb2.mono hbw1.size)
      clear h2
      go_wp2
      all_goals go_returns
      all_goals (rw [HF.out.1, HF.out.2]; exact accB (acc_none _ _ _ hbw2) (by simp) rfl)
    · rw [h1]
      clear hv h1
      go_wp2
      all_goals go_returns
      all_goals (rw [HF.out.1, HF.out.2]; exact accB (acc_none _ _ _ hbw1) (by simp) rfl)
end Go.Proofs.Ytjjjlpnbniofjab
