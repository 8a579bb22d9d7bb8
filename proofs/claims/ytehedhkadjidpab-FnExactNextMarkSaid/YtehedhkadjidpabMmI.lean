import Derived.Test.YtehedhkadjidpabMmS
namespace Go.Proofs.Ytehedhkadjidpab
open Go.RowKit
set_option maxRecDepth 100000 in
set_option maxHeartbeats 4000000 in
theorem implMM_any (A : Option Addr) (c : Nat) (l : List InputR) (now idle : Int) (w : World) (ha : Row InputR.enc 2 w A l) (hca : l.length ≤ c) :
    Calls Try.prog 21 #[.slice A l.length c, .int .i64 now, .int .i64 idle] w fun e w' => e = .returned (.int .i64 (mmF l now idle)) ∧ Below w.heap.size w w' := by
  have hal := ha.1
  have hb0 : Below w.heap.size w ((w.alloc (.cells #[.int .i64 now] 3)).alloc (.cells #[.int .i64 idle] 3)) := ((Below.refl _ _).alloc (Nat.le_refl _) _).alloc (by simp) _
  rcases mmF_cases l now idle with ⟨hv, hc, hF⟩ | ⟨hn, hF⟩
  · have HF := Lib.hid hF
    unfold clk at hc
    obtain ⟨m0, m1, m2, m3⟩ := hc
    have hl4 := in_len hv
    have Hv := Lib.hid hv
    clear hF hv
    go_enter Try.func21, Try.ntmps21
    go_wp2_with fail
    refine (implWait_t A c l now idle _ (ha.keep hb0) Hv.out m0 m1 m2 m3).mono ?_
    rintro e w1 ⟨rfl, hb1⟩
    have hbw := hb0.trans (hb1.mono (by simp; omega))
    have hc0 : w1.cell? ⟨w.heap.size, 0, none⟩ = some (.int .i64 now) := (hb1.cell (by simp; omega)).trans (by simp [go_sem])
    have hc1 : w1.cell? ⟨w.heap.size + 1, 0, none⟩ = some (.int .i64 idle) := (hb1.cell (by simp)).trans (by simp [go_sem])
    have hz1 : w.heap.size + 1 < w1.heap.size := by have := hb1.size; simp at this; omega
    clear hb0 hb1
    go_wp2_with fail
    refine (cloneIn_any A c l _ (ha.keep hbw)).mono ?_
    rintro e w2 ⟨A2, c2, rfl, o2, b2⟩
    obtain ⟨g, cap, hvg, hgb, hglt⟩ := o2.2.form (by omega)
    injection hvg with hA _ hcc
    subst hA hcc
    have hd0 := (b2.cell (p := ⟨w.heap.size, 0, none⟩) (by show w.heap.size < w1.heap.size; omega)).trans hc0
    have hd1 := (b2.cell (p := ⟨w.heap.size + 1, 0, none⟩) (by show w.heap.size + 1 < w1.heap.size; omega)).trans hc1
    have hz2 := b2.size
    have hB2 := hbw.trans (b2.mono hbw.size)
    have Hdel := Lib.hid (delIn_any g c2 l now idle w.heap.size (w.heap.size + 1) w1.heap.size w2 o2 Hv.out (by omega) (by omega) hd0 (by omega) hd1 (by omega) m0 m1)
    have hk2 := o2.lenCap
    clear hc0 hc1 b2 o2 hd0 hd1
    go_wp2_with fail
    refine Hdel.out.mono ?_
    rintro e w3 ⟨rfl, r3, g3⟩
    have hB3 := hB2.trans (below_of_gb (B0 := w.heap.size) g3 hB2.size (fun g' hg' => by injection hg' with hg'; omega))
    have hfl : (l.filter (nidB now idle)).length ≤ l.length := List.length_filter_le _ _
    have hmV : mmV l now idle = if (l.filter (nidB now idle)).length = 0 then foldM mx l else foldM mn (l.filter (nidB now idle)) := rfl
    obtain ⟨F, hFl⟩ : ∃ F, F = l.filter (nidB now idle) := ⟨_, rfl⟩
    rw [← hFl] at r3 hfl hmV ⊢
    have HmV := Lib.hid hmV
    clear Hdel g3 hmV hFl hB2 hbw
    rcases F with _ | ⟨y, F⟩
    · rcases l with _ | ⟨x, l⟩
      · simp at hl4
      · have Hfo := Lib.hid (foldMax_any A c x l w3 (ha.keep hB3) (by simpa using hca))
        have HmW := Lib.hid (show mmV (x :: l) now idle = foldM mx (x :: l) by rw [HmV.out]; rfl)
        clear HmV
        go_wp2_with fail
        refine Hfo.out.mono ?_
        rintro e w4 ⟨rfl, hb4⟩
        have hB4 := hB3.trans (hb4.mono hB3.size)
        go_wp2
        all_goals go_returns
        all_goals exact ⟨ret_int (by rw [HF.out, HmW.out]), hB4⟩
    · have hFc : F.length + 1 ≤ c2 := by simp at hfl; omega
      have Hfo := Lib.hid (foldMin_any (some ⟨g, 0, none⟩) c2 y F w3 r3 hFc)
      have HmW := Lib.hid (show mmV l now idle = foldM mn (y :: F) by rw [HmV.out]; rfl)
      have hy0 : ¬ (F.length : Int) + 1 = 0 := by omega
      clear HmV
      go_wp2_with fail
      refine Hfo.out.mono ?_
      rintro e w4 ⟨rfl, hb4⟩
      have hB4 := hB3.trans (hb4.mono hB3.size)
      go_wp2
      all_goals go_returns
      all_goals exact ⟨ret_int (by rw [HF.out, HmW.out]), hB4⟩
  · have HF := Lib.hid hF
    have Hv := Lib.hid hn
    clear hF hn
    go_enter Try.func21, Try.ntmps21
    go_wp2_with fail
    refine (implWait_f A c l now idle _ (ha.keep hb0) Hv.out).mono ?_
    rintro e w1 ⟨rfl, hb1⟩
    have hbw := hb0.trans (hb1.mono (by simp; omega))
    clear hb0 hb1
    go_wp2
    all_goals (go_returns; exact ⟨ret_int HF.out.symm, hbw⟩)
end Go.Proofs.Ytehedhkadjidpab
