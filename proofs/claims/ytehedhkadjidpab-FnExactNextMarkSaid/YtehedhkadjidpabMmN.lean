import Derived.Test.YtehedhkadjidpabMmI
import Derived.Test.YtehedhkadjidpabPlIn
namespace Go.Proofs.Ytehedhkadjidpab
open Go.RowKit
theorem foldA_mn_spec : ∀ (l : List InputR) (a : Int), foldA mn a l ≤ a ∧ (∀ x ∈ l, foldA mn a l ≤ x.a0) ∧ (foldA mn a l = a ∨ ∃ x ∈ l, x.a0 = foldA mn a l)
  | [], a => ⟨Int.le_refl _, by simp, .inl rfl⟩
  | y :: l, a => by
    have ih := foldA_mn_spec l (mn a y.a0)
    have e : foldA mn a (y :: l) = foldA mn (mn a y.a0) l := rfl
    rw [e]
    obtain ⟨h1, h2, h3⟩ := ih
    have hm : mn a y.a0 ≤ a ∧ mn a y.a0 ≤ y.a0 ∧ (mn a y.a0 = a ∨ mn a y.a0 = y.a0) := by unfold mn; split <;> omega
    refine ⟨by omega, fun x hx => ?_, ?_⟩
    · rcases List.mem_cons.1 hx with rfl | hx
      · omega
      · exact h2 x hx
    · rcases h3 with h3 | ⟨x, hx, h3⟩
      · rcases hm.2.2 with h | h
        · exact .inl (by omega)
        · exact .inr ⟨y, by simp, by omega⟩
      · exact .inr ⟨x, by simp [hx], h3⟩
theorem foldA_mx_spec : ∀ (l : List InputR) (a : Int), a ≤ foldA mx a l ∧ (∀ x ∈ l, x.a0 ≤ foldA mx a l) ∧ (foldA mx a l = a ∨ ∃ x ∈ l, x.a0 = foldA mx a l)
  | [], a => ⟨Int.le_refl _, by simp, .inl rfl⟩
  | y :: l, a => by
    have ih := foldA_mx_spec l (mx a y.a0)
    have e : foldA mx a (y :: l) = foldA mx (mx a y.a0) l := rfl
    rw [e]
    obtain ⟨h1, h2, h3⟩ := ih
    have hm : a ≤ mx a y.a0 ∧ y.a0 ≤ mx a y.a0 ∧ (mx a y.a0 = a ∨ mx a y.a0 = y.a0) := by unfold mx; split <;> omega
    refine ⟨by omega, fun x hx => ?_, ?_⟩
    · rcases List.mem_cons.1 hx with rfl | hx
      · omega
      · exact h2 x hx
    · rcases h3 with h3 | ⟨x, hx, h3⟩
      · rcases hm.2.2 with h | h
        · exact .inl (by omega)
        · exact .inr ⟨y, by simp, by omega⟩
      · exact .inr ⟨x, by simp [hx], h3⟩
theorem vIns_all {l : List InputR} (h : vIns l = true) : ∀ x ∈ l, -1 ≤ x.a0 ∧ x.a0 ≤ 999 ∧ 0 ≤ x.a1 ∧ x.a1 ≤ 9999 := fun x hx => by
  obtain ⟨j, hj, rfl⟩ := List.mem_iff_getElem.1 hx
  exact in_bounds h (List.getElem?_eq_getElem hj)
theorem mmV_spec {l : List InputR} {now idle : Int} (hv : vIns l = true) : (∃ x ∈ l, x.a0 = mmV l now idle) ∧ foldA mn 999 l ≤ mmV l now idle := by
  have hl := in_len hv
  have key : ∀ x ∈ l, x.a0 = mmV l now idle → foldA mn 999 l ≤ mmV l now idle := fun x hx e => by have := (foldA_mn_spec l 999).2.1 x hx; omega
  have hs : ∃ x ∈ l, x.a0 = mmV l now idle := by
    unfold mmV
    split
    · rcases l with _ | ⟨y, l⟩
      · simp at hl
      · have h : foldM mx (y :: l) = foldA mx y.a0 l := rfl
        rw [h]
        rcases (foldA_mx_spec l y.a0).2.2 with h2 | ⟨x, hx, h2⟩
        · exact ⟨y, by simp, h2.symm⟩
        · exact ⟨x, by simp [hx], h2⟩
    · rename_i h0
      obtain ⟨F, hF⟩ : ∃ F, F = l.filter (nidB now idle) := ⟨_, rfl⟩
      have hsub : ∀ x ∈ F, x ∈ l := fun x hx => by rw [hF] at hx; exact (List.mem_filter.1 hx).1
      rw [← hF] at h0 ⊢
      rcases F with _ | ⟨y, F⟩
      · simp at h0
      · have h : foldM mn (y :: F) = foldA mn y.a0 F := rfl
        rw [h]
        rcases (foldA_mn_spec F y.a0).2.2 with h2 | ⟨x, hx, h2⟩
        · exact ⟨y, hsub y (by simp), h2.symm⟩
        · exact ⟨x, hsub x (by simp [hx]), h2⟩
  exact ⟨hs, by obtain ⟨x, hx, e⟩ := hs; exact key x hx e⟩
theorem mmV_bounds {l : List InputR} {now idle : Int} (hv : vIns l = true) : -1 ≤ mmV l now idle ∧ mmV l now idle ≤ 999 := by
  obtain ⟨⟨x, hx, e⟩, -⟩ := mmV_spec (now := now) (idle := idle) hv
  have := vIns_all hv x hx
  omega
theorem mmF_all {l : List InputR} {now : Int} (hv : vIns l = true) (n0 : 0 ≤ now) (n1 : now ≤ 9999) : mmF l now 9999 = foldA mn 999 l := by
  have hl := in_len hv
  have hF : l.filter (nidB now 9999) = l := by
    rw [List.filter_eq_self]
    intro x hx
    have := vIns_all hv x hx
    unfold nidB idleB
    simp; omega
  have hne : l ≠ [] := fun e => by rw [e] at hl; simp at hl
  unfold mmF
  rw [if_pos ⟨hv, n0, n1, by omega, by omega⟩]
  unfold mmV
  rw [hF, if_neg (by omega), ← foldA_mn (fun x hx => (vIns_all hv x hx).2.1) hne]
theorem upd_marks {l : List InputR} {i mark now : Int} (h : updK l i mark now = true) : mmF l now 9999 ≤ mmF (updL l i mark now) now 9999 := by
  have hp := updK_P h
  have hl := upd_len h
  rw [mmF_all hp.1 hp.2.2.2.2.2.1 hp.2.2.2.2.2.2, mmF_all (vIns_upd h) hp.2.2.2.2.2.1 hp.2.2.2.2.2.2]
  rcases (foldA_mn_spec (updL l i mark now) 999).2.2 with e | ⟨x, hx, e⟩
  · rw [e]; exact (foldA_mn_spec l 999).1
  · rw [← e]
    obtain ⟨k, hk, rfl⟩ := List.mem_iff_getElem.1 hx
    have h1 := (upd_at h (k := k) (by omega) hk).2.1
    have h2 := (foldA_mn_spec l 999).2.1 (l[k]'(by omega)) (List.getElem_mem _)
    omega
theorem nxF_cases (old : Int) (l : List InputR) (now idle : Int) : (-1 ≤ old ∧ old ≤ 999 ∧ vIns l = true ∧ clk now idle ∧ mmF l now idle = mmV l now idle ∧ nxF old l now idle = mx old (mmV l now idle)) ∨ ((¬ (-1 ≤ old ∧ old ≤ 999) ∨ ((-1 ≤ old ∧ old ≤ 999) ∧ ¬ (vIns l = true ∧ clk now idle))) ∧ nxF old l now idle = -2) := by
  by_cases h : (-1 ≤ old ∧ old ≤ 999) ∧ vIns l = true ∧ clk now idle
  · exact .inl ⟨h.1.1, h.1.2, h.2.1, h.2.2, by unfold mmF; rw [if_pos h.2], by unfold nxF; rw [if_pos h]⟩
  · refine .inr ⟨?_, by unfold nxF; rw [if_neg h]⟩
    by_cases h1 : -1 ≤ old ∧ old ≤ 999
    · exact .inr ⟨h1, fun h2 => h ⟨h1, h2⟩⟩
    · exact .inl h1
set_option maxRecDepth 100000 in
set_option maxHeartbeats 2000000 in
theorem implNM_any (A : Option Addr) (c : Nat) (l : List InputR) (old now idle : Int) (w : World) (ha : Row InputR.enc 2 w A l) (hca : l.length ≤ c) :
    Calls Try.prog 28 #[.int .i64 old, .slice A l.length c, .int .i64 now, .int .i64 idle] w fun e w' => e = .returned (.int .i64 (nxF old l now idle)) ∧ Below w.heap.size w w' := by
  rcases nxF_cases old l now idle with ⟨o0, o1, hv, hc, hM, hF⟩ | ⟨hn, hF⟩
  · have HF := Lib.hid hF
    unfold clk at hc
    obtain ⟨m0, m1, m2, m3⟩ := hc
    have Hv := Lib.hid hv
    have Hmm := Lib.hid (fun W hr => implMM_any A c l now idle W hr hca)
    have HM := Lib.hid hM
    have hbd := mmV_bounds (now := now) (idle := idle) hv
    generalize mmV l now idle = V at *
    clear hF hv hM
    by_cases hx : old < V
    all_goals
      go_enter Try.func28, Try.ntmps28
      go_wp2_with (first | (go_at_call 47; refine (implWait_t A c l now idle _ ha Hv.out m0 m1 m2 m3).mono ?_; rintro e w1 ⟨rfl, hb1⟩) | (go_at_call 63; go_in) | (go_at_call 62; go_in) | fail)
      refine (Hmm.out _ (ha.keep hb1)).mono ?_
      rintro e w2 ⟨rfl, hb2⟩
      rw [HM.out]
      have hB2 := hb1.trans (hb2.mono hb1.size)
      clear hb1 hb2
      go_wp2
      all_goals go_returns
      all_goals exact ⟨ret_int (by rw [HF.out]; unfold mx; first | rw [if_pos hx] | rw [if_neg (by omega)]), hB2⟩
  · have HF := Lib.hid hF
    clear hF
    rcases hn with hn | ⟨⟨o0, o1⟩, hn⟩
    · rcases (show old < -1 ∨ (-1 ≤ old ∧ 999 < old) by omega) with h1 | ⟨h1, h2⟩
      all_goals
        clear hn
        go_enter Try.func28, Try.ntmps28
        go_wp2
        all_goals go_returns
        all_goals exact ⟨ret_int HF.out.symm, by go_grown⟩
    · have Hn := Lib.hid hn
      clear hn
      go_enter Try.func28, Try.ntmps28
      go_wp2_with (first | (go_at_call 47; refine (implWait_f A c l now idle _ ha Hn.out).mono ?_; rintro e w1 ⟨rfl, hb1⟩) | go_in)
      all_goals go_returns
      all_goals exact ⟨ret_int HF.out.symm, hb1⟩
set_option maxRecDepth 100000 in
set_option maxHeartbeats 2000000 in
theorem specNM_any (A : Option Addr) (c : Nat) (l : List InputR) (old now idle : Int) (w : World) (ha : Row InputR.enc 2 w A l) :
    Calls Try.prog 29 #[.int .i64 old, .slice A l.length c, .int .i64 now, .int .i64 idle] w fun e w' => e = .returned (.int .i64 (nxF old l now idle)) ∧ Below w.heap.size w w' := by
  rcases nxF_cases old l now idle with ⟨o0, o1, hv, hc, hM, hF⟩ | ⟨hn, hF⟩
  · have HF := Lib.hid hF
    unfold clk at hc
    obtain ⟨m0, m1, m2, m3⟩ := hc
    have Hin := Lib.hid (fun W hr => specMmIn_any A c l now idle W hr hv m0 m1)
    have Hv := Lib.hid hv
    have hbd := mmV_bounds (now := now) (idle := idle) hv
    generalize mmV l now idle = V at *
    clear hF hv hM
    by_cases hx : old < V
    all_goals
      go_enter Try.func29, Try.ntmps29
      go_wp2_with (first | (go_at_call 51; refine (specIns_any A c l _ ha).mono ?_; rintro e w1 ⟨rfl, hb1⟩; rw [Hv.out]) | (go_at_call 52; refine (specClock_t _ _ _ (by omega) (by omega) (by omega) (by omega)).mono ?_; rintro e w' ⟨rfl, rfl⟩) | (go_at_call 66; go_in) | fail)
      refine (Hin.out _ (ha.keep hb1)).mono ?_
      rintro e w2 ⟨rfl, hb2⟩
      have hB2 := hb1.trans (hb2.mono hb1.size)
      clear hb1 hb2
      go_wp2
      all_goals go_returns
      all_goals exact ⟨ret_int (by rw [HF.out]; unfold mx; first | rw [if_pos hx] | rw [if_neg (by omega)]), hB2⟩
  · have HF := Lib.hid hF
    clear hF
    rcases hn with hn | ⟨⟨o0, o1⟩, hn⟩
    · rcases (show old < -1 ∨ (-1 ≤ old ∧ 999 < old) by omega) with h1 | ⟨h1, h2⟩
      all_goals
        clear hn
        go_enter Try.func29, Try.ntmps29
        go_wp2
        all_goals go_returns
        all_goals exact ⟨ret_int HF.out.symm, by go_grown⟩
    · rcases Bool.eq_false_or_eq_true (vIns l) with hw | hw
      all_goals
        have hm : vIns l = true → ¬ clk now idle := fun h h' => hn ⟨h, h'⟩
        have Hm := Lib.hid hm
        have Hw := Lib.hid hw
        clear hm hw
        go_enter Try.func29, Try.ntmps29
        go_wp2_with (first | (go_at_call 51; refine (specIns_any A c l _ ha).mono ?_; rintro e w1 ⟨rfl, hb1⟩; rw [Hw.out]) | (go_at_call 52; refine (specClock_f _ _ _ (Hm.out Hw.out)).mono ?_; rintro e w' ⟨rfl, rfl⟩) | go_in)
        all_goals (go_returns; exact ⟨ret_int HF.out.symm, hb1⟩)
end Go.Proofs.Ytehedhkadjidpab
