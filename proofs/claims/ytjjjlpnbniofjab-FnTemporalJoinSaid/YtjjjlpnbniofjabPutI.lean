import Derived.Test.YtjjjlpnbniofjabPutS
namespace Go.Proofs.Ytjjjlpnbniofjab
open Go.RowKit
theorem rowVn_one {W : World} {g : Nat} {t : VersionR} (h0 : W.cell? ⟨g, 0, none⟩ = some (.int .i64 t.a0)) (h1 : W.cell? ⟨g, 1, none⟩ = some (.int .i64 t.a1)) (h2 : W.cell? ⟨g, 2, none⟩ = some (.int .i64 t.a2)) : Row VersionR.enc 3 W (some ⟨g, 0, none⟩) [t] := by
  refine ⟨by simp, fun _ => ⟨g, 0, rfl, cell_lt h0, fun i x hx j u hu => ?_⟩⟩
  rcases i with _ | i
  · simp at hx
    subst hx
    rcases j with _ | _ | _ | j <;> simp [VersionR.enc] at hu <;> subst hu
    · simpa using h0
    · simpa using h1
    · simpa using h2
  · simp at hx
set_option maxRecDepth 100000 in
set_option maxHeartbeats 4000000 in
theorem implPut_any (A : Option Addr) (c : Nat) (l : List VersionR) (v : VersionR) (w : World) (ha : Row VersionR.enc 3 w A l) (hc : l.length ≤ c) :
    Calls Try.prog 29 #[.slice A l.length c, .agg #[.int .i64 v.a0, .int .i64 v.a1, .int .i64 v.a2]] w (OwnBPost VersionR.enc 3 39 w (putF l v) (putK l v)) := by
  have hal := ha.1
  have hBA : Below w.heap.size w (w.alloc (.cells #[.int .i64 v.a0, .int .i64 v.a1, .int .i64 v.a2] 39)) := (Below.refl _ _).alloc (Nat.le_refl _) _
  have hAz : w.heap.size < (w.alloc (.cells #[.int .i64 v.a0, .int .i64 v.a1, .int .i64 v.a2] 39)).heap.size := by simp
  have c0 : (w.alloc (.cells #[.int .i64 v.a0, .int .i64 v.a1, .int .i64 v.a2] 39)).cell? ⟨w.heap.size, 0, none⟩ = some (.int .i64 v.a0) := by simp [go_sem]
  have c1 : (w.alloc (.cells #[.int .i64 v.a0, .int .i64 v.a1, .int .i64 v.a2] 39)).cell? ⟨w.heap.size, 1, none⟩ = some (.int .i64 v.a1) := by simp [go_sem]
  have c2 : (w.alloc (.cells #[.int .i64 v.a0, .int .i64 v.a1, .int .i64 v.a2] 39)).cell? ⟨w.heap.size, 2, none⟩ = some (.int .i64 v.a2) := by simp [go_sem]
  go_enter Try.func29, Try.ntmps29
  go_wp2_with fail
  generalize w.alloc (.cells #[.int .i64 v.a0, .int .i64 v.a1, .int .i64 v.a2] 39) = wA at *
  refine (implVers_any A c l _ (ha.keep hBA)).mono ?_
  rintro e w1 ⟨rfl, hb1⟩
  have d0 : w1.cell? ⟨w.heap.size, 0, none⟩ = some (.int .i64 v.a0) := (hb1.cell hAz).trans c0
  have d1 : w1.cell? ⟨w.heap.size, 1, none⟩ = some (.int .i64 v.a1) := (hb1.cell hAz).trans c1
  have d2 : w1.cell? ⟨w.heap.size, 2, none⟩ = some (.int .i64 v.a2) := (hb1.cell hAz).trans c2
  have Hc := Lib.hid (show _ ∧ _ ∧ _ from ⟨c0, c1, c2⟩)
  have hbw1 := hBA.trans (hb1.mono hBA.size)
  clear c0 c1 c2
  by_cases hv : putP l v
  · have Hv := Lib.hid hv
    obtain ⟨hv1, hv2⟩ := hv
    rw [hv1]
    go_wp2_with fail
    refine (implValidVersion_any v _).mono ?_
    rintro e w2 ⟨rfl, hb2⟩
    rw [hv2]
    have hB2 := hb1.trans (hb2.mono hb1.size)
    have hbw2 := hBA.trans (hB2.mono hBA.size)
    have f0 : w2.cell? ⟨w.heap.size, 0, none⟩ = some (.int .i64 v.a0) := (hB2.cell hAz).trans Hc.out.1
    have f1 : w2.cell? ⟨w.heap.size, 1, none⟩ = some (.int .i64 v.a1) := (hB2.cell hAz).trans Hc.out.2.1
    have f2 : w2.cell? ⟨w.heap.size, 2, none⟩ = some (.int .i64 v.a2) := (hB2.cell hAz).trans Hc.out.2.2
    clear hb1 hb2 d0 d1 d2 hbw1
    have hk := cutN_le (befV v) l
    obtain ⟨hp0, hp1⟩ := placeV hv1 v
    have H := bsfVn_any A c l v (cutN (befV v) l) w2 (ha.keep hbw2) hk hp0 hp1
    have h40' := ver_len hv1
    have hhit : hitVn v l[cutN (befV v) l]? = true → cutN (befV v) l < l.length := by
      intro h
      rcases Nat.lt_or_ge (cutN (befV v) l) l.length with h1 | h1
      · exact h1
      · rw [List.getElem?_eq_none h1] at h; cases h
    have HG0 := show putG l v = l.take (cutN (befV v) l) ++ [v] ++ l.drop (putJ l v) from rfl
    have HF := Lib.hid (show (hitVn v l[cutN (befV v) l]? = true ∨ l.length ≠ 40 → putF l v = putG l v ∧ putK l v = true) ∧ (¬ (hitVn v l[cutN (befV v) l]? = true ∨ l.length ≠ 40) → putF l v = [] ∧ putK l v = false) by
      unfold putF putK
      exact ⟨fun h => ⟨if_pos ⟨Hv.out, h⟩, decide_eq_true ⟨Hv.out, h⟩⟩, fun h => ⟨if_neg (fun h' => h h'.2), decide_eq_false (fun h' => h h'.2)⟩⟩)
    clear hv1 hv2 hp0 hp1
    by_cases hf : hitVn v l[cutN (befV v) l]? = true
    · have hkl := hhit hf
      rw [show putJ l v = cutN (befV v) l + 1 from if_pos hf] at HG0
      have HG := Lib.hid HG0
      have HOK := Lib.hid (Or.inl hf : hitVn v l[cutN (befV v) l]? = true ∨ l.length ≠ 40)
      rw [hf] at H
      have H := Lib.hid H
      clear hf HG0 hhit
      generalize hitVn v l[cutN (befV v) l]? = f at *
      generalize cutN (befV v) l = k at *
      go_wp2_with fail
      refine H.out.mono ?_
      rintro e w3 ⟨rfl, hb3⟩
      have HF2 := Lib.hid (HF.out.1 HOK.out)
      have hbw3 := hbw2.trans (hb3.mono hbw2.size)
      have hz3 : w.heap.size < w2.heap.size := by have := hB2.size; omega
      have g0 : w3.cell? ⟨w.heap.size, 0, none⟩ = some (.int .i64 v.a0) := (hb3.cell hz3).trans f0
      have g1 : w3.cell? ⟨w.heap.size, 1, none⟩ = some (.int .i64 v.a1) := (hb3.cell hz3).trans f1
      have g2 : w3.cell? ⟨w.heap.size, 2, none⟩ = some (.int .i64 v.a2) := (hb3.cell hz3).trans f2
      have hz4 : w.heap.size < w3.heap.size := by have := hb3.size; omega
      have ha3 := Lib.hid (ha.keep hbw3)
      have HL1 := Lib.hid (show k = (l.take k).length by rw [List.length_take]; omega)
      have HL2 := Lib.hid (show l.length - (k + 1) = (l.drop (k + 1)).length by rw [List.length_drop])
      have HL3 := Lib.hid (show (l.take k).length + [v].length + (l.drop (k + 1)).length ≤ 1048576 by simp; omega)
      have hlenG : (l.take k ++ [v] ++ l.drop (k + 1)).length ≤ 1048576 := by simp; omega
      have HlG := Lib.hid hlenG
      have HHF := HF
      clear H f0 f1 f2 hb3 ha hbw2 hB2 hlenG HF HHF
      go_wp2_with fail
      have hD : (if c = k + 1 then A else Option.map (fun x => x.add ((k + 1) * 3)) A) = dropA A c (k + 1) 3 := rfl
      have i0 : (0 : Int) ≤ (k : Int) := by omega
      have i1 : (k : Int) ≤ (l.length : Int) := by omega
      have i2 : (k : Int) ≤ (c : Int) := by omega
      have j0 : (0 : Int) ≤ (k : Int) + 1 := by omega
      have j1 : (k : Int) + 1 ≤ (l.length : Int) := by omega
      have j2 : (k : Int) + 1 ≤ (c : Int) := by omega
      have j3 : ((k : Int) + 1).toNat = k + 1 := by omega
      go_region_held3 (fun w' => w'.cell? ⟨w.heap.size, 0, none⟩ = some (.int .i64 v.a0) ∧ w'.cell? ⟨w.heap.size, 1, none⟩ = some (.int .i64 v.a1) ∧ w'.cell? ⟨w.heap.size, 2, none⟩ = some (.int .i64 v.a2) ∧ w3.heap.size + 0 ≤ w'.heap.size ∧ Below w3.heap.size w3 w') ((go_split_ands; (try have hz0 := b1.size); (repeat' apply And.intro) <;> first | assumption | (simp only [World.cell?_drew]; assumption) | (simp only [World.size_drew]; omega) | omega | exact Below.drew (Below.refl _ _) | (refine (b1.cell (by first | omega | (simp; done) | (simp; omega))).trans ?_; first | assumption | (simp only [World.cell?_drew]; assumption)) | (refine Below.trans ?_ (b1.mono (by first | omega | (simp; done) | (simp; omega) | (exact Below.size (by assumption)))); first | assumption | exact Below.drew (Below.refl _ _)) | (go_grown; done) | (simp; done) | (simp; omega) | (go_keep; done))) (first | (go_at_call 72; go_split_ands; refine (cat3Vn_any (w3.heap.size + 1) A k c (l.take k) (some ⟨w3.heap.size, 0, none⟩) 1 1 [v] (dropA A c (k + 1) 3) (l.length - (k + 1)) (c - (k + 1)) (l.drop (k + 1)) _ ((ha3.out.keep (by assumption)).take k) HL1.out (by simp [go_sem]) (rowVn_one (by simp [go_sem]) (by simp [go_sem]) (by simp [go_sem])) rfl (by simp [go_sem]) ((ha3.out.keep (by assumption)).dropIf hc) HL2.out (by simp [go_sem]) HL3.out).mono ?_; rintro e w4 ⟨A1, d1, rfl, o1, b1⟩))
      have hb4 : Below w.heap.size w w4 := hbw3.trans ((‹_ ∧ _ ∧ _ ∧ _ ∧ Below w3.heap.size w3 w4›).2.2.2.2.mono hbw3.size)
      have A1' := own_acc (w := w) o1 (by have := hbw3.size; simp; omega) hb4
      rw [← HG.out] at A1'
      have HlG2 := HlG.out
      rw [← HG.out] at HlG2
      have Hl2 := Lib.hid HlG2
      rw [show (putG l v).length = k + (l.length - (k + 1) + 1) by rw [HG.out]; simp; omega] at A1'
      clear HlG2
      have Hfin := Lib.hid A1'
      clear o1 b1 A1' hb4 hD
      go_wp2
      all_goals go_returns
      all_goals (rw [HF2.out.1, HF2.out.2]; exact accB Hfin.out Hl2.out rfl)
    · have hf' : hitVn v l[cutN (befV v) l]? = false := by rw [Bool.eq_false_iff]; exact hf
      rw [show putJ l v = cutN (befV v) l from if_neg hf] at HG0
      have HG := Lib.hid HG0
      rw [hf'] at H
      have H := Lib.hid H
      have Hnf := Lib.hid hf
      clear hf hf' HG0 hhit
      generalize hitVn v l[cutN (befV v) l]? = f at *
      generalize cutN (befV v) l = k at *
      by_cases h40 : l.length = 40
      · have HF2 := Lib.hid (HF.out.2 (by rintro (h | h); exact Hnf.out h; exact h h40))
        have hq : ((l.length : Int) == 40) = true := by simp; omega
        clear h40
        go_wp2_with fail
        refine H.out.mono ?_
        rintro e w3 ⟨rfl, hb3⟩
        have hbw3 := hbw2.trans (hb3.mono hbw2.size)
        clear H f0 f1 f2 HF
        go_wp2
        all_goals go_returns
        all_goals (rw [HF2.out.1, HF2.out.2]; exact accB (acc_none _ _ _ hbw3) (by simp) rfl)
      · have HOK := Lib.hid (Or.inr h40 : f = true ∨ l.length ≠ 40)
        have hq : ((l.length : Int) == 40) = false := by simp; omega
        clear h40
        go_wp2_with fail
        refine H.out.mono ?_
        rintro e w3 ⟨rfl, hb3⟩
        have HF2 := Lib.hid (HF.out.1 HOK.out)
        have hbw3 := hbw2.trans (hb3.mono hbw2.size)
        have hz3 : w.heap.size < w2.heap.size := by have := hB2.size; omega
        have g0 : w3.cell? ⟨w.heap.size, 0, none⟩ = some (.int .i64 v.a0) := (hb3.cell hz3).trans f0
        have g1 : w3.cell? ⟨w.heap.size, 1, none⟩ = some (.int .i64 v.a1) := (hb3.cell hz3).trans f1
        have g2 : w3.cell? ⟨w.heap.size, 2, none⟩ = some (.int .i64 v.a2) := (hb3.cell hz3).trans f2
        have hz4 : w.heap.size < w3.heap.size := by have := hb3.size; omega
        have ha3 := Lib.hid (ha.keep hbw3)
        have HL1 := Lib.hid (show k = (l.take k).length by rw [List.length_take]; omega)
        have HL2 := Lib.hid (show l.length - (k) = (l.drop (k)).length by rw [List.length_drop])
        have HL3 := Lib.hid (show (l.take k).length + [v].length + (l.drop (k)).length ≤ 1048576 by simp; omega)
        have hlenG : (l.take k ++ [v] ++ l.drop (k)).length ≤ 1048576 := by simp; omega
        have HlG := Lib.hid hlenG
        have HHF := HF
        clear H f0 f1 f2 hb3 ha hbw2 hB2 hlenG HF HHF
        go_wp2_with fail
        have hD : (if c = k then A else Option.map (fun x => x.add ((k) * 3)) A) = dropA A c (k) 3 := rfl
        have i0 : (0 : Int) ≤ (k : Int) := by omega
        have i1 : (k : Int) ≤ (l.length : Int) := by omega
        have i2 : (k : Int) ≤ (c : Int) := by omega
        have j0 := i0
        go_region_held3 (fun w' => w'.cell? ⟨w.heap.size, 0, none⟩ = some (.int .i64 v.a0) ∧ w'.cell? ⟨w.heap.size, 1, none⟩ = some (.int .i64 v.a1) ∧ w'.cell? ⟨w.heap.size, 2, none⟩ = some (.int .i64 v.a2) ∧ w3.heap.size + 0 ≤ w'.heap.size ∧ Below w3.heap.size w3 w') ((go_split_ands; (try have hz0 := b1.size); (repeat' apply And.intro) <;> first | assumption | (simp only [World.cell?_drew]; assumption) | (simp only [World.size_drew]; omega) | omega | exact Below.drew (Below.refl _ _) | (refine (b1.cell (by first | omega | (simp; done) | (simp; omega))).trans ?_; first | assumption | (simp only [World.cell?_drew]; assumption)) | (refine Below.trans ?_ (b1.mono (by first | omega | (simp; done) | (simp; omega) | (exact Below.size (by assumption)))); first | assumption | exact Below.drew (Below.refl _ _)) | (go_grown; done) | (simp; done) | (simp; omega) | (go_keep; done))) (first | (go_at_call 72; go_split_ands; refine (cat3Vn_any (w3.heap.size + 1) A k c (l.take k) (some ⟨w3.heap.size, 0, none⟩) 1 1 [v] (dropA A c (k) 3) (l.length - (k)) (c - (k)) (l.drop (k)) _ ((ha3.out.keep (by assumption)).take k) HL1.out (by simp [go_sem]) (rowVn_one (by simp [go_sem]) (by simp [go_sem]) (by simp [go_sem])) rfl (by simp [go_sem]) ((ha3.out.keep (by assumption)).dropIf hc) HL2.out (by simp [go_sem]) HL3.out).mono ?_; rintro e w4 ⟨A1, d1, rfl, o1, b1⟩))
        have hb4 : Below w.heap.size w w4 := hbw3.trans ((‹_ ∧ _ ∧ _ ∧ _ ∧ Below w3.heap.size w3 w4›).2.2.2.2.mono hbw3.size)
        have A1' := own_acc (w := w) o1 (by have := hbw3.size; simp; omega) hb4
        rw [← HG.out] at A1'
        have HlG2 := HlG.out
        rw [← HG.out] at HlG2
        have Hl2 := Lib.hid HlG2
        rw [show (putG l v).length = k + (l.length - k + 1) by rw [HG.out]; simp; omega] at A1'
        clear HlG2
        have Hfin := Lib.hid A1'
        clear o1 b1 A1' hb4 hD
        go_wp2
        all_goals go_returns
        all_goals (rw [HF2.out.1, HF2.out.2]; exact accB Hfin.out Hl2.out rfl)
  · have HF := Lib.hid (show putF l v = [] ∧ putK l v = false by
      unfold putF putK
      exact ⟨if_neg (fun h => hv h.1), decide_eq_false (fun h => hv h.1)⟩)
    rcases Bool.eq_false_or_eq_true (vVers l) with h1 | h1
    · have h2 : vVerB v = false := by
        rw [Bool.eq_false_iff]; intro h; exact hv ⟨h1, h⟩
      rw [h1]
      clear hv h1
      go_wp2_with fail
      refine (implValidVersion_any v _).mono ?_
      rintro e w2 ⟨rfl, hb2⟩
      rw [h2]
      have hbw2 := hbw1.trans (hb2.mono hbw1.size)
      clear h2
      go_wp2
      all_goals go_returns
      all_goals (rw [HF.out.1, HF.out.2]; exact accB (acc_none _ _ _ hbw2) (by simp) rfl)
    · rw [h1]
      clear hv h1
      go_wp2
      all_goals go_returns
      all_goals (rw [HF.out.1, HF.out.2]; exact accB (acc_none _ _ _ hbw1) (by simp) rfl)
end Go.Proofs.Ytjjjlpnbniofjab
