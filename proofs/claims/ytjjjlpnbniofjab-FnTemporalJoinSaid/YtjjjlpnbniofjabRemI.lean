import Derived.Test.YtjjjlpnbniofjabRemS
namespace Go.Proofs.Ytjjjlpnbniofjab
open Go.RowKit
set_option maxRecDepth 100000 in
set_option maxHeartbeats 1000000 in
theorem placeTm_any (A : Option Addr) (c : Nat) (l : List TimerR) (t : TimerR) (w : World) (ha : Row TimerR.enc 3 w A l) (hv : vTims l = true) :
    Calls Try.prog 58 #[.slice A l.length c, .agg #[.int .i64 t.a0, .int .i64 t.a1, .int .i64 t.a2]] w fun e w' => e = .returned (.tuple #[.int .i64 (cutN (befTm t) l), .bool (hitTm t l[cutN (befTm t) l]?)]) ∧ Below w.heap.size w w' := by
  obtain ⟨h0, h1⟩ := place_at hv t
  have hB : Below w.heap.size w (w.alloc (.cells #[.int .i64 t.a0, .int .i64 t.a1, .int .i64 t.a2] 25)) := (Below.refl _ _).alloc (Nat.le_refl _) _
  have H := Lib.hid (bsfTm_any A c l t (cutN (befTm t) l) _ (ha.keep hB) (cutN_le _ _) h0 h1)
  generalize cutN (befTm t) l = k at *
  generalize hitTm t l[k]? = f at *
  clear h0 h1 hv
  go_enter Try.func58, Try.ntmps58
  go_wp2_with fail
  refine H.out.mono ?_
  rintro e w1 ⟨rfl, hb1⟩
  have hbw := hB.trans (hb1.mono hB.size)
  clear H
  go_wp2
  all_goals go_returns
  all_goals exact ⟨rfl, hbw⟩
set_option maxRecDepth 100000 in
set_option maxHeartbeats 4000000 in
theorem implRem_any (A : Option Addr) (c : Nat) (l : List TimerR) (t : TimerR) (w : World) (ha : Row TimerR.enc 3 w A l) (hc : l.length ≤ c) :
    Calls Try.prog 19 #[.slice A l.length c, .agg #[.int .i64 t.a0, .int .i64 t.a1, .int .i64 t.a2]] w (OwnBPost TimerR.enc 3 25 w (remF l t) (remK l t)) := by
  have hal := ha.1
  have hB : Below w.heap.size w (w.alloc (.cells #[.int .i64 t.a0, .int .i64 t.a1, .int .i64 t.a2] 25)) := (Below.refl _ _).alloc (Nat.le_refl _) _
  go_enter Try.func19, Try.ntmps19
  go_wp2_with fail
  refine (implTims_any A c l _ (ha.keep hB)).mono ?_
  rintro e w1 ⟨rfl, hb1⟩
  have c0 : w1.cell? ⟨w.heap.size, 0, none⟩ = some (.int .i64 t.a0) := (hb1.cell (by simp)).trans (by simp [go_sem])
  have c1 : w1.cell? ⟨w.heap.size, 1, none⟩ = some (.int .i64 t.a1) := (hb1.cell (by simp)).trans (by simp [go_sem])
  have c2 : w1.cell? ⟨w.heap.size, 2, none⟩ = some (.int .i64 t.a2) := (hb1.cell (by simp)).trans (by simp [go_sem])
  have hbw := hB.trans (hb1.mono hB.size)
  clear hB hb1
  rcases Bool.eq_false_or_eq_true (vTims l) with hv | hv
  · have Hv := Lib.hid hv
    rw [hv]
    by_cases hm : t ∈ l
    · obtain ⟨hrf, hklt⟩ := rem_found hv t hm
      have hh := (hit_iff hv t).2 hm
      have HF := Lib.hid (show remF l t = l.take (cutN (befTm t) l) ++ l.drop (cutN (befTm t) l + 1) ∧ remK l t = true by
        unfold remF remK
        rw [hv, if_pos rfl, if_pos rfl, hrf]
        refine ⟨rfl, decide_eq_true ?_⟩
        simp
        omega)
      have H := fun W hW => placeTm_any A c l t W (ha.keep (hbw.trans (Below.mono (w := w1) (w' := W) hW hbw.size))) hv
      rw [hh] at H
      generalize cutN (befTm t) l = k at *
      have H := Lib.hid H
      clear hv hrf hh hm
      go_wp2_with fail
      refine (H.out _ (Below.refl _ _)).mono ?_
      rintro e w2 ⟨rfl, hb2⟩
      have hbw2 := hbw.trans (hb2.mono hbw.size)
      have ha2 := Lib.hid (ha.keep hbw2)
      clear H c0 c1 c2 hb2 hbw ha
      go_wp2_with fail
      have HL1 := Lib.hid (show k = (l.take k).length by rw [List.length_take]; omega)
      have HL2 := Lib.hid (show l.length - (k + 1) = (l.drop (k + 1)).length by rw [List.length_drop])
      have HL3 := Lib.hid (show (l.take k).length + (l.drop (k + 1)).length ≤ 1048576 by simp; omega)
      have hD : (if c = k + 1 then A else Option.map (fun x => x.add ((k + 1) * 3)) A) = dropA A c (k + 1) 3 := rfl
      have i0 : (0 : Int) ≤ (k : Int) := by omega
      have i1 : (k : Int) + 1 ≤ (l.length : Int) := by omega
      have i2 : (k : Int) ≤ (c : Int) := by omega
      have i3 : (0 : Int) ≤ (k : Int) + 1 := by omega
      have i4 : ((k : Int) + 1).toNat = k + 1 := by omega
      have i5 : IntKind.i64.wrap ((k : Int) + 1) = (k : Int) + 1 := IntWalk.i64_in _ (by omega)
      go_region_held3 (fun w' => w2.heap.size + 0 ≤ w'.heap.size ∧ Below w2.heap.size w2 w') ((go_split_ands; (try have hz0 := b1.size); (repeat' apply And.intro) <;> first | assumption | (simp only [World.cell?_drew]; assumption) | (simp only [World.size_drew]; omega) | omega | exact Below.drew (Below.refl _ _) | (refine (b1.cell (by first | omega | (simp; done) | (simp; omega))).trans ?_; first | assumption | (simp only [World.cell?_drew]; assumption)) | (refine Below.trans ?_ (b1.mono (by first | omega | (simp; done) | (simp; omega) | (exact Below.size (by assumption)))); first | assumption | exact Below.drew (Below.refl _ _)) | (go_grown; done) | (simp; done) | (simp; omega) | (go_keep; done))) (first | (go_at_call 60; go_split_ands; refine (cat2Tm_any w2.heap.size A k c (l.take k) (dropA A c (k + 1) 3) (l.length - (k + 1)) (c - (k + 1)) (l.drop (k + 1)) _ ((ha2.out.keep (by assumption)).take k) HL1.out (by simp [go_sem]) ((ha2.out.keep (by assumption)).dropIf hc) HL2.out (by simp [go_sem]) HL3.out).mono ?_; rintro e w3 ⟨A1, d1, rfl, o1, b1⟩))
      have hb3 : Below w.heap.size w w3 := hbw2.trans ((‹_ ∧ Below w2.heap.size w2 w3›).2.mono hbw2.size)
      have A1' := own_acc (w := w) o1 (by have := hbw2.size; simp; omega) hb3
      have el : (l.take k ++ l.drop (k + 1)).length = l.length - 1 := by simp; omega
      rw [show (l.take k ++ l.drop (k + 1)).length = min k l.length + (l.length - (k + 1)) by simp] at A1'
      have Hfin := Lib.hid A1'
      clear o1 b1 A1' hb3 hD i5 i4
      go_wp2
      all_goals go_returns
      all_goals (rw [HF.out.1, HF.out.2]; exact accB Hfin.out (by simp; omega) rfl)
    · have hrf := rem_not (l := l) t hm
      have hh : hitTm t l[cutN (befTm t) l]? = false := by rw [Bool.eq_false_iff]; exact fun h => hm ((hit_iff hv t).1 h)
      have HF := Lib.hid (show remF l t = l ∧ remK l t = false by
        unfold remF remK
        rw [hv, if_pos rfl, if_pos rfl, hrf]
        exact ⟨rfl, decide_eq_false (by omega)⟩)
      have H := fun W hW => placeTm_any A c l t W (ha.keep (hbw.trans (Below.mono (w := w1) (w' := W) hW hbw.size))) hv
      rw [hh] at H
      have hk := cutN_le (befTm t) l
      generalize cutN (befTm t) l = k at *
      have H := Lib.hid H
      clear hv hrf hh hm
      go_wp2_with fail
      refine (H.out _ (Below.refl _ _)).mono ?_
      rintro e w2 ⟨rfl, hb2⟩
      have hbw2 := hbw.trans (hb2.mono hbw.size)
      have ha2 := Lib.hid (ha.keep hbw2)
      clear H c0 c1 c2 hb2 hbw ha
      go_wp2_with fail
      refine (cloneTm_any A c l _ ha2.out).mono ?_
      rintro e w3 ⟨A1, d1, rfl, o1, b1⟩
      have Hfin := Lib.hid (own_acc (w := w) o1 hbw2.size (hbw2.trans (b1.mono hbw2.size)))
      clear o1 b1
      go_wp2
      all_goals go_returns
      all_goals (rw [HF.out.1, HF.out.2]; exact accB Hfin.out (by omega) rfl)
  · have HF := Lib.hid (show remF l t = [] ∧ remK l t = false by unfold remF remK; rw [hv]; simp)
    rw [hv]
    clear hv
    go_wp2
    all_goals go_returns
    all_goals (rw [HF.out.1, HF.out.2]; exact accB (acc_none _ _ _ hbw) (by simp) rfl)
end Go.Proofs.Ytjjjlpnbniofjab
