import Derived.Test.YtjjjlpnbniofjabCatTm
import Derived.Test.YtjjjlpnbniofjabBsfTm
import Derived.Test.YtjjjlpnbniofjabCloneTm
import Derived.Test.YtjjjlpnbniofjabNeqTm
import Derived.Deep.RegionHeld3
namespace Go.Proofs.Ytjjjlpnbniofjab
open Go.RowKit
def remF (l : List TimerR) (t : TimerR) : List TimerR := if vTims l = true then l.filter (fun x => !decide (x = t)) else []
def remK (l : List TimerR) (t : TimerR) : Bool := if vTims l = true then decide ((l.filter (fun x => !decide (x = t))).length < l.length) else false
theorem tm_pw {l : List TimerR} (hv : vTims l = true) : l.Pairwise (fun x y => cmpTim x y < 0) := by
  unfold vTims at hv
  rw [Bool.and_eq_true] at hv
  exact asc_pairwise (c := cmpTim) (fun x y z => cmp3_trans _ _ _ _ _ _ _ _ _) hv.2
theorem cmpTim_eq {x y : TimerR} : cmpTim x y = 0 ↔ x = y := by
  unfold cmpTim
  rw [cmp3_zero]
  constructor
  · rintro ⟨a, b, c⟩; cases x; cases y; simp_all
  · rintro rfl; exact ⟨rfl, rfl, rfl⟩
def befTm (t x : TimerR) : Bool := decide (cmpTim x t < 0)
theorem bef_mono {l : List TimerR} (hv : vTims l = true) (t : TimerR) : ∀ (i j : Nat) (x y : TimerR), i ≤ j → l[i]? = some x → l[j]? = some y → befTm t y = true → befTm t x = true := by
  intro i j x y hij hx hy h
  unfold befTm at h ⊢
  rw [decide_eq_true_eq] at h ⊢
  rcases Nat.lt_or_eq_of_le hij with hlt | rfl
  · exact cmp3_trans _ _ _ _ _ _ _ _ _ (pw_get (tm_pw hv) hlt hx hy) h
  · rw [hx] at hy
    injection hy with hy
    subst hy
    exact h
/-- What the halving says of valid timers. -/
theorem place_at {l : List TimerR} (hv : vTims l = true) (t : TimerR) : (∀ (i : Nat) (x : TimerR), i < cutN (befTm t) l → l[i]? = some x → cmpTim x t < 0) ∧ (∀ (i : Nat) (x : TimerR), cutN (befTm t) l ≤ i → l[i]? = some x → ¬ cmpTim x t < 0) :=
  ⟨fun i x hi hx => by have := cutN_lt hi hx; unfold befTm at this; exact of_decide_eq_true this,
   fun i x hi hx => by have := cutN_ge (bef_mono hv t) hi hx; unfold befTm at this; exact of_decide_eq_false this⟩
theorem hit_iff {l : List TimerR} (hv : vTims l = true) (t : TimerR) : hitTm t l[cutN (befTm t) l]? = true ↔ t ∈ l := by
  obtain ⟨h0, h1⟩ := place_at hv t
  constructor
  · intro h
    cases hx : l[cutN (befTm t) l]? with
    | none => rw [hx] at h; cases h
    | some x =>
      rw [hx] at h
      have : x = t := cmpTim_eq.1 (of_decide_eq_true h)
      subst this
      exact List.mem_of_getElem? hx
  · intro h
    obtain ⟨i, hi⟩ := List.mem_iff_getElem?.1 h
    have h00 : cmpTim t t = 0 := cmpTim_eq.2 rfl
    have hge : cutN (befTm t) l ≤ i := by
      rcases Nat.lt_or_ge i (cutN (befTm t) l) with hlt | hge
      · have := h0 i t hlt hi; omega
      · exact hge
    have hlt : cutN (befTm t) l < l.length := Nat.lt_of_le_of_lt hge (List.getElem?_eq_some_iff.1 hi).1
    have hc : l[cutN (befTm t) l]? = some l[cutN (befTm t) l] := List.getElem?_eq_getElem hlt
    rcases Nat.lt_or_eq_of_le hge with hlt2 | heq
    · have h2 := pw_get (tm_pw hv) hlt2 hc hi
      exact absurd h2 (h1 _ _ (Nat.le_refl _) hc)
    · rw [heq, hi]
      exact decide_eq_true h00
theorem rem_found {l : List TimerR} (hv : vTims l = true) (t : TimerR) (hm : t ∈ l) : l.filter (fun x => !decide (x = t)) = l.take (cutN (befTm t) l) ++ l.drop (cutN (befTm t) l + 1) ∧ cutN (befTm t) l < l.length := by
  have hh := (hit_iff hv t).2 hm
  obtain ⟨h0, h1⟩ := place_at hv t
  cases hx : l[cutN (befTm t) l]? with
  | none => rw [hx] at hh; cases hh
  | some x =>
    rw [hx] at hh
    have hxt : x = t := cmpTim_eq.1 (of_decide_eq_true hh)
    subst hxt
    have hlt := (List.getElem?_eq_some_iff.1 hx).1
    refine ⟨?_, hlt⟩
    have h00 : cmpTim x x = 0 := cmpTim_eq.2 rfl
    have e : l = l.take (cutN (befTm x) l) ++ x :: l.drop (cutN (befTm x) l + 1) := by
      have hd : l.drop (cutN (befTm x) l) = x :: l.drop (cutN (befTm x) l + 1) := by
        rw [List.drop_eq_getElem_cons hlt]; congr 1; exact (List.getElem?_eq_some_iff.1 hx).2
      rw [← hd, List.take_append_drop]
    have ha : ∀ y ∈ l.take (cutN (befTm x) l), (!decide (y = x)) = true := by
      intro y hy
      obtain ⟨i, hi⟩ := List.mem_iff_getElem?.1 hy
      rw [List.getElem?_take] at hi
      split at hi
      · have := h0 i y ‹_› hi
        simp; rintro rfl; omega
      · cases hi
    have hb : ∀ y ∈ l.drop (cutN (befTm x) l + 1), (!decide (y = x)) = true := by
      intro y hy
      obtain ⟨i, hi⟩ := List.mem_iff_getElem?.1 hy
      rw [List.getElem?_drop] at hi
      have := pw_get (tm_pw hv) (i := cutN (befTm x) l) (j := cutN (befTm x) l + 1 + i) (by omega) hx hi
      simp; rintro rfl; omega
    conv => lhs; rw [e]
    rw [List.filter_append, List.filter_cons, List.filter_eq_self.2 ha, List.filter_eq_self.2 hb]
    simp
theorem rem_not {l : List TimerR} (t : TimerR) (hm : t ∉ l) : l.filter (fun x => !decide (x = t)) = l := by
  rw [List.filter_eq_self]
  intro y hy
  simp
  rintro rfl
  exact hm hy
set_option maxRecDepth 100000 in
set_option maxHeartbeats 4000000 in
theorem specRem_any (A : Option Addr) (c : Nat) (l : List TimerR) (t : TimerR) (w : World) (ha : Row TimerR.enc 3 w A l) :
    Calls Try.prog 21 #[.slice A l.length c, .agg #[.int .i64 t.a0, .int .i64 t.a1, .int .i64 t.a2]] w (OwnBPost TimerR.enc 3 25 w (remF l t) (remK l t)) := by
  have hal := ha.1
  obtain ⟨i0, hi0, hz0, hz1, hz2⟩ := info_parts TimerR.zero_info
  have hBA : Below w.heap.size w (w.alloc (.cells #[.int .i64 t.a0, .int .i64 t.a1, .int .i64 t.a2] 25)) := (Below.refl _ _).alloc (Nat.le_refl _) _
  have hB2 : Below w.heap.size w ((w.alloc (.cells #[.int .i64 t.a0, .int .i64 t.a1, .int .i64 t.a2] 25)).alloc (.cells #[] 25)) := hBA.alloc hBA.size _
  have hst := acc_made TimerR.enc 3 25 (Below.refl (w.alloc (.cells #[.int .i64 t.a0, .int .i64 t.a1, .int .i64 t.a2] 25)).heap.size (w.alloc (.cells #[.int .i64 t.a0, .int .i64 t.a1, .int .i64 t.a2] 25)))
  have Hst := Lib.hid hst
  clear hst
  go_enter Try.func21, Try.ntmps21
  go_wp2_with fail
  refine (specTims_any A c l _ (ha.keep hB2)).mono ?_
  rintro e w1 ⟨rfl, hb1⟩
  have hst := acc_keep Hst.out hb1
  have hAz : w.heap.size < (w.alloc (.cells #[.int .i64 t.a0, .int .i64 t.a1, .int .i64 t.a2] 25)).heap.size := by simp
  have c0 : (w.alloc (.cells #[.int .i64 t.a0, .int .i64 t.a1, .int .i64 t.a2] 25)).cell? ⟨w.heap.size, 0, none⟩ = some (.int .i64 t.a0) := by simp [go_sem]
  have c1 : (w.alloc (.cells #[.int .i64 t.a0, .int .i64 t.a1, .int .i64 t.a2] 25)).cell? ⟨w.heap.size, 1, none⟩ = some (.int .i64 t.a1) := by simp [go_sem]
  have c2 : (w.alloc (.cells #[.int .i64 t.a0, .int .i64 t.a1, .int .i64 t.a2] 25)).cell? ⟨w.heap.size, 2, none⟩ = some (.int .i64 t.a2) := by simp [go_sem]
  have hbw1 := hB2.trans (hb1.mono hB2.size)
  clear hB2 hb1 Hst
  have hvv : Value.slice (some ⟨(w.alloc (.cells #[.int .i64 t.a0, .int .i64 t.a1, .int .i64 t.a2] 25)).heap.size, 0, none⟩) 0 0 = .slice (some ⟨w.heap.size + 1, 0, none⟩) 0 0 := by simp
  rw [hvv] at hst
  clear hvv
  generalize w.alloc (.cells #[.int .i64 t.a0, .int .i64 t.a1, .int .i64 t.a2] 25) = wA at *
  have Hs := Lib.hid hst
  have Hc := Lib.hid (show _ ∧ _ ∧ _ from ⟨c0, c1, c2⟩)
  clear hst c0 c1 c2
  rcases Bool.eq_false_or_eq_true (vTims l) with hv | hv
  · have HF := Lib.hid (show remF l t = l.filter (fun x => !decide (x = t)) ∧ remK l t = decide ((l.filter (fun x => !decide (x = t))).length < l.length) by unfold remF remK; rw [hv]; simp)
    rw [hv]
    clear hv
    go_wp2
    go_loopw [6, 7] (fun v i wr => ∃ k : Nat, k ≤ l.length ∧ i = .int .i64 k ∧ Acc TimerR.enc 3 25 wA ((l.take k).filter (fun x => !decide (x = t))) v wr) (fun _ i _ => l.length - (intOf i).toNat)
    case atStart => exact ⟨0, Nat.zero_le _, rfl, by simpa using Hs.out⟩
    case round =>
      clear Hs hbw1
      obtain ⟨k, hk, rfl, hacc⟩ := hrel
      have Hacc := Lib.hid hacc
      have hbA := hacc.2
      have hbw := hBA.trans (hacc.2.mono hBA.size)
      clear hacc
      by_cases hlt : k < l.length
      · obtain ⟨b, off, rfl, hblt, q0, q1, q2⟩ := (ha.keep hbw).atTimer hlt
        have hx := List.getElem?_eq_getElem hlt
        generalize hxl : l[k] = x at *
        have Hx := Lib.hid hx
        have hzA := hbA.size
        have hl1 := filter_len (fun x => !decide (x = t)) l k
        have Q0 := Bw.cellOf hblt q0
        have Q1 := Bw.cellOf hblt q1
        have Q2 := Bw.cellOf hblt q2
        have hbx : w.heap.size < wr.heap.size := by omega
        have K0 := Bw.cellOf hbx ((hbA.cell (by show w.heap.size < wA.heap.size; omega)).trans Hc.out.1)
        have K1 := Bw.cellOf hbx ((hbA.cell (by show w.heap.size < wA.heap.size; omega)).trans Hc.out.2.1)
        have K2 := Bw.cellOf hbx ((hbA.cell (by show w.heap.size < wA.heap.size; omega)).trans Hc.out.2.2)
        have i0' : (0 : Int) ≤ (k : Int) := by omega
        have i1' : (k : Int) < (l.length : Int) := by omega
        have Hxl := Lib.hid hxl
        clear hx hxl
        by_cases hp : x = t
        · have hin : (!decide (x = t)) = false := by simp [hp]
          have Hn1 := Lib.hid (filter_skip (p := fun x => !decide (x = t)) (l := l) Hx.out hin)
          have hnext := Hacc.out
          rw [← Hn1.out] at hnext
          have Hn := Lib.hid hnext
          subst hp
          clear hin hnext
          go_wp2_with fail
          refine wp_region_quiet_below (by kernel_rfl) (by kernel_rfl) ?_
          repeat (any_goals (go_big_quiet_step (fail)))
          refine wpQuiet_nil ?_
          intro w2 hb2
          have Hn2 := Lib.hid (acc_keep Hn.out hb2)
          clear Hn Hacc
          go_wp2
          go_roundw
          case rel => exact ⟨k + 1, by omega, by go_num, Hn2.out⟩
          case measure => simp [intOf]; omega
        · have hin : (!decide (x = t)) = true := by simp [hp]
          have Hn1 := Lib.hid (filter_next (p := fun x => !decide (x = t)) (l := l) Hx.out hin)
          have hne : ∀ W, (binOp .neq 25 (.agg #[.int .i64 x.a0, .int .i64 x.a1, .int .i64 x.a2]) (.agg #[.int .i64 t.a0, .int .i64 t.a1, .int .i64 t.a2])).run Try.prog W = .ok (.bool true) W := fun W => by rw [neqTm_run, hin]
          clear hp hin
          go_wp2_with fail
          refine wp_region_quiet_below (by kernel_rfl) (by kernel_rfl) ?_
          repeat (any_goals (go_big_quiet_step (fail)))
          refine wpQuiet_nil ?_
          intro w2 hb2
          clear hne
          have hacc2 := acc_keep Hacc.out hb2
          have hown := hacc2.1
          have hbb := hBA.trans (hacc2.2.mono hBA.size)
          have hzz := hacc2.2.size
          obtain ⟨b', off', e', _, q0', q1', q2'⟩ := (ha.keep hbb).atTimer hlt
          injection e' with e'
          injection e' with e1 e2
          subst e1 e2
          rw [Hxl.out] at q0' q1' q2'
          have Hacc2 := Lib.hid hacc2
          clear hacc2 hbb hb2 ha Q0 Q1 Q2 K0 K1 K2
          go_wp2_with (first | (at_builtin; refine wpList_append_own _ rfl _ _ 23 rfl wA.heap.size 25 i0 _ 3 24 Try.underlying23 hi0 hz0 hz1 hz2 rfl (by decide) _ _ _ rfl (hown.alloc _) ⟨w2.heap.size, 0, none⟩ 1 1 (TimerR.enc x) rfl rfl ?c1 ?c2 ?c3 ?c4 ?c5 ?_) | go_in)
          case c1 =>
            intro j u hu
            rcases j with _ | _ | _ | j <;> simp [TimerR.enc] at hu <;> subst hu <;> simp [Addr.add, go_sem]
          case c2 => intro u hu; simp [TimerR.enc] at hu; rcases hu with rfl | rfl | rfl <;> rfl
          case c3 => unfold maxLen; omega
          case c4 => omega
          case c5 => first | omega | (simp; done) | (simp; omega)
          intro v' w4 hown' hg' _
          have hnext := acc_push Hacc2.out ((Below.refl _ _).alloc (Nat.le_refl _) _) hown' hg'
          rw [← Hn1.out] at hnext
          have Hn := Lib.hid hnext
          clear hnext hown' hg' hown Hacc Hacc2 Hn1
          go_wp2
          go_roundw
          case rel => exact ⟨k + 1, by omega, by go_num, Hn.out⟩
          case measure => simp [intOf]; omega
      · have hkl : l.take k = l := List.take_of_length_le (by omega)
        have hfin := Hacc.out
        rw [hkl] at hfin
        have Hfin := Lib.hid hfin
        have hl1 := List.length_filter_le (fun x => !decide (x = t)) l
        obtain ⟨A', c', hv'⟩ := (show Own TimerR.enc 3 25 wr wA.heap.size _ _ from ⟨by omega, hfin.1⟩).form
        subst hv'
        have Hl := Lib.hid (List.length_filter_le (fun x => !decide (x = t)) l)
        generalize hm : (l.filter (fun x => !decide (x = t))).length = m at *
        have Hm := Lib.hid hm
        clear hfin hkl Hacc hm
        go_wp2
        all_goals go_returns
        all_goals (rw [HF.out.1, HF.out.2]; exact accB (acc_up Hfin.out hBA) (by rw [Hm.out]; omega) (by first | rfl | (rw [Hm.out]; rfl) | (rw [Bool.eq_iff_iff]; simp)))
  · have HF := Lib.hid (show remF l t = [] ∧ remK l t = false by unfold remF remK; rw [hv]; simp)
    rw [hv]
    clear hv
    go_wp2
    all_goals go_returns
    all_goals (rw [HF.out.1, HF.out.2]; exact accB (acc_none _ _ _ hbw1) (by simp) rfl)
end Go.Proofs.Ytjjjlpnbniofjab
