import Derived.Test.YtehedhkadjidpaaMkL
import Derived.Outline
namespace Go.Proofs.Ytehedhkadjidpaa
open Go.RowKit
def marksF (l : List EventR) (b : Int) : List Int := if vEvs l = true ∧ 0 ≤ b ∧ b ≤ 999 then marksGo b (-1) l else []
theorem specMarksOf_any (A : Option Addr) (c : Nat) (l : List EventR) (b : Int) (w : World) (ha : Row EventR.enc 3 w A l) :
    Calls Try.prog 40 #[.slice A l.length c, .int .i64 b] w (OwnPost IntR.enc 1 3 w (marksF l b)) := by
  go_enter Try.func40, Try.ntmps40
  go_wp2_with fail
  refine (specValidEvents_any A c l _ ha).mono ?_
  rintro e w1 ⟨rfl, hb1⟩
  by_cases hv : vEvs l = true ∧ 0 ≤ b ∧ b ≤ 999
  · have hF : marksF l b = marksGo b (-1) l := by unfold marksF; rw [if_pos hv]
    have HF := Lib.hid hF
    obtain ⟨hv, m0, m1⟩ := hv
    have Hv := Lib.hid hv
    rw [hv]
    clear hF hv
    go_wp2_with (first | (go_at_call 61; refine (inRS_t _ _ _ _ (by omega) (by omega)).mono ?_; rintro e w' ⟨rfl, rfl⟩) | (go_at_call 73; refine (specMarksIn_any A c l b _ (ha.keep hb1) Hv.out m0 m1).mono ?_; rintro e w2 ⟨A2, c2, rfl, ho2, hb2⟩) | go_in)
    go_returns
    rw [HF.out]
    exact ⟨A2, c2, rfl, ⟨ho2.1, ⟨ho2.2.1, ho2.2.2.imp_right fun ⟨g, cap, cur, h1, h2, h3⟩ => ⟨g, cap, cur, h1, Nat.le_trans hb1.size h2, h3⟩⟩⟩, hb1.trans (hb2.mono hb1.size)⟩
  · have hF : marksF l b = [] := by unfold marksF; rw [if_neg hv]
    have HF := Lib.hid hF
    have Hv := Lib.hid hv
    rcases Bool.eq_false_or_eq_true (vEvs l) with hw | hw
    all_goals
      rw [hw]
      have hm : vEvs l = true → ¬(0 ≤ b ∧ b ≤ 999) := fun h h' => Hv.out ⟨h, h'⟩
      have Hm := Lib.hid hm
      have Hw := Lib.hid hw
      clear hm hF hv hw
      go_wp2_with (first | (go_at_call 61; refine (inRS_f _ _ _ _ (Hm.out Hw.out)).mono ?_; rintro e w' ⟨rfl, rfl⟩) | go_in)
      all_goals (go_returns; rw [HF.out]; exact acc_post (acc_none _ _ _ hb1) (by simp))
theorem implMV_t (b g : Int) (w : World) (b0 : 0 ≤ b) (b1 : b ≤ 999) (g0 : -1 ≤ g) (g1 : g ≤ 999) : Calls Try.prog 70 #[.agg #[.int .i64 b, .int .i64 g]] w fun e w' => e = .returned (.bool true) ∧ Below w.heap.size w w' := by
  go_enter Try.func70, Try.ntmps70
  go_wp2
  all_goals go_returns
  all_goals first | exact ⟨rfl, by go_grown⟩ | exact ⟨ret_bool (by simp; omega), by go_grown⟩
theorem implMV_f (b g : Int) (w : World) (hb : ¬ (0 ≤ b ∧ b ≤ 999)) : Calls Try.prog 70 #[.agg #[.int .i64 b, .int .i64 g]] w fun e w' => e = .returned (.bool false) ∧ Below w.heap.size w w' := by
  go_enter Try.func70, Try.ntmps70
  go_wp2
  all_goals go_returns
  all_goals first | exact ⟨rfl, by go_grown⟩ | exact ⟨ret_bool (by simp; omega), by go_grown⟩ | (exfalso; apply hb; first | omega | (simp at *; omega))
set_option maxRecDepth 100000 in
set_option maxHeartbeats 2000000 in
theorem implMarksOf_any (A : Option Addr) (c : Nat) (l : List EventR) (b : Int) (w : World) (ha : Row EventR.enc 3 w A l) :
    Calls Try.prog 38 #[.slice A l.length c, .int .i64 b] w (OwnPost IntR.enc 1 3 w (marksF l b)) := by
  have hal := ha.1
  obtain ⟨i0, hi0, hz0, hz1, hz2⟩ := info_parts IntR.zero_info
  have hb0 : Below w.heap.size w (w.alloc (.cells #[.int .i64 b, .int .i64 (-1)] 74)) := (Below.refl _ _).alloc (Nat.le_refl _) _
  have hk0 : Blk (w.alloc (.cells #[.int .i64 b, .int .i64 (-1)] 74)) w.heap.size 74 #[.int .i64 b, .int .i64 (-1)] := heap_alloc_new w _
  go_enter Try.func38, Try.ntmps38
  go_wp2_with fail
  refine (implValidEvents_any A c l _ (ha.keep hb0)).mono ?_
  rintro e w1 ⟨rfl, hb1⟩
  have hB1 := hb0.trans (hb1.mono (by simp))
  have hk1 := blk_below hk0 hb1
  clear hb0 hk0 hb1
  by_cases hv : vEvs l = true ∧ 0 ≤ b ∧ b ≤ 999
  · have hF : marksF l b = marksGo b (-1) l := by unfold marksF; rw [if_pos hv]
    have HF := Lib.hid hF
    obtain ⟨hv, b0, b1⟩ := hv
    have Hv := Lib.hid hv
    rw [hv]
    clear hF hv
    obtain ⟨m0, m1, mf, ml⟩ := blk2 (show w1.heap[w.heap.size]? = _ from hk1)
    go_wp2_with fail
    refine (implMV_t b (-1) _ b0 b1 (by omega) (by omega)).mono ?_
    rintro e w2 ⟨rfl, hb2⟩
    have hB2 := hB1.trans (hb2.mono hB1.size)
    have hk2 := blk_below hk1 hb2
    have hmk : ∀ W : World, (Instr.makeSlice 47 (.int .i64 0) (.int .i64 (l.length : Int))).run Try.prog W = .ok (.slice (some ⟨W.heap.size, 0, none⟩) 0 l.length) (W.alloc (.cells (madeCells #[.int .i64 0] l.length) 3)) := fun W => by
      have h := run_make_rowN (P := Try.prog) 47 3 i0 _ Try.underlying47 hi0 hz0 .i64 .i64 0 l.length (Nat.zero_le _) (by rw [hz2]; omega) (by omega) W
      rw [hz1, Nat.mul_one] at h
      exact h
    have hst : Acc IntR.enc 1 3 w [] (.slice (some ⟨w2.heap.size, 0, none⟩) 0 l.length) (w2.alloc (.cells (madeCells #[.int .i64 0] l.length) 3)) :=
      ⟨by simpa using World.ownsRow_made w2 (madeCells #[.int .i64 0] l.length) l.length (base := w.heap.size) (e := 3) (size := 1) hB2.size (by unfold maxLen; omega) (by rw [size_madeCells]; omega), hB2.alloc hB2.size _⟩
    have hk3 := blk_below hk2 ((Below.refl _ _).alloc (Nat.le_refl _) (.cells (madeCells #[.int .i64 0] l.length) 3))
    have Hacc := Lib.hid hst
    have Hbk := Lib.hid hk3
    clear hst hk3 hk2 hk1 hb2 hB1 hB2 m0 m1 mf ml
    go_wp2
    go_loopw [6, 24] (fun v i wr => ∃ k : Nat, k ≤ l.length ∧ i = .int .i64 k ∧ Acc IntR.enc 1 3 w (marksGo b (-1) (l.take k)) v wr ∧ Blk wr w.heap.size 74 #[.int .i64 b, .int .i64 (topT (-1) (l.take k))]) (fun _ i _ => l.length - (intOf i).toNat)
    case atStart => exact ⟨0, Nat.zero_le _, rfl, by simpa [marksGo] using Hacc.out, by simpa [topT] using Hbk.out⟩
    case round =>
      obtain ⟨k, hk, rfl, hacc, hbk⟩ := hrel
      clear Hacc Hbk hmk
      have Hacc := Lib.hid hacc
      have Hbk := Lib.hid hbk
      have hbw := hacc.2
      clear hacc hbk
      by_cases hkl : k < l.length
      · obtain ⟨b', off, rfl, hbl, q0, q1, q2⟩ := (ha.keep hbw).atEvent hkl
        have hx := List.getElem?_eq_getElem hkl
        obtain ⟨x0, x1, x2, x3, x4, x5⟩ := ev_bounds Hv.out hx
        obtain ⟨t0, t1⟩ := top_ok Hv.out k
        have tn := top_next hx
        have mn := marks_next (b := b) hx
        generalize l[k] = x at *
        generalize topT (-1) (l.take k) = g at *
        have Hx := Lib.hid hx
        have hg : -1 ≤ mx g x.a0 ∧ mx g x.a0 ≤ 999 := by unfold mx; split <;> omega
        generalize hY : mx g x.a0 = y at *
        have HY := Lib.hid hY
        clear hY
        obtain ⟨y0, y1⟩ := hg
        have Htn := Lib.hid tn
        have Hmn := Lib.hid mn
        clear hx ha tn mn
        have hown := Hacc.out.1
        have hne := own_ne hown Hbk.out (by decide)
        have hE : Below wr.heap.size wr (wr.alloc (.cells #[.int .i64 x.a0, .int .i64 x.a1, .int .i64 x.a2] 32)) := (Below.refl _ _).alloc (Nat.le_refl _) _
        have hbk1 := blk_below Hbk.out hE
        obtain ⟨m0, m1, mf, ml⟩ := blk2 (show (wr.alloc (.cells #[.int .i64 x.a0, .int .i64 x.a1, .int .i64 x.a2] 32)).heap[w.heap.size]? = _ from hbk1)
        have hlt : w.heap.size < wr.heap.size := blk_lt Hbk.out
        obtain ⟨n0, n1, nf, nl⟩ := blk2 (show wr.heap[w.heap.size]? = _ from Hbk.out)
        go_wp2_with fail
        refine (implSee_any b g x.a0 _).mono ?_
        rw [HY.out]
        rintro e w2 ⟨rfl, hb2⟩
        have hb3 : Below wr.heap.size wr w2 := hE.trans (hb2.mono (by simp))
        have hbk2 := blk_below Hbk.out hb3
        obtain ⟨r0, r1, rf, rl⟩ := blk2 (show w2.heap[w.heap.size]? = _ from hbk2)
        have hacc2 := acc_keep Hacc.out hb3
        have hW : Below w.heap.size w ((w2.setCell ⟨w.heap.size, 0, none⟩ (.int .i64 b)).setCell ⟨w.heap.size, 1, none⟩ (.int .i64 y)) := (hacc2.2.setCell (by simp) _).setCell (by simp) _
        have hbk3 : Blk ((w2.setCell ⟨w.heap.size, 0, none⟩ (.int .i64 b)).setCell ⟨w.heap.size, 1, none⟩ (.int .i64 y)) w.heap.size 74 #[.int .i64 b, .int .i64 y] := blk_set (blk_set hbk2 0 (.int .i64 b)) 1 (.int .i64 y)
        have hacc3 : Acc IntR.enc 1 3 w (marksGo b (-1) (l.take k)) u6 ((w2.setCell ⟨w.heap.size, 0, none⟩ (.int .i64 b)).setCell ⟨w.heap.size, 1, none⟩ (.int .i64 y)) := ⟨own_set (own_set hacc2.1 hne 0 _) hne 1 _, hW⟩
        have Hacc3 := Lib.hid hacc3
        have Hbk3 := Lib.hid hbk3
        clear hb2 hb3 hbk1 hbk2 hacc2 hacc3 hbk3 hW hE m0 m1 mf ml hown n0 n1 nf nl
        go_wp2_with fail
        refine (implWm_any b y _ b0 b1 (by omega) (by omega)).mono ?_
        rintro e w4 ⟨rfl, hb4⟩
        have hacc4 := acc_keep Hacc3.out hb4
        have hbk4 := blk_below Hbk3.out hb4
        have Hacc4 := Lib.hid hacc4
        have Hbk4 := Lib.hid hbk4
        have hown4 := hacc4.1
        have hlen := marksGo_len b (-1) (l.take k)
        rw [List.length_take] at hlen
        have Hlen := Lib.hid hlen
        clear hb4 hacc4 hbk4 Hacc3 Hbk3 hlen r0 r1 rf rl q0 q1 q2 hbw Hacc Hbk hne
        go_wp2_with (first | (at_builtin; refine wpList_append_own _ rfl _ _ 47 rfl w.heap.size 3 i0 _ 1 8 Try.underlying47 hi0 hz0 hz1 hz2 rfl (by decide) _ _ _ rfl (hown4.alloc _) ⟨w4.heap.size, 0, none⟩ 1 1 (IntR.enc (wm b y)) rfl rfl ?c1 ?c2 ?c3 ?c4 ?c5 ?_) | go_in)
        case c1 =>
          intro j u hu
          rcases j with _ | j <;> simp [IntR.enc] at hu <;> subst hu <;> simp [Addr.add, go_sem]
        case c2 => intro u hu; simp [IntR.enc] at hu; subst hu; rfl
        case c3 => have := Hlen.out; unfold maxLen; omega
        case c4 => have := Hlen.out; omega
        case c5 => have := Hacc4.out.2.size; simp; omega
        intro v' w5 hown' hg' _
        have hnext := acc_push Hacc4.out ((Below.refl _ _).alloc (Nat.le_refl _) _) hown' hg'
        rw [← Hmn.out] at hnext
        have hbk5 := blk_gb (blk_below Hbk4.out ((Below.refl _ _).alloc (Nat.le_refl _) (.cells #[.int .i64 (wm b y)] 3))) hg' (own_ne hown4 Hbk4.out (by decide))
        rw [← Htn.out] at hbk5
        have Hn := Lib.hid hnext
        have Hn2 := Lib.hid hbk5
        clear hnext hown' hg' hown4 hbk5 Hacc4 Hbk4 Hmn Htn
        go_wp2
        go_roundw
        case rel => exact ⟨k + 1, by omega, by go_num, Hn.out, Hn2.out⟩
        case measure => simp [intOf]; omega
      · have hkl : l.take k = l := List.take_of_length_le (by omega)
        have hfin := Hacc.out
        rw [hkl] at hfin
        have Hfin := Lib.hid hfin
        have hlen := marksGo_len b (-1) l
        have Hlen := Lib.hid hlen
        clear hfin hkl Hacc hlen
        go_wp2
        all_goals go_returns
        all_goals (rw [HF.out]; exact acc_post Hfin.out (by rw [Hlen.out]; omega))
  · have hF : marksF l b = [] := by unfold marksF; rw [if_neg hv]
    have HF := Lib.hid hF
    have Hv := Lib.hid hv
    obtain ⟨m0, m1, mf, ml⟩ := blk2 (show w1.heap[w.heap.size]? = _ from hk1)
    rcases Bool.eq_false_or_eq_true (vEvs l) with hw | hw
    all_goals
      rw [hw]
      have hm : vEvs l = true → ¬(0 ≤ b ∧ b ≤ 999) := fun h h' => Hv.out ⟨h, h'⟩
      have Hm := Lib.hid hm
      have Hw := Lib.hid hw
      clear hm hF hv hw
      go_wp2_with (first | (go_at_call 70; refine (implMV_f _ _ _ (Hm.out Hw.out)).mono ?_; rintro e w2 ⟨rfl, hb2⟩; replace hB1 := hB1.trans (hb2.mono hB1.size)) | go_in)
      all_goals (go_returns; rw [HF.out]; exact acc_post (acc_none _ _ _ hB1) (by simp))
end Go.Proofs.Ytehedhkadjidpaa
