import Derived.Test.YtehedhkadjidpaaMk
import Derived.Outline
namespace Go.Proofs.Ytehedhkadjidpaa
open Go.RowKit
set_option maxRecDepth 100000 in
set_option maxHeartbeats 2000000 in
theorem specMarksIn_any (A : Option Addr) (c : Nat) (l : List EventR) (b : Int) (w : World) (ha : Row EventR.enc 3 w A l) (hv : vEvs l = true) (b0 : 0 ≤ b) (b1 : b ≤ 999) :
    Calls Try.prog 73 #[.slice A l.length c, .int .i64 b] w (OwnPost IntR.enc 1 3 w (marksGo b (-1) l)) := by
  have hal := ha.1
  obtain ⟨i0, hi0, hz0, hz1, hz2⟩ := info_parts IntR.zero_info
  have hst := acc_keep (acc_made IntR.enc 1 3 (Below.refl w.heap.size w)) ((Below.refl _ _).alloc (Nat.le_refl _) (.cells #[.int .i64 b, .int .i64 (-1)] 74))
  have hbk : Blk ((w.alloc (.cells #[] 3)).alloc (.cells #[.int .i64 b, .int .i64 (-1)] 74)) (w.heap.size + 1) 74 #[.int .i64 b, .int .i64 (-1)] := by
    have := heap_alloc_new (w.alloc (.cells #[] 3)) (.cells #[.int .i64 b, .int .i64 (-1)] 74)
    have hz : (w.alloc (.cells #[] 3)).heap.size = w.heap.size + 1 := by simp
    rw [hz] at this
    exact this
  have Hacc := Lib.hid hst
  have Hbk := Lib.hid hbk
  have Hv := Lib.hid hv
  clear hst hv hbk
  go_enter Try.func73, Try.ntmps73
  go_wp2
  go_loopw [5, 7] (fun v i wr => ∃ k : Nat, k ≤ l.length ∧ i = .int .i64 k ∧ Acc IntR.enc 1 3 w (marksGo b (-1) (l.take k)) v wr ∧ Blk wr (w.heap.size + 1) 74 #[.int .i64 b, .int .i64 (topT (-1) (l.take k))]) (fun _ i _ => l.length - (intOf i).toNat)
  case atStart => exact ⟨0, Nat.zero_le _, rfl, by simpa [marksGo] using Hacc.out, by simpa [topT] using Hbk.out⟩
  case round =>
    obtain ⟨k, hk, rfl, hacc, hbk⟩ := hrel
    clear Hacc Hbk
    have Hacc := Lib.hid hacc
    have Hbk := Lib.hid hbk
    have hbw := hacc.2
    clear hacc hbk
    by_cases hkl : k < l.length
    · obtain ⟨b', off, rfl, hbl, q0, q1, q2⟩ := (ha.keep hbw).atEvent hkl
      have hx := List.getElem?_eq_getElem hkl
      obtain ⟨x0, x1, x2, x3, x4, x5⟩ := ev_bounds Hv.out hx
      obtain ⟨t0, t1⟩ := top_ok Hv.out k
      have tn := top_next hx
      have mn := marks_next (b := b) hx
      generalize l[k] = x at *
      generalize topT (-1) (l.take k) = g at *
      have Hx := Lib.hid hx
      have Htn := Lib.hid tn
      have Hmn := Lib.hid mn
      obtain ⟨m0, m1, mf, ml⟩ := blk2 (show wr.heap[w.heap.size + 1]? = _ from Hbk.out)
      clear hx ha tn mn
      have hmx : mx g x.a0 = mx g x.a0 := rfl
      clear hmx
      by_cases hgx : g < x.a0
      · have hm : mx g x.a0 = x.a0 := by unfold mx; rw [if_pos hgx]
        rw [hm] at Htn Hmn
        clear hm
        go_wp2_with fail
        go_region
        go_wp2_with fail
        refine (specMT_any b (x.a0) _ b0 b1 (by omega) (by omega)).mono ?_
        rintro e w2 ⟨rfl, hb2⟩
        have hown := Hacc.out.1
        have hne := own_ne hown Hbk.out (by decide)
        have hW : Below w.heap.size w (wr.setCell ⟨w.heap.size + 1, 1, none⟩ (.int .i64 (x.a0))).drew := (hbw.setCell (by simp) _).drew
        have hbk1 : Blk (wr.setCell ⟨w.heap.size + 1, 1, none⟩ (.int .i64 (x.a0))).drew (w.heap.size + 1) 74 #[.int .i64 b, .int .i64 (x.a0)] := blk_set Hbk.out 1 (.int .i64 (x.a0))
        have hbk2 := blk_below hbk1 hb2
        have hacc2 : Acc IntR.enc 1 3 w (marksGo b (-1) (l.take k)) u5 w2 := acc_keep ⟨(own_set hown hne 1 _).drew, hW⟩ hb2
        have Hacc2 := Lib.hid hacc2
        have Hbk2 := Lib.hid hbk2
        have hlen := marksGo_len b (-1) (l.take k)
        rw [List.length_take] at hlen
        have Hlen := Lib.hid hlen
        have hown2 := hacc2.1
        clear hb2 hW hbk1 hbk2 hne hown hacc2 hbw Hacc Hbk m0 m1 mf hlen q0 q1 q2
        go_wp2_with (first | (at_builtin; refine wpList_append_own _ rfl _ _ 47 rfl w.heap.size 3 i0 _ 1 8 Try.underlying47 hi0 hz0 hz1 hz2 rfl (by decide) _ _ _ rfl (hown2.alloc _) ⟨w2.heap.size, 0, none⟩ 1 1 (IntR.enc (wm b (x.a0))) rfl rfl ?c1 ?c2 ?c3 ?c4 ?c5 ?_) | go_in)
        case c1 =>
          intro j u hu
          rcases j with _ | j <;> simp [IntR.enc] at hu <;> subst hu <;> simp [Addr.add, go_sem]
        case c2 => intro u hu; simp [IntR.enc] at hu; subst hu; rfl
        case c3 => have := Hlen.out; unfold maxLen; omega
        case c4 => have := Hlen.out; omega
        case c5 => have := Hacc2.out.2.size; simp; omega
        intro v' w3 hown' hg' _
        have hnext := acc_push Hacc2.out ((Below.refl _ _).alloc (Nat.le_refl _) _) hown' hg'
        rw [← Hmn.out] at hnext
        have hbk3 := blk_gb (blk_below Hbk2.out ((Below.refl _ _).alloc (Nat.le_refl _) (.cells #[.int .i64 (wm b (x.a0))] 3))) hg' (own_ne hown2 Hbk2.out (by decide))
        rw [← Htn.out] at hbk3
        have Hn := Lib.hid hnext
        have Hn2 := Lib.hid hbk3
        clear hnext hown' hg' hown2 hbk3 Hacc2 Hbk2 Hmn Htn
        go_wp2
        go_roundw
        case rel => exact ⟨k + 1, by omega, by go_num, Hn.out, Hn2.out⟩
        case measure => simp [intOf]; omega
      · have hm : mx g x.a0 = g := by unfold mx; rw [if_neg hgx]
        rw [hm] at Htn Hmn
        clear hm
        go_wp2_with fail
        go_region
        go_wp2_with fail
        refine (specMT_any b (g) _ b0 b1 (by omega) (by omega)).mono ?_
        rintro e w2 ⟨rfl, hb2⟩
        have hown := Hacc.out.1
        have hne := own_ne hown Hbk.out (by decide)
        have hW : Below w.heap.size w (wr.setCell ⟨w.heap.size + 1, 1, none⟩ (.int .i64 (g))).drew := (hbw.setCell (by simp) _).drew
        have hbk1 : Blk (wr.setCell ⟨w.heap.size + 1, 1, none⟩ (.int .i64 (g))).drew (w.heap.size + 1) 74 #[.int .i64 b, .int .i64 (g)] := blk_set Hbk.out 1 (.int .i64 (g))
        have hbk2 := blk_below hbk1 hb2
        have hacc2 : Acc IntR.enc 1 3 w (marksGo b (-1) (l.take k)) u5 w2 := acc_keep ⟨(own_set hown hne 1 _).drew, hW⟩ hb2
        have Hacc2 := Lib.hid hacc2
        have Hbk2 := Lib.hid hbk2
        have hlen := marksGo_len b (-1) (l.take k)
        rw [List.length_take] at hlen
        have Hlen := Lib.hid hlen
        have hown2 := hacc2.1
        clear hb2 hW hbk1 hbk2 hne hown hacc2 hbw Hacc Hbk m0 m1 mf hlen q0 q1 q2
        go_wp2_with (first | (at_builtin; refine wpList_append_own _ rfl _ _ 47 rfl w.heap.size 3 i0 _ 1 8 Try.underlying47 hi0 hz0 hz1 hz2 rfl (by decide) _ _ _ rfl (hown2.alloc _) ⟨w2.heap.size, 0, none⟩ 1 1 (IntR.enc (wm b (g))) rfl rfl ?d1 ?d2 ?d3 ?d4 ?d5 ?_) | go_in)
        case d1 =>
          intro j u hu
          rcases j with _ | j <;> simp [IntR.enc] at hu <;> subst hu <;> simp [Addr.add, go_sem]
        case d2 => intro u hu; simp [IntR.enc] at hu; subst hu; rfl
        case d3 => have := Hlen.out; unfold maxLen; omega
        case d4 => have := Hlen.out; omega
        case d5 => have := Hacc2.out.2.size; simp; omega
        intro v' w3 hown' hg' _
        have hnext := acc_push Hacc2.out ((Below.refl _ _).alloc (Nat.le_refl _) _) hown' hg'
        rw [← Hmn.out] at hnext
        have hbk3 := blk_gb (blk_below Hbk2.out ((Below.refl _ _).alloc (Nat.le_refl _) (.cells #[.int .i64 (wm b (g))] 3))) hg' (own_ne hown2 Hbk2.out (by decide))
        rw [← Htn.out] at hbk3
        have Hn := Lib.hid hnext
        have Hn2 := Lib.hid hbk3
        clear hnext hown' hg' hown2 hbk3 Hacc2 Hbk2 Hmn Htn
        go_wp2
        go_roundw
        case rel => exact ⟨k + 1, by omega, by go_num, Hn.out, Hn2.out⟩
        case measure => simp [intOf]; omega
    · have hkl : l.take k = l := List.take_of_length_le (by omega)
      have hfin := Hacc.out
      rw [hkl] at hfin
      have Hfin := Lib.hid hfin
      have hlen := marksGo_len b (-1) l
      have Hlen := Lib.hid hlen
      clear hfin hkl Hacc hlen
      go_wp2
      all_goals go_returns
      all_goals exact acc_post Hfin.out (by rw [Hlen.out]; omega)
end Go.Proofs.Ytehedhkadjidpaa
