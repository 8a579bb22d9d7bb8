import Derived.Test.YtgnogkkdojagcaaJv
namespace Go.Proofs.Ytgnogkkdojagcaa
open Go.RowKit
set_option maxRecDepth 100000 in
set_option maxHeartbeats 8000000 in
theorem specJm0_any (A : Option Addr) (c : Nat) (l : List EventR) (B : Option Addr) (d : Nat) (r : List EventR) (m : Int) (mark low high : Int) (w : World) (ha : Row EventR.enc 3 w A l) (hr : Row EventR.enc 3 w B r) (hv : vEvs l = true) (hv' : vEvs r = true) (hvr : vrB low high = true) :
    Calls Try.prog 46 #[.agg #[.slice A l.length c, .slice B r.length d, .int .i64 m], .int .i64 mark, .int .i64 low, .int .i64 high] w (JsPost w (l.filter (jmLp mark high)) (r.filter (jmLp mark (-low))) mark) := by
  have hal := ha.1
  have hrl := hr.1
  have Hv := Lib.hid hv
  have Hl := Hv
  have Hr := Lib.hid hv'
  obtain ⟨l0, l1, h0, h1⟩ := vrB_bd hvr
  clear hv hv' hvr
  obtain ⟨i0, hi0, hz0, hz1, hz2⟩ := info_parts EventR.zero_info
  have x0 := (Bx.made w (.slice A l.length c) (.slice B r.length d) (.int .i64 m) 46).keep ((Below.refl _ _).alloc (Nat.le_refl _) (.cells #[.slice none 0 0, .slice none 0 0, .int .i64 0] 46))
  have x1 := Bx.made (w.alloc (.cells #[.slice A l.length c, .slice B r.length d, .int .i64 m] 46)) (.slice none 0 0) (.slice none 0 0) (.int .i64 0) 46
  have hB : Below w.heap.size w ((w.alloc (.cells #[.slice A l.length c, .slice B r.length d, .int .i64 m] 46)).alloc (.cells #[.slice none 0 0, .slice none 0 0, .int .i64 0] 46)) := ((Below.refl _ _).alloc (Nat.le_refl _) _).alloc (by simp) _
  simp only [World.size_alloc] at x1
  have Hz := Lib.hid (show ((w.alloc (.cells #[.slice A l.length c, .slice B r.length d, .int .i64 m] 46)).alloc (.cells #[.slice none 0 0, .slice none 0 0, .int .i64 0] 46)).heap.size = w.heap.size + 2 by simp)
  have hzA : w.heap.size + 2 ≤ ((w.alloc (.cells #[.slice A l.length c, .slice B r.length d, .int .i64 m] 46)).alloc (.cells #[.slice none 0 0, .slice none 0 0, .int .i64 0] 46)).heap.size := by simp
  go_enter Try.func46, Try.ntmps46
  go_wp2
  generalize ((w.alloc (.cells #[.slice A l.length c, .slice B r.length d, .int .i64 m] 46)).alloc (.cells #[.slice none 0 0, .slice none 0 0, .int .i64 0] 46)) = wA at *
  have hB1 : Below wA.heap.size wA (wA.alloc (.cells #[] 42)) := (Below.refl _ _).alloc (Nat.le_refl _) _
  have hs1 := acc_keep (acc_made EventR.enc 3 42 (Below.refl wA.heap.size wA)) ((Below.refl _ _).alloc (Nat.le_refl _) (.cells #[] 42))
  have hs2 := acc_made EventR.enc 3 42 hB1
  have hst : Acc EventR.enc 3 42 wA [] (.slice (some ⟨wA.heap.size, 0, none⟩) 0 0) ((wA.alloc (.cells #[] 42)).alloc (.cells #[] 42)) ∧ Acc EventR.enc 3 42 wA [] (.slice (some ⟨wA.heap.size + 1, 0, none⟩) 0 0) ((wA.alloc (.cells #[] 42)).alloc (.cells #[] 42)) ∧
      (∀ g g', Value.ownBlock (.slice (some ⟨wA.heap.size, 0, none⟩) 0 0) = some g → Value.ownBlock (.slice (some ⟨wA.heap.size + 1, 0, none⟩) 0 0) = some g' → g ≠ g') :=
    ⟨hs1, by simpa using hs2, fun g g' h h' => by simp [Value.ownBlock] at h h'; omega⟩
  have Hs := Lib.hid hst
  clear hst hs1 hs2 hB1
  go_loopw [9, 11] (fun v i wr => ∃ k : Nat, k ≤ l.length ∧ i = .int .i64 k ∧ Acc EventR.enc 3 42 wA ((l.take k).filter (jmLp mark high)) v wr ∧ Acc EventR.enc 3 42 wA [] (.slice (some ⟨wA.heap.size + 1, 0, none⟩) 0 0) wr ∧ (∀ g g', v.ownBlock = some g → Value.ownBlock (.slice (some ⟨wA.heap.size + 1, 0, none⟩) 0 0) = some g' → g ≠ g')) (fun _ i _ => l.length - (intOf i).toNat)
  case atStart => exact ⟨0, Nat.zero_le _, rfl, by simpa [Hz.out] using Hs.out⟩
  case round =>
    clear Hs
    obtain ⟨k, hk, rfl, hacc⟩ := hrel
    have Hacc := Lib.hid hacc
    have hbw := hacc.1.2
    obtain ⟨p00, p01, p02, pf0, pl0⟩ := x0.keep hbw
    clear hacc pf0
    by_cases hlt : k < l.length
    · obtain ⟨b, off, rfl, _, q0, q1, q2⟩ := (ha.keep (hB.trans (hbw.mono hB.size))).atEvent hlt
      have hx := List.getElem?_eq_getElem hlt
      have hbd := ev_bd Hv.out hx
      obtain ⟨y0, y1, -, -, -, -⟩ := hbd
      generalize l[k] = x at *
      have Hx := Lib.hid hx
      have hz := hbw.size
      have hl1 := filter_len (jmLp mark high) l k
      clear hx hbw
      by_cases hp : mark < x.a0 + high
      · have Hn1 := Lib.hid (filter_next (p := jmLp mark high) (l := l) Hx.out (decide_eq_true hp))
        have hown := Hacc.out.1.1
        go_wp2_with (first | (at_builtin; refine wpList_append_own_at _ rfl _ _ 34 rfl wA.heap.size 42 i0 _ 3 24 Try.underlying34 hi0 hz0 hz1 hz2 rfl (by decide) _ _ _ rfl (hown.alloc _) ⟨wr.heap.size, 0, none⟩ 1 1 (EventR.enc x) rfl rfl ?c1 ?c2 ?c3 ?c4 ?c5 ?_) | go_in)
        case c1 =>
          intro j u hu
          rcases j with _ | _ | _ | j <;> simp [EventR.enc] at hu <;> subst hu <;> simp [Addr.add, go_sem]
        case c2 => intro u hu; simp [EventR.enc] at hu; rcases hu with rfl | rfl | rfl <;> rfl
        case c3 => unfold maxLen; omega
        case c4 => omega
        case c5 => first | omega | (simp; done) | (simp; omega)
        intro v' w2 hown' hg' _ hat
        have hnext := acc2_push Hacc.out.1 Hacc.out.2.1 Hacc.out.2.2 ((Below.refl _ _).alloc (Nat.le_refl _) _) hown' hg' (by simpa using hat)
        rw [← Hn1.out] at hnext
        have Hn := Lib.hid hnext
        clear hnext hown' hg' hown Hacc Hn1 hat
        go_wp2
        go_roundw
        case rel => exact ⟨k + 1, by omega, by go_num, Hn.out⟩
        case measure => simp [intOf]; omega
      · have Hn1 := Lib.hid (filter_skip (p := jmLp mark high) (l := l) Hx.out (decide_eq_false hp))
        have hnext := Hacc.out
        rw [← Hn1.out] at hnext
        have Hn := Lib.hid hnext
        clear hnext Hacc Hn1
        go_wp2
        go_roundw
        case rel => exact ⟨k + 1, by omega, by go_num, Hn.out⟩
        case measure => simp [intOf]; omega
    · have hkl : l.take k = l := List.take_of_length_le (by omega)
      have hfin := Hacc.out
      rw [hkl] at hfin
      have Hfin := Lib.hid hfin
      clear hfin hkl Hacc
      have hl1 := List.length_filter_le (jmLp mark high) l
      obtain ⟨A1, c1, e1⟩ := (show Own EventR.enc 3 42 wr wA.heap.size _ _ from ⟨by omega, Hfin.out.1.1⟩).form
      subst e1
      clear hl1 hbw
      go_wp2
      go_loopw [10, 12] (fun u i wr => ∃ k : Nat, k ≤ r.length ∧ i = .int .i64 k ∧ Acc EventR.enc 3 42 wA (l.filter (jmLp mark high)) (.slice A1 (l.filter (jmLp mark high)).length c1) wr ∧ Acc EventR.enc 3 42 wA ((r.take k).filter (jmLp mark (-low))) u wr ∧ (∀ g g', Value.ownBlock (.slice A1 (l.filter (jmLp mark high)).length c1) = some g → u.ownBlock = some g' → g ≠ g')) (fun _ i _ => r.length - (intOf i).toNat)
      case atStart => exact ⟨0, Nat.zero_le _, rfl, by simpa [Hz.out] using Hfin.out⟩
      case round =>
        clear Hfin
        obtain ⟨k, hk, rfl, hacc⟩ := hrel
        have Hacc := Lib.hid hacc
        have hbw := hacc.1.2
        obtain ⟨p00, p01, p02, pf0, pl0⟩ := x0.keep hbw
        clear hacc pf0
        by_cases hlt : k < r.length
        · obtain ⟨b, off, rfl, _, q0, q1, q2⟩ := (hr.keep (hB.trans (hbw.mono hB.size))).atEvent hlt
          have hx := List.getElem?_eq_getElem hlt
          have hbd := ev_bd Hr.out hx
          obtain ⟨y0, y1, -, -, -, -⟩ := hbd
          generalize r[k] = x at *
          have Hx := Lib.hid hx
          have hz := hbw.size
          have hl1 := filter_len (jmLp mark (-low)) r k
          clear hx hbw
          by_cases hp : mark < x.a0 + -low
          · have Hn1 := Lib.hid (filter_next (p := jmLp mark (-low)) (l := r) Hx.out (decide_eq_true hp))
            have hown := Hacc.out.2.1.1
            go_wp2_with (first | (at_builtin; refine wpList_append_own_at _ rfl _ _ 34 rfl wA.heap.size 42 i0 _ 3 24 Try.underlying34 hi0 hz0 hz1 hz2 rfl (by decide) _ _ _ rfl (hown.alloc _) ⟨wr.heap.size, 0, none⟩ 1 1 (EventR.enc x) rfl rfl ?c1 ?c2 ?c3 ?c4 ?c5 ?_) | go_in)
            case c1 =>
              intro j u hu
              rcases j with _ | _ | _ | j <;> simp [EventR.enc] at hu <;> subst hu <;> simp [Addr.add, go_sem]
            case c2 => intro u hu; simp [EventR.enc] at hu; rcases hu with rfl | rfl | rfl <;> rfl
            case c3 => unfold maxLen; omega
            case c4 => omega
            case c5 => first | omega | (simp; done) | (simp; omega)
            intro v' w2 hown' hg' _ hat
            have hnext := acc2_push' Hacc.out.2.1 Hacc.out.1 Hacc.out.2.2 ((Below.refl _ _).alloc (Nat.le_refl _) _) hown' hg' (by simpa using hat)
            rw [← Hn1.out] at hnext
            have Hn := Lib.hid hnext
            clear hnext hown' hg' hown Hacc Hn1 hat
            go_wp2
            go_roundw
            case rel => exact ⟨k + 1, by omega, by go_num, Hn.out.2.1, Hn.out.1, Hn.out.2.2⟩
            case measure => simp [intOf]; omega
          · have Hn1 := Lib.hid (filter_skip (p := jmLp mark (-low)) (l := r) Hx.out (decide_eq_false hp))
            have hnext := Hacc.out
            rw [← Hn1.out] at hnext
            have Hn := Lib.hid hnext
            clear hnext Hacc Hn1
            go_wp2
            go_roundw
            case rel => exact ⟨k + 1, by omega, by go_num, Hn.out⟩
            case measure => simp [intOf]; omega
        · have hkl : r.take k = r := List.take_of_length_le (by omega)
          have hfin := Hacc.out
          rw [hkl] at hfin
          have Hfin := Lib.hid hfin
          clear hfin hkl Hacc
          have hl1 := List.length_filter_le (jmLp mark high) l
          have hl2 := List.length_filter_le (jmLp mark (-low)) r
          have hl40 := ev_len Hl.out
          have hr40 := ev_len Hr.out
          obtain ⟨A2, c2, e2⟩ := (show Own EventR.enc 3 42 wr wA.heap.size _ _ from ⟨by omega, Hfin.out.2.1.1⟩).form
          subst e2
          have o1 := own_rebase (B := w.heap.size) (show Own EventR.enc 3 42 wr wA.heap.size _ _ from ⟨by omega, Hfin.out.1.1⟩) (by omega)
          have o2 := own_rebase (B := w.heap.size) (show Own EventR.enc 3 42 wr wA.heap.size _ _ from ⟨by omega, Hfin.out.2.1.1⟩) (by omega)
          have q1 : ∀ g, Value.ownBlock (.slice A1 (l.filter (jmLp mark high)).length c1) = some g → wA.heap.size ≤ g := fun g hg => (Hfin.out.1.1.lt g hg).1
          have q2 : ∀ g, Value.ownBlock (.slice A2 (r.filter (jmLp mark (-low))).length c2) = some g → wA.heap.size ≤ g := fun g hg => (Hfin.out.2.1.1.lt g hg).1
          have BW := hB.trans (hbw.mono hB.size)
          obtain ⟨p10, p11, p12, pf1, pl1⟩ := x1.keep hbw
          have z2 := hbw.size
          obtain ⟨e0, e1, e2, -, -⟩ := (((x1.keep hbw).set0 (.slice A1 (l.filter (jmLp mark high)).length c1)).set1 (.slice A2 (r.filter (jmLp mark (-low))).length c2)).set2 (.int .i64 mark)
          have o1f : Own EventR.enc 3 42 (((wr.setCell ⟨w.heap.size + 1, 0, none⟩ (.slice A1 (l.filter (jmLp mark high)).length c1)).setCell ⟨w.heap.size + 1, 1, none⟩ (.slice A2 (r.filter (jmLp mark (-low))).length c2)).setCell ⟨w.heap.size + 1, 2, none⟩ (.int .i64 mark)) w.heap.size (.slice A1 (l.filter (jmLp mark high)).length c1) (l.filter (jmLp mark high)) := by
            repeat (refine Own.set ?_ (fun g hg => by have := q1 g hg; simp; omega) _)
            exact o1
          have o2f : Own EventR.enc 3 42 (((wr.setCell ⟨w.heap.size + 1, 0, none⟩ (.slice A1 (l.filter (jmLp mark high)).length c1)).setCell ⟨w.heap.size + 1, 1, none⟩ (.slice A2 (r.filter (jmLp mark (-low))).length c2)).setCell ⟨w.heap.size + 1, 2, none⟩ (.int .i64 mark)) w.heap.size (.slice A2 (r.filter (jmLp mark (-low))).length c2) (r.filter (jmLp mark (-low))) := by
            repeat (refine Own.set ?_ (fun g hg => by have := q2 g hg; simp; omega) _)
            exact o2
          have hBf : Below w.heap.size w (((wr.setCell ⟨w.heap.size + 1, 0, none⟩ (.slice A1 (l.filter (jmLp mark high)).length c1)).setCell ⟨w.heap.size + 1, 1, none⟩ (.slice A2 (r.filter (jmLp mark (-low))).length c2)).setCell ⟨w.heap.size + 1, 2, none⟩ (.int .i64 mark)) := by
            repeat (refine Below.setCell ?_ (by simp; try omega) _)
            exact BW
          have He := Lib.hid (show _ ∧ _ ∧ _ from ⟨e0, e1, e2⟩)
          have Hd := Lib.hid Hfin.out.2.2
          clear e0 e1 e2 Hfin o1 o2 q1 q2 hbw BW
          go_wp2
          generalize (((wr.setCell ⟨w.heap.size + 1, 0, none⟩ (.slice A1 (l.filter (jmLp mark high)).length c1)).setCell ⟨w.heap.size + 1, 1, none⟩ (.slice A2 (r.filter (jmLp mark (-low))).length c2)).setCell ⟨w.heap.size + 1, 2, none⟩ (.int .i64 mark)) = wF at *
          have e := He.out
          (try simp only [Exit.inBlock, Exit.then])
          refine bodyPost_ret (by simp [results, Try.results46, go_sem, e.1, e.2.1, e.2.2]; try rfl) rfl ?_
          exact ⟨A1, c1, A2, c2, rfl, o1f, o2f, Hd.out, hBf⟩
end Go.Proofs.Ytgnogkkdojagcaa
