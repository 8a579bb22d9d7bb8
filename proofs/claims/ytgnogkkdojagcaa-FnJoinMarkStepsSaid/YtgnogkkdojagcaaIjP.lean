import Derived.Test.YtgnogkkdojagcaaIjS
import Derived.Test.YtgnogkkdojagcaaInR
namespace Go.Proofs.Ytgnogkkdojagcaa
open Go.RowKit
/-- The box of an event at block g. -/
def Box3 (w : World) (g : Nat) (x : EventR) : Prop := w.cell? ⟨g, 0, none⟩ = some (.int .i64 x.a0) ∧ w.cell? ⟨g, 1, none⟩ = some (.int .i64 x.a1) ∧ w.cell? ⟨g, 2, none⟩ = some (.int .i64 x.a2) ∧ g < w.heap.size
theorem Box3.keep {w w' : World} {g : Nat} {x : EventR} (h : Box3 w g x) (hb : Below w.heap.size w w') : Box3 w' g x :=
  ⟨(hb.cell h.2.2.2).trans h.1, (hb.cell h.2.2.2).trans h.2.1, (hb.cell h.2.2.2).trans h.2.2.1, Nat.lt_of_lt_of_le h.2.2.2 hb.size⟩
theorem Box3.far {w w' : World} {g : Nat} {x : EventR} {v : Value} (h : Box3 w g x) (hg : w.grownBy w' v.ownBlock) (hne : ∀ g', v.ownBlock = some g' → g' ≠ g) : Box3 w' g x :=
  ⟨far_cell hg hne h.2.2.2 h.1, far_cell hg hne h.2.2.2 h.2.1, far_cell hg hne h.2.2.2 h.2.2.1, Nat.lt_of_lt_of_le h.2.2.2 hg.size⟩
set_option maxRecDepth 100000 in
set_option maxHeartbeats 8000000 in
theorem implPairs_any (A : Option Addr) (c : Nat) (l : List EventR) (B : Option Addr) (d : Nat) (r : List EventR) (low high : Int) (w : World) (ha : Row EventR.enc 3 w A l) (hr : Row EventR.enc 3 w B r) (hvl : vEvs l = true) (hvr : vEvs r = true) :
    Calls Try.prog 37 #[.agg #[.int .i64 low, .int .i64 high], .slice A l.length c, .slice B r.length d] w (OwnPost PairR.enc 6 44 w (l.flatMap (prs low high r))) := by
  have hal := ha.1
  have hrl := hr.1
  obtain ⟨i0, hi0, hz0, hz1, hz2⟩ := info_parts PairR.zero_info
  have hBA : Below w.heap.size w (w.alloc (.cells #[.int .i64 low, .int .i64 high] 66)) := (Below.refl _ _).alloc (Nat.le_refl _) _
  have hAz : w.heap.size < (w.alloc (.cells #[.int .i64 low, .int .i64 high] 66)).heap.size := by simp
  have n0 : (w.alloc (.cells #[.int .i64 low, .int .i64 high] 66)).cell? ⟨w.heap.size, 0, none⟩ = some (.int .i64 low) := by simp [go_sem]
  have n1 : (w.alloc (.cells #[.int .i64 low, .int .i64 high] 66)).cell? ⟨w.heap.size, 1, none⟩ = some (.int .i64 high) := by simp [go_sem]
  have Hv := Lib.hid hvl
  have Hr := Lib.hid hvr
  have hl40 := ev_len hvl
  have hr40 := ev_len hvr
  clear hvl hvr
  go_enter Try.func37, Try.ntmps37
  go_wp2
  generalize w.alloc (.cells #[.int .i64 low, .int .i64 high] 66) = wA at *
  have HN := Lib.hid (show _ ∧ _ from ⟨n0, n1⟩)
  clear n0 n1
  have Hacc2 := Lib.hid (acc_none PairR.enc 6 44 (Below.refl wA.heap.size wA))
  go_loopw [7, 14] (fun v i wr => ∃ k : Nat, k ≤ l.length ∧ i = .int .i64 k ∧ Acc PairR.enc 6 44 wA ((l.take k).flatMap (prs low high r)) v wr) (fun _ i _ => l.length - (intOf i).toNat)
  case atStart => exact ⟨0, Nat.zero_le _, rfl, by simpa using Hacc2.out⟩
  case round =>
    clear Hacc2
    obtain ⟨k, hk, rfl, hacc⟩ := hrel
    have Hacc := Lib.hid hacc
    have hbA := hacc.2
    have hbw := hBA.trans (hacc.2.mono hBA.size)
    have hlt0 := hacc.1.lt
    clear hacc
    by_cases hlt : k < l.length
    · have hx := List.getElem?_eq_getElem hlt
      obtain ⟨x0, x1, x2, x3, x4, x5⟩ := ev_bd Hv.out hx
      obtain ⟨b, off, rfl, hb0, qw0, qw1, qw2⟩ := ha.atEvent hlt
      generalize hxl : l[k] = x at *
      have q0 := (hbw.cell hb0).trans qw0
      have q1 := (hbw.cell hb0).trans qw1
      have q2 := (hbw.cell hb0).trans qw2
      have Hx := Lib.hid hx
      have Hk := Lib.hid (ij_next (low := low) (high := high) (r := r) hx)
      have hbd := ij_bd (low := low) (high := high) (k := k) hl40 hr40
      clear hx hxl qw0 qw1 qw2
      obtain ⟨wo, rfl⟩ : ∃ wo : World, wo = wr := ⟨_, rfl⟩
      generalize (l.take k).flatMap (prs low high r) = L at *
      have hbv : Below wo.heap.size wo (wo.alloc (.cells #[.int .i64 x.a0, .int .i64 x.a1, .int .i64 x.a2] 42)) := (Below.refl _ _).alloc (Nat.le_refl _) _
      have hbox : Box3 (wo.alloc (.cells #[.int .i64 x.a0, .int .i64 x.a1, .int .i64 x.a2] 42)) wo.heap.size x := ⟨by simp [go_sem], by simp [go_sem], by simp [go_sem], by simp⟩
      have Hst := Lib.hid (show _ ∧ _ ∧ _ from ⟨acc_keep Hacc.out hbv, hbox, fun g' (h : _ = some g') => (show g' ≠ wo.heap.size by have := (hlt0 g' h).2; omega)⟩)
      clear hbv hbox Hacc hlt0
      go_wp2
      go_loopw [7, 20] (fun v i wr => ∃ j : Nat, j ≤ r.length ∧ i = .int .i64 j ∧ Acc PairR.enc 6 44 wA (L ++ (r.take j).filterMap (pr low high x)) v wr ∧ Box3 wr wo.heap.size x ∧ (∀ g', v.ownBlock = some g' → g' ≠ wo.heap.size)) (fun _ i _ => r.length - (intOf i).toNat)
      case atStart => exact ⟨0, Nat.zero_le _, rfl, by simpa using Hst.out⟩
      case round =>
        clear Hst hbw hbA q0 q1 q2
        obtain ⟨j, hj, rfl, hacc, hbox, hne⟩ := hrel
        have Hacc := Lib.hid hacc
        have hbA := hacc.2
        have hbw := hBA.trans (hacc.2.mono hBA.size)
        have hlt0 := hacc.1.lt
        have HB := Lib.hid (show _ ∧ _ from ⟨hbox, hne⟩)
        clear hacc hne
        by_cases hjt : j < r.length
        · obtain ⟨b2, off2, rfl, hb20, rw0, rw1, rw2⟩ := hr.atEvent hjt
          have hy := List.getElem?_eq_getElem hjt
          obtain ⟨y0, y1, y2, y3, y4, y5⟩ := ev_bd Hr.out hy
          generalize hyl : r[j] = y at *
          have r0 := (hbw.cell hb20).trans rw0
          have r1 := (hbw.cell hb20).trans rw1
          have r2 := (hbw.cell hb20).trans rw2
          have Hy := Lib.hid hy
          have hl2 := fmap_len (pr low high x) r j
          have hll : (L ++ (r.take j).filterMap (pr low high x)).length ≤ 1640 := by rw [List.length_append]; omega
          have hbz := hbox.2.2.2
          have hzA := hbA.size
          have hbv : Below wr.heap.size wr (wr.alloc (.cells #[.int .i64 y.a0, .int .i64 y.a1, .int .i64 y.a2] 42)) := (Below.refl _ _).alloc (Nat.le_refl _) _
          have hboxy : Box3 (wr.alloc (.cells #[.int .i64 y.a0, .int .i64 y.a1, .int .i64 y.a2] 42)) wr.heap.size y := ⟨by simp [go_sem], by simp [go_sem], by simp [go_sem], by simp⟩
          have hboxx := hbox.keep hbv
          have hm0 : (wr.alloc (.cells #[.int .i64 y.a0, .int .i64 y.a1, .int .i64 y.a2] 42)).cell? ⟨w.heap.size, 0, none⟩ = some (.int .i64 low) := (hbv.cell (by show w.heap.size < wr.heap.size; omega)).trans ((hbA.cell hAz).trans HN.out.1)
          have hm1 : (wr.alloc (.cells #[.int .i64 y.a0, .int .i64 y.a1, .int .i64 y.a2] 42)).cell? ⟨w.heap.size, 1, none⟩ = some (.int .i64 high) := (hbv.cell (by show w.heap.size < wr.heap.size; omega)).trans ((hbA.cell hAz).trans HN.out.2)
          have hacc5 := acc_keep Hacc.out hbv
          have hz5 := hbv.size
          have hg5 : wr.heap.size ≠ wo.heap.size := by omega
          clear hy hyl rw0 rw1 rw2 hbox Hacc
          obtain ⟨e0, e1, e2, e3⟩ := hboxx
          obtain ⟨f0, f1, f2, f3⟩ := hboxy
          rcases Bool.eq_false_or_eq_true (pairB low high x y) with hp | hp
          · have Hs := Lib.hid (pr_next (L := L) Hy.out hp)
            have hp' : pairP low high x y := of_decide_eq_true hp
            obtain ⟨p1, p2, p3⟩ := hp'
            have e4 : (x.a1 == y.a1) = true := by simp [p1]
            have HX := Lib.hid (show Box3 _ _ _ ∧ Box3 _ _ _ from ⟨(⟨e0, e1, e2, e3⟩ : Box3 _ _ x), (⟨f0, f1, f2, f3⟩ : Box3 _ _ y)⟩)
            clear hp p1
            go_wp2_with fail
            generalize wr.alloc (.cells #[.int .i64 y.a0, .int .i64 y.a1, .int .i64 y.a2] 42) = w5 at *
            refine (inRI_t _ _ _ _ p2 p3).mono ?_
            rintro e w' ⟨rfl, rfl⟩
            have hown := hacc5.1
            have Hacc5 := Lib.hid hacc5
            have hz5' := hacc5.2.size
            clear hacc5
            generalize hLL : L ++ (r.take j).filterMap (pr low high x) = LL at *
            go_wp2_with (first | (at_builtin; refine wpList_append_own_at _ rfl _ _ 37 rfl wA.heap.size 44 i0 _ 6 48 Try.underlying37 hi0 hz0 hz1 hz2 rfl (by decide) _ _ _ rfl (hown.alloc _) ⟨w5.heap.size, 0, none⟩ 1 1 (PairR.enc (mkPair x y)) rfl rfl ?c1 ?c2 ?c3 ?c4 ?c5 ?_) | go_in)
            case c1 =>
              intro j u hu
              rcases j with _ | _ | _ | _ | _ | _ | j <;> simp [PairR.enc, mkPair] at hu <;> subst hu <;> simp [Addr.add, go_sem]
            case c2 => intro u hu; simp [PairR.enc, mkPair] at hu; rcases hu with rfl | rfl | rfl | rfl | rfl | rfl <;> rfl
            case c3 => unfold maxLen; omega
            case c4 => omega
            case c5 => first | omega | (simp; done) | (simp; omega)
            intro v' w6 hown' hg' _ hat
            have hnext := acc_push (x := mkPair x y) Hacc5.out ((Below.refl _ _).alloc (Nat.le_refl _) _) hown' hg'
            have hbox6 := (HX.out.1.keep ((Below.refl _ _).alloc (Nat.le_refl _) (.cells #[.int .i64 x.a0, .int .i64 x.a1, .int .i64 x.a2, .int .i64 y.a0, .int .i64 y.a1, .int .i64 y.a2] 44))).far hg' HB.out.2
            have hne6 := far_blk hat HB.out.2 (by first | omega | (simp; omega))
            have Hn := Lib.hid (show Acc PairR.enc 6 44 wA (L ++ (r.take (j + 1)).filterMap (pr low high x)) v' w6 ∧ Box3 w6 wo.heap.size x ∧ _ from ⟨by rw [Hs.out]; exact hnext, hbox6, hne6⟩)
            clear hnext hown' hg' hown Hacc5 Hs hat hLL hbox6 hne6 HX
            go_wp2
            go_roundw
            case rel => exact ⟨j + 1, by omega, by go_num, Hn.out⟩
            case measure => simp [intOf]; omega
          · have Hs := Lib.hid (pr_skip (L := L) Hy.out hp)
            have hp' : ¬ pairP low high x y := of_decide_eq_false hp
            have Hn := Lib.hid (show Acc PairR.enc 6 44 wA (L ++ (r.take (j + 1)).filterMap (pr low high x)) _ _ ∧ Box3 _ wo.heap.size x ∧ _ from ⟨by rw [Hs.out]; exact hacc5, (⟨e0, e1, e2, e3⟩ : Box3 _ _ x), HB.out.2⟩)
            clear hacc5 hp
            by_cases p1 : x.a1 = y.a1
            · have e4 : (x.a1 == y.a1) = true := by simp [p1]
              have hq : ¬ (low ≤ y.a0 - x.a0 ∧ y.a0 - x.a0 ≤ high) := fun h => hp' ⟨p1, h⟩
              have Hq := Lib.hid hq
              clear hp' p1 hq
              go_wp2_with fail
              generalize wr.alloc (.cells #[.int .i64 y.a0, .int .i64 y.a1, .int .i64 y.a2] 42) = w5 at *
              refine (inRI_f _ _ _ _ Hq.out).mono ?_
              rintro e w' ⟨rfl, rfl⟩
              go_wp2
              go_roundw
              case rel => exact ⟨j + 1, by omega, by go_num, Hn.out⟩
              case measure => simp [intOf]; omega
            · have e4 : (x.a1 == y.a1) = false := by simp [p1]
              clear hp' p1
              go_wp2
              go_roundw
              case rel => exact ⟨j + 1, by omega, by go_num, Hn.out⟩
              case measure => simp [intOf]; omega
        · have hjl : r.take j = r := List.take_of_length_le (by omega)
          have hfin := Hacc.out
          rw [hjl] at hfin
          have Hfin := Lib.hid (show Acc PairR.enc 6 44 wA ((l.take (k + 1)).flatMap (prs low high r)) _ _ by rw [Hk.out]; exact hfin)
          clear hfin hjl Hacc hbox
          go_wp2
          go_roundw
          case rel => exact ⟨k + 1, by omega, by go_num, Hfin.out⟩
          case measure => simp [intOf]; omega
    · have hkl : l.take k = l := List.take_of_length_le (by omega)
      have hfin := Hacc.out
      rw [hkl] at hfin
      have hl1 := ij_bd (low := low) (high := high) (k := k) hl40 hr40
      rw [hkl] at hl1
      have Hfin := Lib.hid (acc_up hfin hBA)
      clear hfin hkl Hacc
      go_wp2
      all_goals go_returns
      all_goals exact acc_post Hfin.out (by omega)
end Go.Proofs.Ytgnogkkdojagcaa
