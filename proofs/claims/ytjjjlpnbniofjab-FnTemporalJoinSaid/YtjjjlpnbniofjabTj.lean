import Derived.Test.YtjjjlpnbniofjabVaI
import Derived.Test.YtjjjlpnbniofjabEv
import Derived.Test.YtjjjlpnbniofjabApp
import Derived.Deep.RegionHeld3
import Derived.Deep.AppendLies
namespace Go.Proofs.Ytjjjlpnbniofjab
open Go.RowKit
def tjE (t : List VersionR) (e : EventR) : Option EventR := if valK t e.a1 e.a0 = true then some ⟨e.a0, e.a1, valV t e.a1 e.a0⟩ else none
def tjP (l : List EventR) (t : List VersionR) : Prop := vEvs l = true ∧ vVers t = true
instance (l : List EventR) (t : List VersionR) : Decidable (tjP l t) := by unfold tjP; infer_instance
def tjF (l : List EventR) (t : List VersionR) : List EventR := if tjP l t then l.filterMap (tjE t) else []
theorem tj_none {t : List VersionR} {e : EventR} (h : verI t e.a1 e.a0 = -1) : tjE t e = none := by
  unfold tjE; rw [(val_none h).2]; simp
theorem tj_some {t : List VersionR} {e : EventR} {j : Nat} {x : VersionR} (h : verI t e.a1 e.a0 = j) (hx : t[j]? = some x) : tjE t e = some ⟨e.a0, e.a1, x.a2⟩ := by
  unfold tjE; rw [(val_some h hx).2, (val_some h hx).1]; simp
theorem ev_len {l : List EventR} (hv : vEvs l = true) : l.length ≤ 40 := by
  unfold vEvs at hv
  rw [Bool.and_eq_true] at hv
  exact of_decide_eq_true hv.1
theorem ev_bd {l : List EventR} (hv : vEvs l = true) {k : Nat} {x : EventR} (hx : l[k]? = some x) : 0 ≤ x.a0 ∧ x.a0 ≤ 999 ∧ 0 ≤ x.a1 ∧ x.a1 ≤ 15 ∧ 0 ≤ x.a2 ∧ x.a2 ≤ 99 := by
  unfold vEvs at hv
  rw [Bool.and_eq_true, List.all_eq_true] at hv
  have := hv.2 x (List.mem_of_getElem? hx)
  unfold vEvB at this
  exact of_decide_eq_true this
set_option maxRecDepth 100000 in
set_option maxHeartbeats 4000000 in
theorem specTj_any (A : Option Addr) (c : Nat) (l : List EventR) (At : Option Addr) (ct : Nat) (t : List VersionR) (w : World) (ha : Row EventR.enc 3 w A l) (ht : Row VersionR.enc 3 w At t) :
    Calls Try.prog 38 #[.slice A l.length c, .slice At t.length ct] w (OwnPost EventR.enc 3 55 w (tjF l t)) := by
  have hal := ha.1
  have htl := ht.1
  obtain ⟨i0, hi0, hz0, hz1, hz2⟩ := info_parts EventR.zero_info
  have hB0 : Below w.heap.size w (w.alloc (.cells #[] 55)) := (Below.refl _ _).alloc (Nat.le_refl _) _
  have Hst := Lib.hid (acc_made EventR.enc 3 55 (Below.refl w.heap.size w))
  go_enter Try.func38, Try.ntmps38
  go_wp2_with fail
  refine (specValidEvents_any A c l _ (ha.keep hB0)).mono ?_
  rintro e w1 ⟨rfl, hb1⟩
  have hbw1 := hB0.trans (hb1.mono hB0.size)
  have Hacc1 := Lib.hid (acc_keep Hst.out hb1)
  clear hB0 hb1 Hst
  by_cases hv : tjP l t
  · have HF := Lib.hid (show tjF l t = l.filterMap (tjE t) by unfold tjF; rw [if_pos hv])
    obtain ⟨hv1, hv2⟩ := hv
    have Hv := Lib.hid hv1
    have Hvt := Lib.hid hv2
    rw [hv1]
    clear hv1 hv2
    go_wp2_with fail
    refine (specVers_any At ct t _ (ht.keep hbw1)).mono ?_
    rintro e w2 ⟨rfl, hb2⟩
    rw [Hvt.out]
    have Hacc2 := Lib.hid (acc_keep Hacc1.out hb2)
    clear hb2 Hacc1 hbw1
    go_wp2
    go_loopw [5, 6] (fun v i wr => ∃ k : Nat, k ≤ l.length ∧ i = .int .i64 k ∧ Acc EventR.enc 3 55 w ((l.take k).filterMap (tjE t)) v wr) (fun _ i _ => l.length - (intOf i).toNat)
    case atStart => exact ⟨0, Nat.zero_le _, rfl, by simpa using Hacc2.out⟩
    case round =>
      clear Hacc2
      obtain ⟨k, hk, rfl, hacc⟩ := hrel
      have Hacc := Lib.hid hacc
      have hbw := hacc.2
      clear hacc
      by_cases hlt : k < l.length
      · obtain ⟨b, off, rfl, hb0, qw0, qw1, qw2⟩ := ha.atEvent hlt
        have hx := List.getElem?_eq_getElem hlt
        have hbd := ev_bd Hv.out hx
        have hl40 := ev_len Hv.out
        obtain ⟨x0, x1, x2, x3, x4, x5⟩ := hbd
        generalize hxl : l[k] = x at *
        have q0 := (hbw.cell hb0).trans qw0
        have q1 := (hbw.cell hb0).trans qw1
        have q2 := (hbw.cell hb0).trans qw2
        have hblt : b < wr.heap.size := by have := hbw.size; omega
        have Hx := Lib.hid hx
        have Hxl := Lib.hid hxl
        have hl1 := fmap_len (tjE t) l k
        have hzz := hbw.size
        have i0' : (0 : Int) ≤ (k : Int) := by omega
        have i1' : (k : Int) < (l.length : Int) := by omega
        clear hx hxl
        have Q0 := Bw.cellOf hblt q0
        have Q1 := Bw.cellOf hblt q1
        have Q2 := Bw.cellOf hblt q2
        have hrow : ∀ p : Bw wr, Row VersionR.enc 3 p.w' At t := fun p => (ht.keep hbw).keep p.h
        go_wp2_with fail
        refine wp_region_quiet_below (by kernel_rfl) (by kernel_rfl) ?_
        repeat (any_goals (go_big_quiet_step (first | (go_at_call 77; refine Calls.below_same (specVAt_any _ _ t x.a1 x.a0 _ (hrow _))))))
        refine wpQuiet_nil ?_
        intro w4 hb4
        have hacc4 := acc_keep Hacc.out hb4
        rcases ver_bdI t x.a1 x.a0 with hn | ⟨j, y, hn, hy, hj⟩
        · have Hk := Lib.hid (fmap_skip Hx.out (tj_none hn))
          rw [hn]
          have hnext := hacc4
          rw [← Hk.out] at hnext
          have Hn := Lib.hid hnext
          clear hn hnext Hacc Hk hacc4
          go_wp2
          go_roundw
          case rel => exact ⟨k + 1, by omega, by go_num, Hn.out⟩
          case measure => simp [intOf]; omega
        · have Hk := Lib.hid (fmap_next Hx.out (tj_some hn hy))
          rw [hn]
          have j0 : (0 : Int) ≤ (j : Int) := by omega
          have j1 : (j : Int) < (t.length : Int) := by omega
          have hbw4 := hacc4.2
          have hz4 := hacc4.2.size
          obtain ⟨bt, offt, rfl, hbt0, uw0, uw1, uw2⟩ := ht.atVersion hj
          have hyl : t[j] = y := (List.getElem?_eq_some_iff.1 hy).2
          rw [hyl] at uw0 uw1 uw2
          have p0 := (hbw4.cell hb0).trans qw0
          have p1 := (hbw4.cell hb0).trans qw1
          have u2 := (hbw4.cell hbt0).trans uw2
          have Hacc4 := Lib.hid hacc4
          clear hn hy hyl hacc4 hb4 Q0 Q1 Q2 hrow q0 q1 q2
          go_wp2_with fail
          go_region_held3 (fun w' => w'.cell? ⟨b, off + k * 3, none⟩ = some (.int .i64 x.a0) ∧ w'.cell? ⟨b, off + k * 3 + 1, none⟩ = some (.int .i64 x.a1) ∧ w'.cell? ⟨bt, offt + j * 3 + 2, none⟩ = some (.int .i64 y.a2) ∧ Below w.heap.size w w') (((repeat' apply And.intro) <;> first | assumption | (simp only [World.cell?_drew]; assumption) | (exact hacc6.2) | (exact (hacc6.2.cell hb0).trans qw0) | (exact (hacc6.2.cell hb0).trans qw1) | (exact (hacc6.2.cell hbt0).trans uw2) | (simp only [World.cell?_drew, World.cell?_alloc_lt, *]; done) | (go_keep; done) | (refine Below.drew (Below.alloc ?_ ?_ _) <;> assumption) | (refine Below.alloc (Below.drew ?_) ?_ _ <;> assumption) | (refine Below.drew ?_; assumption))) ((refine step_append_acc (by rfl) _ _ 49 (by rfl) i0 _ 24 Try.underlying49 hi0 hz0 hz1 hz2 (by rfl) (by decide) (by decide) _ _ (by rfl) (acc_keep Hacc4.out (((Below.refl _ _).alloc (Nat.le_refl _) _).drew)) _ _ (⟨x.a0, x.a1, y.a2⟩ : EventR) (by rfl) (World.news_of_block (heap_alloc_new _ _)) rfl (by intro u hu; simp [EventR.enc] at hu; rcases hu with rfl | rfl | rfl <;> rfl) (by omega) ?_; intro v' w6 hacc6 hg6 hat6))
          rw [← Hk.out] at hacc6
          have Hn := Lib.hid hacc6
          clear hacc6 hg6 hat6 Hacc Hacc4 Hk
          go_wp2
          go_roundw
          case rel => exact ⟨k + 1, by omega, by go_num, Hn.out⟩
          case measure => simp [intOf]; omega
      · have hkl : l.take k = l := List.take_of_length_le (by omega)
        have hfin := Hacc.out
        rw [hkl] at hfin
        have hl1 := List.length_filterMap_le (tjE t) l
        have Hfin := Lib.hid hfin
        clear hfin hkl Hacc
        go_wp2
        all_goals go_returns
        all_goals (rw [HF.out]; exact acc_post Hfin.out (by omega))
  · have HF := Lib.hid (show tjF l t = [] by unfold tjF; rw [if_neg hv])
    rcases Bool.eq_false_or_eq_true (vEvs l) with h1 | h1
    · have h2 : vVers t = false := by rw [Bool.eq_false_iff]; exact fun h => hv ⟨h1, h⟩
      rw [h1]
      clear hv h1
      go_wp2_with fail
      refine (specVers_any At ct t _ (ht.keep hbw1)).mono ?_
      rintro e w2 ⟨rfl, hb2⟩
      rw [h2]
      have hbw2 := hbw1.trans (hb2.mono hbw1.size)
      clear h2
      go_wp2
      all_goals go_returns
      all_goals (rw [HF.out]; exact acc_post (acc_none _ _ _ hbw2) (by simp))
    · rw [h1]
      clear hv h1
      go_wp2
      all_goals go_returns
      all_goals (rw [HF.out]; exact acc_post (acc_none _ _ _ hbw1) (by simp))
set_option maxRecDepth 100000 in
set_option maxHeartbeats 4000000 in
theorem implTj_any (A : Option Addr) (c : Nat) (l : List EventR) (At : Option Addr) (ct : Nat) (t : List VersionR) (w : World) (ha : Row EventR.enc 3 w A l) (ht : Row VersionR.enc 3 w At t) :
    Calls Try.prog 36 #[.slice A l.length c, .slice At t.length ct] w (OwnPost EventR.enc 3 55 w (tjF l t)) := by
  have hal := ha.1
  have htl := ht.1
  obtain ⟨i0, hi0, hz0, hz1, hz2⟩ := info_parts EventR.zero_info
  have hB0 : Below w.heap.size w w := Below.refl _ _
  have Hst := Lib.hid (acc_none EventR.enc 3 55 (Below.refl w.heap.size w))
  go_enter Try.func36, Try.ntmps36
  go_wp2_with fail
  refine (implValidEvents_any A c l _ (ha.keep hB0)).mono ?_
  rintro e w1 ⟨rfl, hb1⟩
  have hbw1 := hB0.trans (hb1.mono hB0.size)
  have Hacc1 := Lib.hid (acc_keep Hst.out hb1)
  clear hB0 hb1 Hst
  by_cases hv : tjP l t
  · have HF := Lib.hid (show tjF l t = l.filterMap (tjE t) by unfold tjF; rw [if_pos hv])
    obtain ⟨hv1, hv2⟩ := hv
    have Hv := Lib.hid hv1
    have Hvt := Lib.hid hv2
    rw [hv1]
    clear hv1 hv2
    go_wp2_with fail
    refine (implVers_any At ct t _ (ht.keep hbw1)).mono ?_
    rintro e w2 ⟨rfl, hb2⟩
    rw [Hvt.out]
    have Hacc2 := Lib.hid (acc_keep Hacc1.out hb2)
    clear hb2 Hacc1 hbw1
    go_wp2
    go_loopw [5, 20] (fun v i wr => ∃ k : Nat, k ≤ l.length ∧ i = .int .i64 k ∧ Acc EventR.enc 3 55 w ((l.take k).filterMap (tjE t)) v wr) (fun _ i _ => l.length - (intOf i).toNat)
    case atStart => exact ⟨0, Nat.zero_le _, rfl, by simpa using Hacc2.out⟩
    case round =>
      clear Hacc2
      obtain ⟨k, hk, rfl, hacc⟩ := hrel
      have Hacc := Lib.hid hacc
      have hbw := hacc.2
      clear hacc
      by_cases hlt : k < l.length
      · obtain ⟨b, off, rfl, hb0, qw0, qw1, qw2⟩ := ha.atEvent hlt
        have hx := List.getElem?_eq_getElem hlt
        have hbd := ev_bd Hv.out hx
        have hl40 := ev_len Hv.out
        obtain ⟨x0, x1, x2, x3, x4, x5⟩ := hbd
        generalize hxl : l[k] = x at *
        have q0 := (hbw.cell hb0).trans qw0
        have q1 := (hbw.cell hb0).trans qw1
        have q2 := (hbw.cell hb0).trans qw2
        have hblt : b < wr.heap.size := by have := hbw.size; omega
        have Hx := Lib.hid hx
        have Hxl := Lib.hid hxl
        have hl1 := fmap_len (tjE t) l k
        have hzz := hbw.size
        have i0' : (0 : Int) ≤ (k : Int) := by omega
        have i1' : (k : Int) < (l.length : Int) := by omega
        clear hx hxl
        have hbv : Below wr.heap.size wr (wr.alloc (.cells #[.int .i64 x.a0, .int .i64 x.a1, .int .i64 x.a2] 55)) := (Below.refl _ _).alloc (Nat.le_refl _) _
        have v0 : (wr.alloc (.cells #[.int .i64 x.a0, .int .i64 x.a1, .int .i64 x.a2] 55)).cell? ⟨wr.heap.size, 0, none⟩ = some (.int .i64 x.a0) := by simp [go_sem]
        have v1 : (wr.alloc (.cells #[.int .i64 x.a0, .int .i64 x.a1, .int .i64 x.a2] 55)).cell? ⟨wr.heap.size, 1, none⟩ = some (.int .i64 x.a1) := by simp [go_sem]
        have v2 : (wr.alloc (.cells #[.int .i64 x.a0, .int .i64 x.a1, .int .i64 x.a2] 55)).cell? ⟨wr.heap.size, 2, none⟩ = some (.int .i64 x.a2) := by simp [go_sem]
        have hzv : wr.heap.size < (wr.alloc (.cells #[.int .i64 x.a0, .int .i64 x.a1, .int .i64 x.a2] 55)).heap.size := by simp
        go_wp2_with fail
        generalize wr.alloc (.cells #[.int .i64 x.a0, .int .i64 x.a1, .int .i64 x.a2] 55) = wv at *
        have H := implVal_any At ct t x.a1 x.a0 wv (ht.keep (hbw.trans (hbv.mono hbw.size))) Hvt.out
        rcases ver_bdI t x.a1 x.a0 with hn | ⟨j, y, hn, hy, hj⟩
        · have Hk := Lib.hid (fmap_skip Hx.out (tj_none hn))
          rw [(val_none hn).1, (val_none hn).2] at H
          have H := Lib.hid H
          clear hn
          refine H.out.mono ?_
          rintro e w4 ⟨rfl, hb5⟩
          have hnext := acc_keep Hacc.out (hbv.trans (hb5.mono hbv.size))
          rw [← Hk.out] at hnext
          have Hn := Lib.hid hnext
          clear hnext Hacc Hk H
          go_wp2
          go_roundw
          case rel => exact ⟨k + 1, by omega, by go_num, Hn.out⟩
          case measure => simp [intOf]; omega
        · have Hk := Lib.hid (fmap_next Hx.out (tj_some hn hy))
          rw [(val_some hn hy).1, (val_some hn hy).2] at H
          have H := Lib.hid H
          clear hn hy
          refine H.out.mono ?_
          rintro e w4 ⟨rfl, hb5⟩
          have x0' := (hb5.cell hzv).trans v0
          have x1' := (hb5.cell hzv).trans v1
          have x2' := (hb5.cell hzv).trans v2
          have hacc4 := acc_keep Hacc.out (hbv.trans (hb5.mono hbv.size))
          have hown := hacc4.1
          have hz4 := hacc4.2.size
          have Hacc4 := Lib.hid hacc4
          clear hacc4 hb5 hbv v0 v1 v2 H
          go_wp2_with (first | (at_builtin; refine wpList_append_own _ rfl _ _ 49 rfl w.heap.size 55 i0 _ 3 24 Try.underlying49 hi0 hz0 hz1 hz2 rfl (by decide) _ _ _ rfl (hown.alloc _) ⟨w4.heap.size, 0, none⟩ 1 1 (EventR.enc (⟨x.a0, x.a1, y.a2⟩ : EventR)) rfl rfl ?c1 ?c2 ?c3 ?c4 ?c5 ?_) | go_in)
          case c1 =>
            intro j u hu
            rcases j with _ | _ | _ | j <;> simp [EventR.enc] at hu <;> subst hu <;> simp [Addr.add, go_sem]
          case c2 => intro u hu; simp [EventR.enc] at hu; rcases hu with rfl | rfl | rfl <;> rfl
          case c3 => unfold maxLen; omega
          case c4 => omega
          case c5 => first | omega | (simp; done) | (simp; omega)
          intro v' w6 hown' hg' _
          have hnext := acc_push (x := (⟨x.a0, x.a1, y.a2⟩ : EventR)) Hacc4.out ((Below.refl _ _).alloc (Nat.le_refl _) _) hown' hg'
          rw [← Hk.out] at hnext
          have Hn := Lib.hid hnext
          clear hnext hown' hg' hown Hacc Hacc4 Hk
          go_wp2
          go_roundw
          case rel => exact ⟨k + 1, by omega, by go_num, Hn.out⟩
          case measure => simp [intOf]; omega
      · have hkl : l.take k = l := List.take_of_length_le (by omega)
        have hfin := Hacc.out
        rw [hkl] at hfin
        have hl1 := List.length_filterMap_le (tjE t) l
        have Hfin := Lib.hid hfin
        clear hfin hkl Hacc
        go_wp2
        all_goals go_returns
        all_goals (rw [HF.out]; exact acc_post Hfin.out (by omega))
  · have HF := Lib.hid (show tjF l t = [] by unfold tjF; rw [if_neg hv])
    rcases Bool.eq_false_or_eq_true (vEvs l) with h1 | h1
    · have h2 : vVers t = false := by rw [Bool.eq_false_iff]; exact fun h => hv ⟨h1, h⟩
      rw [h1]
      clear hv h1
      go_wp2_with fail
      refine (implVers_any At ct t _ (ht.keep hbw1)).mono ?_
      rintro e w2 ⟨rfl, hb2⟩
      rw [h2]
      have hbw2 := hbw1.trans (hb2.mono hbw1.size)
      clear h2
      go_wp2
      all_goals go_returns
      all_goals (rw [HF.out]; exact acc_post (acc_none _ _ _ hbw2) (by simp))
    · rw [h1]
      clear hv h1
      go_wp2
      all_goals go_returns
      all_goals (rw [HF.out]; exact acc_post (acc_none _ _ _ hbw1) (by simp))
end Go.Proofs.Ytjjjlpnbniofjab
