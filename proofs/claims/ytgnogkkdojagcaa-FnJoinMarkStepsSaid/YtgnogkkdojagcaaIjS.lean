import Derived.Test.YtgnogkkdojagcaaEv
import Derived.Test.YtgnogkkdojagcaaTyPair
import Derived.Test.YtgnogkkdojagcaaApp
import Derived.Deep.RegionHeld3
import Derived.Deep.AppendLies
namespace Go.Proofs.Ytgnogkkdojagcaa
open Go.RowKit
theorem ev_len {l : List EventR} (hv : vEvs l = true) : l.length ≤ 40 := by
  unfold vEvs at hv
  rw [Bool.and_eq_true] at hv
  exact of_decide_eq_true hv.1
theorem ev_bd {l : List EventR} (hv : vEvs l = true) {k : Nat} {x : EventR} (hx : l[k]? = some x) : 0 ≤ x.a0 ∧ x.a0 ≤ 999 ∧ 0 ≤ x.a1 ∧ x.a1 ≤ 15 ∧ 0 ≤ x.a2 ∧ x.a2 ≤ 99 := by
  unfold vEvs at hv
  rw [Bool.and_eq_true, List.all_eq_true] at hv
  have := hv.2 x (List.mem_of_getElem? hx)
  unfold vEvB at this
  exact of_decide_eq_true this
def pairP (low high : Int) (x y : EventR) : Prop := x.a1 = y.a1 ∧ low ≤ y.a0 - x.a0 ∧ y.a0 - x.a0 ≤ high
instance (low high : Int) (x y : EventR) : Decidable (pairP low high x y) := by unfold pairP; infer_instance
def pairB (low high : Int) (x y : EventR) : Bool := decide (pairP low high x y)
def mkPair (x y : EventR) : PairR := ⟨x.a0, x.a1, x.a2, y.a0, y.a1, y.a2⟩
def pr (low high : Int) (x y : EventR) : Option PairR := if pairB low high x y = true then some (mkPair x y) else none
def prs (low high : Int) (r : List EventR) (x : EventR) : List PairR := r.filterMap (pr low high x)
def vrB (low high : Int) : Bool := decide (-999 ≤ low ∧ low ≤ 999 ∧ low ≤ high ∧ high ≤ 999)
def ijP (l r : List EventR) (low high : Int) : Prop := vEvs l = true ∧ vEvs r = true ∧ vrB low high = true
instance (l r : List EventR) (low high : Int) : Decidable (ijP l r low high) := by unfold ijP; infer_instance
def ijF (l r : List EventR) (low high : Int) : List PairR := if ijP l r low high then l.flatMap (prs low high r) else []
theorem prs_len (low high : Int) (r : List EventR) (x : EventR) : (prs low high r x).length ≤ r.length := List.length_filterMap_le _ _
theorem ij_len (low high : Int) (l r : List EventR) : (l.flatMap (prs low high r)).length ≤ l.length * r.length := by
  induction l with
  | nil => simp
  | cons x l ih =>
    rw [List.flatMap_cons, List.length_append, List.length_cons, Nat.add_mul]
    have := prs_len low high r x
    omega
theorem ij_bd {low high : Int} {l r : List EventR} {k : Nat} (hl : l.length ≤ 40) (hr : r.length ≤ 40) : ((l.take k).flatMap (prs low high r)).length ≤ 1600 := by
  refine Nat.le_trans (ij_len low high (l.take k) r) ?_
  have h1 : (l.take k).length ≤ 40 := by rw [List.length_take]; omega
  exact Nat.le_trans (Nat.mul_le_mul h1 hr) (by omega)
theorem ij_next {low high : Int} {l r : List EventR} {k : Nat} {x : EventR} (hx : l[k]? = some x) : (l.take (k + 1)).flatMap (prs low high r) = (l.take k).flatMap (prs low high r) ++ prs low high r x := by
  rw [List.take_add_one, hx, List.flatMap_append]
  simp
theorem pr_next {low high : Int} {x : EventR} {L : List PairR} {r : List EventR} {j : Nat} {y : EventR} (hy : r[j]? = some y) (h : pairB low high x y = true) : L ++ (r.take (j + 1)).filterMap (pr low high x) = (L ++ (r.take j).filterMap (pr low high x)) ++ [mkPair x y] := by
  rw [fmap_next hy (show pr low high x y = some (mkPair x y) by unfold pr; rw [h]; simp), List.append_assoc]
theorem pr_skip {low high : Int} {x : EventR} {L : List PairR} {r : List EventR} {j : Nat} {y : EventR} (hy : r[j]? = some y) (h : pairB low high x y = false) : L ++ (r.take (j + 1)).filterMap (pr low high x) = L ++ (r.take j).filterMap (pr low high x) := by
  rw [fmap_skip hy (show pr low high x y = none by unfold pr; rw [h]; simp)]
theorem specVR_any (low high : Int) (w : World) : Calls Try.prog 39 #[.int .i64 low, .int .i64 high] w fun e w' => e = .returned (.bool (vrB low high)) ∧ w = w' := by
  go_enter Try.func39, Try.ntmps39
  go_wp2
  all_goals go_returns
  all_goals refine ⟨ret_bool ?_, rfl⟩
  all_goals
    unfold vrB
    first | (symm; rw [decide_eq_true_eq]; omega) | (symm; rw [decide_eq_false_iff_not]; omega) | (rw [Bool.eq_iff_iff]; simp; omega)
theorem implVR_any (low high : Int) (w : World) : Calls Try.prog 36 #[.agg #[.int .i64 low, .int .i64 high]] w fun e w' => e = .returned (.bool (vrB low high)) ∧ Below w.heap.size w w' := by
  go_enter Try.func36, Try.ntmps36
  go_wp2
  all_goals go_returns
  all_goals refine ⟨ret_bool ?_, by go_grown⟩
  all_goals
    unfold vrB
    first | (symm; rw [decide_eq_true_eq]; omega) | (symm; rw [decide_eq_false_iff_not]; omega) | (rw [Bool.eq_iff_iff]; simp; omega)
set_option maxHeartbeats 1000000 in
theorem specJoins_any (x y : EventR) (low high : Int) (w : World) (x0 : 0 ≤ x.a0) (x1 : x.a0 ≤ 999) (y0 : 0 ≤ y.a0) (y1 : y.a0 ≤ 999) : Calls Try.prog 40 #[.agg #[.int .i64 x.a0, .int .i64 x.a1, .int .i64 x.a2], .agg #[.int .i64 y.a0, .int .i64 y.a1, .int .i64 y.a2], .int .i64 low, .int .i64 high] w
    fun e w' => e = .returned (.bool (pairB low high x y)) ∧ Below w.heap.size w w' := by
  by_cases h1 : x.a1 = y.a1
  · have e1 : (x.a1 == y.a1) = true := by simp [h1]
    have Hp := Lib.hid (show pairB low high x y = decide (low ≤ y.a0 - x.a0 ∧ y.a0 - x.a0 ≤ high) from decide_eq_decide.2 ⟨fun h => h.2, fun h => ⟨h1, h⟩⟩)
    clear h1
    go_enter Try.func40, Try.ntmps40
    go_wp2
    all_goals go_returns
    all_goals refine ⟨ret_bool ?_, by go_grown⟩
    all_goals
      rw [Hp.out]
      first | (symm; rw [decide_eq_true_eq]; omega) | (symm; rw [decide_eq_false_iff_not]; omega) | (rw [Bool.eq_iff_iff]; simp; omega) | (rw [Bool.eq_iff_iff]; simp)
  · have e1 : (x.a1 == y.a1) = false := by simp [h1]
    have Hp := Lib.hid (show pairB low high x y = false from decide_eq_false (fun h => h1 h.1))
    clear h1
    go_enter Try.func40, Try.ntmps40
    go_wp2
    all_goals go_returns
    all_goals exact ⟨ret_bool Hp.out.symm, by go_grown⟩
set_option maxRecDepth 100000 in
set_option maxHeartbeats 8000000 in
theorem specIj_any (A : Option Addr) (c : Nat) (l : List EventR) (B : Option Addr) (d : Nat) (r : List EventR) (low high : Int) (w : World) (ha : Row EventR.enc 3 w A l) (hr : Row EventR.enc 3 w B r) :
    Calls Try.prog 16 #[.slice A l.length c, .slice B r.length d, .int .i64 low, .int .i64 high] w (OwnPost PairR.enc 6 44 w (ijF l r low high)) := by
  have hal := ha.1
  have hrl := hr.1
  obtain ⟨i0, hi0, hz0, hz1, hz2⟩ := info_parts PairR.zero_info
  have hB0 : Below w.heap.size w (w.alloc (.cells #[] 44)) := (Below.refl _ _).alloc (Nat.le_refl _) _
  have Hst := Lib.hid (acc_made PairR.enc 6 44 (Below.refl w.heap.size w))
  go_enter Try.func16, Try.ntmps16
  go_wp2_with fail
  refine (specValidEvents_any A c l _ (ha.keep hB0)).mono ?_
  rintro e w1 ⟨rfl, hb1⟩
  have hbw1 := hB0.trans (hb1.mono hB0.size)
  have Hacc1 := Lib.hid (acc_keep Hst.out hb1)
  clear hB0 hb1 Hst
  by_cases hv : ijP l r low high
  · have HF := Lib.hid (show ijF l r low high = l.flatMap (prs low high r) by unfold ijF; rw [if_pos hv])
    obtain ⟨hv1, hv2, hv3⟩ := hv
    have Hv := Lib.hid hv1
    have Hr := Lib.hid hv2
    have hl40 := ev_len hv1
    have hr40 := ev_len hv2
    rw [hv1]
    have H3 := Lib.hid hv3
    clear hv1 hv2 hv3
    go_wp2_with fail
    refine (specValidEvents_any B d r _ (hr.keep hbw1)).mono ?_
    rintro e w2 ⟨rfl, hb2⟩
    rw [Hr.out]
    have Hacc2 := Lib.hid (acc_keep Hacc1.out hb2)
    clear hb2 Hacc1 hbw1
    go_wp2_with fail
    refine (specVR_any low high _).mono ?_
    rintro e w3 ⟨rfl, rfl⟩
    rw [H3.out]
    go_wp2
    go_loopw [9, 10] (fun v i wr => ∃ k : Nat, k ≤ l.length ∧ i = .int .i64 k ∧ Acc PairR.enc 6 44 w ((l.take k).flatMap (prs low high r)) v wr) (fun _ i _ => l.length - (intOf i).toNat)
    case atStart => exact ⟨0, Nat.zero_le _, rfl, by simpa using Hacc2.out⟩
    case round =>
      clear Hacc2
      obtain ⟨k, hk, rfl, hacc⟩ := hrel
      have Hacc := Lib.hid hacc
      have hbw := hacc.2
      clear hacc
      by_cases hlt : k < l.length
      · have hx := List.getElem?_eq_getElem hlt
        obtain ⟨x0, x1, x2, x3, x4, x5⟩ := ev_bd Hv.out hx
        generalize hxl : l[k] = x at *
        have Hx := Lib.hid hx
        have Hxl := Lib.hid hxl
        have Hk := Lib.hid (ij_next (low := low) (high := high) (r := r) hx)
        have hbd := ij_bd (low := low) (high := high) (k := k) hl40 hr40
        clear hx hxl
        obtain ⟨wo, rfl⟩ : ∃ wo : World, wo = wr := ⟨_, rfl⟩
        generalize (l.take k).flatMap (prs low high r) = L at *
        go_wp2
        go_loopw [9, 11] (fun v i wr => ∃ j : Nat, j ≤ r.length ∧ i = .int .i64 j ∧ Acc PairR.enc 6 44 w (L ++ (r.take j).filterMap (pr low high x)) v wr) (fun _ i _ => r.length - (intOf i).toNat)
        case atStart => exact ⟨0, Nat.zero_le _, rfl, by simpa using Hacc.out⟩
        case round =>
          clear Hacc hbw
          obtain ⟨j, hj, rfl, hacc⟩ := hrel
          have Hacc := Lib.hid hacc
          have hbw := hacc.2
          clear hacc
          by_cases hjt : j < r.length
          · obtain ⟨b, off, rfl, hb0, qw0, qw1, qw2⟩ := ha.atEvent hlt
            obtain ⟨b2, off2, rfl, hb20, rw0, rw1, rw2⟩ := hr.atEvent hjt
            rw [Hxl.out] at qw0 qw1 qw2
            have q0 := (hbw.cell hb0).trans qw0
            have q1 := (hbw.cell hb0).trans qw1
            have q2 := (hbw.cell hb0).trans qw2
            have hy := List.getElem?_eq_getElem hjt
            obtain ⟨y0, y1, y2, y3, y4, y5⟩ := ev_bd Hr.out hy
            generalize hyl : r[j] = y at *
            have r0 := (hbw.cell hb20).trans rw0
            have r1 := (hbw.cell hb20).trans rw1
            have r2 := (hbw.cell hb20).trans rw2
            have Hy := Lib.hid hy
            have Hyl := Lib.hid hyl
            have hl2 := fmap_len (pr low high x) r j
            have hzz := hbw.size
            have hblt : b < wr.heap.size := by omega
            have hblt2 : b2 < wr.heap.size := by omega
            have Q0 := Bw.cellOf hblt q0
            have Q1 := Bw.cellOf hblt q1
            have Q2 := Bw.cellOf hblt q2
            have R0 := Bw.cellOf hblt2 r0
            have R1 := Bw.cellOf hblt2 r1
            have R2 := Bw.cellOf hblt2 r2
            have i0' : (0 : Int) ≤ (k : Int) := by omega
            have i1' : (k : Int) < (l.length : Int) := by omega
            have i2' : (0 : Int) ≤ (j : Int) := by omega
            have i3' : (j : Int) < (r.length : Int) := by omega
            have hll : (L ++ (r.take j).filterMap (pr low high x)).length ≤ 1640 := by rw [List.length_append]; omega
            clear hy hyl
            rcases Bool.eq_false_or_eq_true (pairB low high x y) with hp | hp
            · have Hs := Lib.hid (pr_next (L := L) Hy.out hp)
              have Hp := Lib.hid hp
              clear hp
              go_wp2_with fail
              refine wp_region_quiet_below (by kernel_rfl) (by kernel_rfl) ?_
              repeat (any_goals (go_big_quiet_step (first | (go_at_call 40; refine Calls.below_of (specJoins_any x y low high _ (by omega) (by omega) (by omega) (by omega))))))
              refine wpQuiet_nil ?_
              intro w4 hb4
              rw [Hp.out]
              have hacc4 := acc_keep Hacc.out hb4
              have hbw4 := hacc4.2
              have hz4 := hacc4.2.size
              have p0 := (hbw4.cell hb0).trans qw0
              have p1 := (hbw4.cell hb0).trans qw1
              have p2 := (hbw4.cell hb0).trans qw2
              have s0 := (hbw4.cell hb20).trans rw0
              have s1 := (hbw4.cell hb20).trans rw1
              have s2 := (hbw4.cell hb20).trans rw2
              have Hacc4 := Lib.hid hacc4
              clear hacc4 hb4 Q0 Q1 Q2 R0 R1 R2 q0 q1 q2 r0 r1 r2
              go_wp2_with fail
              go_region_held3 (fun w' => w'.cell? ⟨b, off + k * 3, none⟩ = some (.int .i64 x.a0) ∧ w'.cell? ⟨b, off + k * 3 + 1, none⟩ = some (.int .i64 x.a1) ∧ w'.cell? ⟨b, off + k * 3 + 2, none⟩ = some (.int .i64 x.a2) ∧ w'.cell? ⟨b2, off2 + j * 3, none⟩ = some (.int .i64 y.a0) ∧ w'.cell? ⟨b2, off2 + j * 3 + 1, none⟩ = some (.int .i64 y.a1) ∧ w'.cell? ⟨b2, off2 + j * 3 + 2, none⟩ = some (.int .i64 y.a2) ∧ Below w.heap.size w w') (((repeat' apply And.intro) <;> first | assumption | (simp only [World.cell?_drew]; assumption) | (exact hacc6.2) | (exact (hacc6.2.cell hb0).trans qw0) | (exact (hacc6.2.cell hb0).trans qw1) | (exact (hacc6.2.cell hb0).trans qw2) | (exact (hacc6.2.cell hb20).trans rw0) | (exact (hacc6.2.cell hb20).trans rw1) | (exact (hacc6.2.cell hb20).trans rw2) | (simp only [World.cell?_drew, World.cell?_alloc_lt, *]; done) | (go_keep; done) | (refine Below.drew (Below.alloc ?_ ?_ _) <;> assumption) | (refine Below.alloc (Below.drew ?_) ?_ _ <;> assumption) | (refine Below.drew ?_; assumption))) ((refine step_append_acc (by rfl) _ _ 37 (by rfl) i0 _ 48 Try.underlying37 hi0 hz0 hz1 hz2 (by rfl) (by decide) (by decide) _ _ (by rfl) (acc_keep Hacc4.out (((Below.refl _ _).alloc (Nat.le_refl _) _).drew)) _ _ (mkPair x y) (by rfl) (World.news_of_block (heap_alloc_new _ _)) rfl (by intro u hu; simp [PairR.enc, mkPair] at hu; rcases hu with rfl | rfl | rfl | rfl | rfl | rfl <;> rfl) (by omega) ?_; intro v' w6 hacc6 hg6 hat6))
              rw [← Hs.out] at hacc6
              have Hn := Lib.hid hacc6
              clear hacc6 hg6 hat6 Hacc Hacc4 Hs
              go_wp2
              go_roundw
              case rel => exact ⟨j + 1, by omega, by go_num, Hn.out⟩
              case measure => simp [intOf]; omega
            · have Hs := Lib.hid (pr_skip (L := L) Hy.out hp)
              have Hp := Lib.hid hp
              clear hp
              go_wp2_with fail
              refine wp_region_quiet_below (by kernel_rfl) (by kernel_rfl) ?_
              repeat (any_goals (go_big_quiet_step (first | (go_at_call 40; refine Calls.below_of (specJoins_any x y low high _ (by omega) (by omega) (by omega) (by omega))))))
              refine wpQuiet_nil ?_
              intro w4 hb4
              rw [Hp.out]
              have hnext := acc_keep Hacc.out hb4
              rw [← Hs.out] at hnext
              have Hn := Lib.hid hnext
              clear hnext Hacc hb4
              go_wp2
              go_roundw
              case rel => exact ⟨j + 1, by omega, by go_num, Hn.out⟩
              case measure => simp [intOf]; omega
          · have hjl : r.take j = r := List.take_of_length_le (by omega)
            have hfin := Hacc.out
            rw [hjl] at hfin
            have Hfin := Lib.hid (show Acc PairR.enc 6 44 w ((l.take (k + 1)).flatMap (prs low high r)) _ _ by rw [Hk.out]; exact hfin)
            clear hfin hjl Hacc
            go_wp2
            go_roundw
            case rel => exact ⟨k + 1, by omega, by go_num, Hfin.out⟩
            case measure => simp [intOf]; omega
      · have hkl : l.take k = l := List.take_of_length_le (by omega)
        have hfin := Hacc.out
        rw [hkl] at hfin
        have hl1 := ij_bd (low := low) (high := high) (k := k) hl40 hr40
        rw [hkl] at hl1
        have Hfin := Lib.hid hfin
        clear hfin hkl Hacc
        go_wp2
        all_goals go_returns
        all_goals (rw [HF.out]; exact acc_post Hfin.out (by omega))
  · have HF := Lib.hid (show ijF l r low high = [] by unfold ijF; rw [if_neg hv])
    rcases Bool.eq_false_or_eq_true (vEvs l) with h1 | h1
    · rw [h1]
      go_wp2_with fail
      refine (specValidEvents_any B d r _ (hr.keep hbw1)).mono ?_
      rintro e w2 ⟨rfl, hb2⟩
      have hbw2 := hbw1.trans (hb2.mono hbw1.size)
      clear hb2
      rcases Bool.eq_false_or_eq_true (vEvs r) with h2 | h2
      · have h3 : vrB low high = false := by rw [Bool.eq_false_iff]; exact fun h => hv ⟨h1, h2, h⟩
        rw [h2]
        clear hv h1 h2
        go_wp2_with fail
        refine (specVR_any low high _).mono ?_
        rintro e w3 ⟨rfl, rfl⟩
        rw [h3]
        clear h3
        go_wp2
        all_goals go_returns
        all_goals (rw [HF.out]; exact acc_post (acc_none _ _ _ hbw2) (by simp))
      · rw [h2]
        clear hv h1 h2
        go_wp2
        all_goals go_returns
        all_goals (rw [HF.out]; exact acc_post (acc_none _ _ _ hbw2) (by simp))
    · rw [h1]
      clear hv h1
      go_wp2
      all_goals go_returns
      all_goals (rw [HF.out]; exact acc_post (acc_none _ _ _ hbw1) (by simp))
end Go.Proofs.Ytgnogkkdojagcaa
