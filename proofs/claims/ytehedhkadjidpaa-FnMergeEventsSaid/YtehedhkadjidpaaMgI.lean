import Derived.Test.YtehedhkadjidpaaMgP
namespace Go.Proofs.Ytehedhkadjidpaa
open Go.RowKit
def MgSt (a b : List EventR) (w : World) (N : Nat) (v0 v1 v5 : Value) (wr : World) : Prop :=
  ∃ (la lb M : List EventR) (A1 A2 : Option Addr) (c1 c2 : Nat), v0 = .slice A1 la.length c1 ∧ v1 = .slice A2 lb.length c2 ∧ Row EventR.enc 3 w A1 la ∧ Row EventR.enc 3 w A2 lb ∧ la.length ≤ c1 ∧ lb.length ≤ c2 ∧ M ++ mergeE la lb = mergeE a b ∧ M.length + la.length + lb.length = N ∧ Acc EventR.enc 3 32 w M v5 wr
def lenM (v : Value) : Nat := match v with
  | .slice _ n _ => n
  | _ => 0
theorem row_tail {w : World} {A : Option Addr} {x : EventR} {l : List EventR} {b off : Nat} (h : Row EventR.enc 3 w A (x :: l)) (hA : A = some ⟨b, off, none⟩) : Row EventR.enc 3 w (some ⟨b, off + 3, none⟩) l := by
  obtain ⟨b', off', e, hlt, hc⟩ := h.2 (by simp)
  rw [hA] at e; injection e with e; injection e with e1 e2; subst e1 e2
  refine ⟨by have := h.1; simp at this; omega, fun _ => ⟨b, off + 3, rfl, hlt, fun i y hy j u hu => ?_⟩⟩
  have := hc (i + 1) y (by simpa using hy) j u hu
  rw [show off + 3 + i * 3 + j = off + (i + 1) * 3 + j by omega]; exact this
theorem row_empty {w : World} {A : Option Addr} {l : List EventR} (h : l.length = 0) : Row EventR.enc 3 w A l := ⟨by omega, fun h0 => by omega⟩
set_option maxRecDepth 100000 in
set_option maxHeartbeats 8000000 in
theorem implMerge_any (A : Option Addr) (c : Nat) (a : List EventR) (Ax : Option Addr) (cx : Nat) (b : List EventR) (w : World) (ha : Row EventR.enc 3 w A a) (hb : Row EventR.enc 3 w Ax b) (hca : a.length ≤ c) (hcb : b.length ≤ cx) :
    Calls Try.prog 18 #[.slice A a.length c, .slice Ax b.length cx] w (OwnPost EventR.enc 3 32 w (mgF a b)) := by
  have hal := ha.1
  have hbl := hb.1
  obtain ⟨i0, hi0, hz0, hz1, hz2⟩ := info_parts EventR.zero_info
  have hno : ∀ wr, (¬ (vEvs a = true ∧ vEvs b = true ∧ isSo a = true ∧ isSo b = true ∧ a.length + b.length ≤ 40)) → Below w.heap.size w wr → OwnPost EventR.enc 3 32 w (mgF a b) (.returned (.slice none 0 0)) wr := fun wr h hB => by
    unfold mgF; rw [if_neg h]; exact acc_post (acc_none EventR.enc 3 32 hB) (by simp)
  have Hno := Lib.hid hno
  clear hno
  go_enter Try.func18, Try.ntmps18
  go_wp2_with fail
  refine (sortedEvs_any A c a w ha).mono ?_
  rintro e w1 ⟨rfl, hb1⟩
  rcases Bool.eq_false_or_eq_true (vEvs a && isSo a) with h1 | h1
  rotate_left
  · rw [h1]
    have Hd := Lib.hid (Hno.out w1 (fun h => by rw [h.1, h.2.2.1] at h1; simp at h1) hb1)
    clear h1
    go_wp2
    all_goals go_returns
    all_goals exact Hd.out
  rw [h1]
  have H1 := Lib.hid h1
  clear h1
  go_wp2_with fail
  refine (sortedEvs_any Ax cx b w1 (hb.keep hb1)).mono ?_
  rintro e w2 ⟨rfl, hb2⟩
  have B2 := hb1.trans (hb2.mono hb1.size)
  clear hb1 hb2
  rcases Bool.eq_false_or_eq_true (vEvs b && isSo b) with h2 | h2
  rotate_left
  · rw [h2]
    have Hd := Lib.hid (Hno.out w2 (fun h => by rw [h.2.1, h.2.2.2.1] at h2; simp at h2) B2)
    clear h2
    go_wp2
    all_goals go_returns
    all_goals exact Hd.out
  rw [h2]
  have H2 := Lib.hid h2
  clear h2
  by_cases hlen : a.length + b.length ≤ 40
  rotate_left
  · have Hd := Lib.hid (Hno.out w2 (fun h => hlen h.2.2.2.2) B2)
    have hl' : ¬ ((a.length : Int) + (b.length : Int) ≤ 40) := by omega
    clear hlen
    go_wp2
    all_goals go_returns
    all_goals exact Hd.out
  have hl' : (a.length : Int) + (b.length : Int) ≤ 40 := by omega
  have hv : vEvs a = true ∧ isSo a = true ∧ vEvs b = true ∧ isSo b = true := by
    have h1 := H1.out; have h2 := H2.out
    rw [Bool.and_eq_true] at h1 h2
    exact ⟨h1.1, h1.2, h2.1, h2.2⟩
  have HF := Lib.hid (show mgF a b = mergeE a b by unfold mgF; rw [if_pos ⟨hv.1, hv.2.2.1, hv.2.1, hv.2.2.2, hlen⟩, mergeE_sort (isSo_pw hv.2.1) (isSo_pw hv.2.2.2)])
  obtain ⟨N, hN⟩ : ∃ N : Nat, N = a.length + b.length := ⟨_, rfl⟩
  have hNN : (N : Int) = (a.length : Int) + (b.length : Int) := by omega
  have hmk : ∀ W : World, (Instr.makeSlice 24 (.int .i64 0) (.int .i64 ((a.length : Int) + (b.length : Int)))).run Try.prog W = .ok (.slice (some ⟨W.heap.size, 0, none⟩) 0 N) (W.alloc (.cells (madeCells #[.int .i64 0, .int .i64 0, .int .i64 0] (N * 3)) 32)) := fun W => by
    have h := run_make_rowN (P := Try.prog) 24 32 i0 _ Try.underlying24 hi0 hz0 .i64 .i64 0 N (Nat.zero_le _) (by rw [hz2]; omega) (by omega) W
    rw [hz1, hNN] at h
    exact h
  have hst : Acc EventR.enc 3 32 w [] (.slice (some ⟨w2.heap.size, 0, none⟩) 0 N) (w2.alloc (.cells (madeCells #[.int .i64 0, .int .i64 0, .int .i64 0] (N * 3)) 32)) :=
    ⟨by simpa using World.ownsRow_made w2 (madeCells #[.int .i64 0, .int .i64 0, .int .i64 0] (N * 3)) N (base := w.heap.size) (e := 32) (size := 3) B2.size (by unfold maxLen; omega) (by rw [size_madeCells]), B2.alloc B2.size _⟩
  have Hst := Lib.hid hst
  have hN40 : N ≤ 40 := by omega
  have HNN := Lib.hid (show a.length + b.length = N by omega)
  clear hst hv H1 H2 Hno B2 hN hNN
  go_wp2
  go_loopw [0, 1, 5] (fun v0 v1 v5 wr => MgSt a b w N v0 v1 v5 wr) (fun v0 v1 _ _ => lenM v0 + lenM v1)
  case atStart => exact ⟨a, b, [], A, Ax, c, cx, rfl, rfl, ha, hb, hca, hcb, rfl, by simpa using HNN.out, Hst.out⟩
  case round =>
    obtain ⟨la, lb, M, A1, A2, c1, c2, rfl, rfl, ra, rb, k1, k2, hm, hs, hacc⟩ := hrel
    have Hacc := Lib.hid hacc
    have Hm := Lib.hid hm
    have hbw := hacc.2
    have hs1 : M.length + la.length + lb.length ≤ N := by omega
    have hs2 : N ≤ M.length + la.length + lb.length := by omega
    clear hacc hm hs hmk Hst
    rcases la with _ | ⟨x, la⟩
    · have hfin : ∀ (la' lb' : List EventR), la' = ([] : List EventR) → lb' = lb → (M ++ la') ++ lb' = mergeE a b := fun la' lb' e1 e2 => by
        subst e1 e2; rw [← Hm.out]; first | (rw [mergeE_nil_left, List.append_nil]) | (rw [mergeE_nil_right, List.append_nil])
      have Hfin := Lib.hid (hfin _ _ rfl rfl)
      have hlen' : M.length + (([] : List EventR)).length + (lb).length ≤ 1048576 := by simp at hs1 ⊢; omega
      have ra' := ra.keep hbw
      have rb0 := rb

      clear hfin ra rb hbw
      go_wp2_with (first | (at_builtin; (refine wpList_append_row rfl _ _ 24 rfl i0 _ 24 Try.underlying24 hi0 hz0 hz1 hz2 rfl (by decide) (by decide) _ M rfl Hacc.out A1 _ c1 (([] : List EventR)) rfl rfl ra' EventR.enc_len (by intro x u hu; simp [EventR.enc] at hu; rcases hu with rfl | rfl | rfl <;> rfl) (by omega) ?_); intro v1 y1 hacc1 hgr1 hat1; have hrb := rb0.keep hacc1.2) | (at_builtin; (refine wpList_append_row rfl _ _ 24 rfl i0 _ 24 Try.underlying24 hi0 hz0 hz1 hz2 rfl (by decide) (by decide) _ (M ++ (([] : List EventR))) rfl hacc1 A2 _ c2 (lb) rfl rfl hrb EventR.enc_len (by intro x u hu; simp [EventR.enc] at hu; rcases hu with rfl | rfl | rfl <;> rfl) (by rw [List.length_append]; omega) ?_); intro v2 y2 hacc2 _ _) | fail)
      rw [Hfin.out] at hacc2
      have Hp := Lib.hid hacc2
      clear hacc2 hacc1 Hacc
      all_goals go_returns
      all_goals (rw [HF.out]; exact acc_post Hp.out (by rw [← Hfin.out, List.length_append, List.length_append]; omega))
    · rcases lb with _ | ⟨y, lb⟩
      · have hfin : ∀ (la' lb' : List EventR), la' = x :: la → lb' = ([] : List EventR) → (M ++ la') ++ lb' = mergeE a b := fun la' lb' e1 e2 => by
          subst e1 e2; rw [← Hm.out]; first | (rw [mergeE_nil_left, List.append_nil]) | (rw [mergeE_nil_right, List.append_nil])
        have Hfin := Lib.hid (hfin _ _ rfl rfl)
        have hlen' : M.length + (x :: la).length + (([] : List EventR)).length ≤ 1048576 := by simp at hs1 ⊢; omega
        have ra' := ra.keep hbw
        have rb0 := rb
  
        clear hfin ra rb hbw
        go_wp2_with (first | (at_builtin; (refine wpList_append_row rfl _ _ 24 rfl i0 _ 24 Try.underlying24 hi0 hz0 hz1 hz2 rfl (by decide) (by decide) _ M rfl Hacc.out A1 _ c1 (x :: la) rfl rfl ra' EventR.enc_len (by intro x u hu; simp [EventR.enc] at hu; rcases hu with rfl | rfl | rfl <;> rfl) (by omega) ?_); intro v1 y1 hacc1 hgr1 hat1; have hrb := rb0.keep hacc1.2) | (at_builtin; (refine wpList_append_row rfl _ _ 24 rfl i0 _ 24 Try.underlying24 hi0 hz0 hz1 hz2 rfl (by decide) (by decide) _ (M ++ (x :: la)) rfl hacc1 A2 _ c2 (([] : List EventR)) rfl rfl hrb EventR.enc_len (by intro x u hu; simp [EventR.enc] at hu; rcases hu with rfl | rfl | rfl <;> rfl) (by rw [List.length_append]; omega) ?_); intro v2 y2 hacc2 _ _) | fail)
        rw [Hfin.out] at hacc2
        have Hp := Lib.hid hacc2
        clear hacc2 hacc1 Hacc
        all_goals go_returns
        all_goals (rw [HF.out]; exact acc_post Hp.out (by rw [← Hfin.out, List.length_append, List.length_append]; omega))
      · have hal1 := ra.1
        have hbl1 := rb.1
        obtain ⟨ba, oa, hA, hlta, qw0, qw1, qw2⟩ := ra.atEvent (i := 0) (by simp)
        obtain ⟨bb, ob, hB, hltb, rw0, rw1, rw2⟩ := rb.atEvent (i := 0) (by simp)
        simp only [Nat.zero_mul, Nat.add_zero, List.getElem_cons_zero] at qw0 qw1 qw2 rw0 rw1 rw2
        have rta := row_tail ra hA
        have rtb := row_tail rb hB
        subst hA hB
        have q0 := (hbw.cell hlta).trans qw0
        have q1 := (hbw.cell hlta).trans qw1
        have q2 := (hbw.cell hlta).trans qw2
        have r0 := (hbw.cell hltb).trans rw0
        have r1 := (hbw.cell hltb).trans rw1
        have r2 := (hbw.cell hltb).trans rw2
        have hba : ba < wr.heap.size := by have := hbw.size; omega
        have hbb : bb < wr.heap.size := by have := hbw.size; omega
        have Q0 := Bw.cellOf hba q0
        have Q1 := Bw.cellOf hba q1
        have Q2 := Bw.cellOf hba q2
        have R0 := Bw.cellOf hbb r0
        have R1 := Bw.cellOf hbb r1
        have R2 := Bw.cellOf hbb r2
        simp only [List.length_cons] at k1 k2 hs1 hs2 hal1 hbl1
        have p1 : (0 : Int) < (la.length : Int) + 1 := by omega
        have p2 : (0 : Int) < (lb.length : Int) + 1 := by omega
        have p3 : 0 < la.length + 1 := by omega
        have p4 : 0 < lb.length + 1 := by omega
        clear q0 q1 q2 r0 r1 r2
        by_cases hc : cfE x y ≤ 0
        all_goals
          go_wp2_with fail
          refine wp_region_quiet_below (by kernel_rfl) (by kernel_rfl) ?_
          repeat (any_goals (go_big_quiet_step (first | (go_at_call 30; refine Calls.below_of (cmpImplE_any x y _)))))
          refine wpQuiet_nil ?_
          intro w4 hb4
          have hacc4 := acc_keep Hacc.out hb4
          have hbw4 := hacc4.2
          have hz4 := hbw4.size
          have Hacc4 := Lib.hid hacc4
          clear hacc4 Q0 Q1 Q2 R0 R1 R2
        · have Hn := Lib.hid (show mergeE (x :: la) (y :: lb) = x :: mergeE la (y :: lb) from mergeE_left (i := 0) (j := 0) (a := x :: la) (b := y :: lb) rfl rfl hc)
          have p0' := (hbw4.cell hlta).trans qw0
          have p1' := (hbw4.cell hlta).trans qw1
          have p2' := (hbw4.cell hlta).trans qw2
          have k1' : 1 ≤ c1 := by omega
          have pk : (1 : Int) ≤ (la.length : Int) + 1 := by omega
          have pi : (la.length : Int) + 1 ≤ (c1 : Int) := by omega
          by_cases h1 : c1 = 1
          · have hla0 : la.length = 0 := by omega
            obtain rfl : la = [] := List.eq_nil_of_length_eq_zero hla0
            subst h1
            go_wp2_with fail
            go_region_held3 (fun w' => w'.cell? ⟨ba, oa, none⟩ = some (.int .i64 x.a0) ∧ w'.cell? ⟨ba, oa + 1, none⟩ = some (.int .i64 x.a1) ∧ w'.cell? ⟨ba, oa + 2, none⟩ = some (.int .i64 x.a2) ∧ Below w.heap.size w w') (((repeat' apply And.intro) <;> first | assumption | (simp only [World.cell?_drew]; assumption) | (exact hacc6.2) | (exact (hacc6.2.cell hlta).trans qw0) | (exact (hacc6.2.cell hlta).trans qw1) | (exact (hacc6.2.cell hlta).trans qw2) | (simp only [World.cell?_drew, World.cell?_alloc_lt, *]; done) | (go_keep; done) | (refine Below.drew (Below.alloc ?_ ?_ _) <;> assumption) | (refine Below.alloc (Below.drew ?_) ?_ _ <;> assumption) | (refine Below.drew ?_; assumption))) ((refine step_append_acc (by rfl) _ _ 24 (by rfl) i0 _ 24 Try.underlying24 hi0 hz0 hz1 hz2 (by rfl) (by decide) (by decide) _ _ (by rfl) (acc_keep Hacc4.out (((Below.refl _ _).alloc (Nat.le_refl _) _).drew)) _ _ (x : EventR) (by rfl) (World.news_of_block (heap_alloc_new _ _)) rfl (by intro u hu; simp [EventR.enc] at hu; rcases hu with rfl | rfl | rfl <;> rfl) (by omega) ?_; intro v' w6 hacc6 hg6 hat6))
            have hn := hacc6
            have Hn6 := Lib.hid hn
            have Hk := Lib.hid (show (M ++ [x]) ++ mergeE [] (y :: lb) = mergeE a b by rw [← Hm.out, Hn.out, List.append_assoc]; rfl)
            clear hn hacc6 hg6 hat6 Hacc4 Hacc Hm Hn
            go_wp2
            go_roundw
            case rel => exact ⟨[], y :: lb, M ++ [x], _, _, _, _, rfl, rfl, row_empty rfl, rb, by simp, by simp; omega, Hk.out, by simp at hs1 hs2 ⊢; omega, Hn6.out⟩
            case measure => simp [lenM]
          · go_wp2_with fail
            go_region_held3 (fun w' => w'.cell? ⟨ba, oa, none⟩ = some (.int .i64 x.a0) ∧ w'.cell? ⟨ba, oa + 1, none⟩ = some (.int .i64 x.a1) ∧ w'.cell? ⟨ba, oa + 2, none⟩ = some (.int .i64 x.a2) ∧ Below w.heap.size w w') (((repeat' apply And.intro) <;> first | assumption | (simp only [World.cell?_drew]; assumption) | (exact hacc6.2) | (exact (hacc6.2.cell hlta).trans qw0) | (exact (hacc6.2.cell hlta).trans qw1) | (exact (hacc6.2.cell hlta).trans qw2) | (simp only [World.cell?_drew, World.cell?_alloc_lt, *]; done) | (go_keep; done) | (refine Below.drew (Below.alloc ?_ ?_ _) <;> assumption) | (refine Below.alloc (Below.drew ?_) ?_ _ <;> assumption) | (refine Below.drew ?_; assumption))) ((refine step_append_acc (by rfl) _ _ 24 (by rfl) i0 _ 24 Try.underlying24 hi0 hz0 hz1 hz2 (by rfl) (by decide) (by decide) _ _ (by rfl) (acc_keep Hacc4.out (((Below.refl _ _).alloc (Nat.le_refl _) _).drew)) _ _ (x : EventR) (by rfl) (World.news_of_block (heap_alloc_new _ _)) rfl (by intro u hu; simp [EventR.enc] at hu; rcases hu with rfl | rfl | rfl <;> rfl) (by omega) ?_; intro v' w6 hacc6 hg6 hat6))
            have Hn6 := Lib.hid hacc6
            have Hk := Lib.hid (show (M ++ [x]) ++ mergeE la (y :: lb) = mergeE a b by rw [← Hm.out, Hn.out, List.append_assoc]; rfl)
            clear hacc6 hg6 hat6 Hacc4 Hacc Hm Hn
            go_wp2
            go_roundw
            case rel => exact ⟨la, y :: lb, M ++ [x], _, _, _, _, rfl, rfl, rta, rb, by omega, by simp; omega, Hk.out, by simp; omega, Hn6.out⟩
            case measure => simp [lenM]
        · have Hn := Lib.hid (show mergeE (x :: la) (y :: lb) = y :: mergeE (x :: la) lb from mergeE_right (i := 0) (j := 0) (a := x :: la) (b := y :: lb) rfl rfl (by omega))
          have p0' := (hbw4.cell hltb).trans rw0
          have p1' := (hbw4.cell hltb).trans rw1
          have p2' := (hbw4.cell hltb).trans rw2
          have k1' : 1 ≤ c2 := by omega
          have pk : (1 : Int) ≤ (lb.length : Int) + 1 := by omega
          have pi : (lb.length : Int) + 1 ≤ (c2 : Int) := by omega
          by_cases h1 : c2 = 1
          · have hlb0 : lb.length = 0 := by omega
            obtain rfl : lb = [] := List.eq_nil_of_length_eq_zero hlb0
            subst h1
            go_wp2_with fail
            go_region_held3 (fun w' => w'.cell? ⟨bb, ob, none⟩ = some (.int .i64 y.a0) ∧ w'.cell? ⟨bb, ob + 1, none⟩ = some (.int .i64 y.a1) ∧ w'.cell? ⟨bb, ob + 2, none⟩ = some (.int .i64 y.a2) ∧ Below w.heap.size w w') (((repeat' apply And.intro) <;> first | assumption | (simp only [World.cell?_drew]; assumption) | (exact hacc6.2) | (exact (hacc6.2.cell hltb).trans rw0) | (exact (hacc6.2.cell hltb).trans rw1) | (exact (hacc6.2.cell hltb).trans rw2) | (simp only [World.cell?_drew, World.cell?_alloc_lt, *]; done) | (go_keep; done) | (refine Below.drew (Below.alloc ?_ ?_ _) <;> assumption) | (refine Below.alloc (Below.drew ?_) ?_ _ <;> assumption) | (refine Below.drew ?_; assumption))) ((refine step_append_acc (by rfl) _ _ 24 (by rfl) i0 _ 24 Try.underlying24 hi0 hz0 hz1 hz2 (by rfl) (by decide) (by decide) _ _ (by rfl) (acc_keep Hacc4.out (((Below.refl _ _).alloc (Nat.le_refl _) _).drew)) _ _ (y : EventR) (by rfl) (World.news_of_block (heap_alloc_new _ _)) rfl (by intro u hu; simp [EventR.enc] at hu; rcases hu with rfl | rfl | rfl <;> rfl) (by omega) ?_; intro v' w6 hacc6 hg6 hat6))
            have Hn6 := Lib.hid hacc6
            have Hk := Lib.hid (show (M ++ [y]) ++ mergeE (x :: la) [] = mergeE a b by rw [← Hm.out, Hn.out, List.append_assoc]; rfl)
            clear hacc6 hg6 hat6 Hacc4 Hacc Hm Hn
            go_wp2
            go_roundw
            case rel => exact ⟨x :: la, [], M ++ [y], _, _, _, _, rfl, rfl, ra, row_empty rfl, by simp; omega, by simp, Hk.out, by simp at hs1 hs2 ⊢; omega, Hn6.out⟩
            case measure => simp [lenM]
          · go_wp2_with fail
            go_region_held3 (fun w' => w'.cell? ⟨bb, ob, none⟩ = some (.int .i64 y.a0) ∧ w'.cell? ⟨bb, ob + 1, none⟩ = some (.int .i64 y.a1) ∧ w'.cell? ⟨bb, ob + 2, none⟩ = some (.int .i64 y.a2) ∧ Below w.heap.size w w') (((repeat' apply And.intro) <;> first | assumption | (simp only [World.cell?_drew]; assumption) | (exact hacc6.2) | (exact (hacc6.2.cell hltb).trans rw0) | (exact (hacc6.2.cell hltb).trans rw1) | (exact (hacc6.2.cell hltb).trans rw2) | (simp only [World.cell?_drew, World.cell?_alloc_lt, *]; done) | (go_keep; done) | (refine Below.drew (Below.alloc ?_ ?_ _) <;> assumption) | (refine Below.alloc (Below.drew ?_) ?_ _ <;> assumption) | (refine Below.drew ?_; assumption))) ((refine step_append_acc (by rfl) _ _ 24 (by rfl) i0 _ 24 Try.underlying24 hi0 hz0 hz1 hz2 (by rfl) (by decide) (by decide) _ _ (by rfl) (acc_keep Hacc4.out (((Below.refl _ _).alloc (Nat.le_refl _) _).drew)) _ _ (y : EventR) (by rfl) (World.news_of_block (heap_alloc_new _ _)) rfl (by intro u hu; simp [EventR.enc] at hu; rcases hu with rfl | rfl | rfl <;> rfl) (by omega) ?_; intro v' w6 hacc6 hg6 hat6))
            have Hn6 := Lib.hid hacc6
            have Hk := Lib.hid (show (M ++ [y]) ++ mergeE (x :: la) lb = mergeE a b by rw [← Hm.out, Hn.out, List.append_assoc]; rfl)
            clear hacc6 hg6 hat6 Hacc4 Hacc Hm Hn
            go_wp2
            go_roundw
            case rel => exact ⟨x :: la, lb, M ++ [y], _, _, _, _, rfl, rfl, ra, rtb, by simp; omega, by omega, Hk.out, by simp; omega, Hn6.out⟩
            case measure => simp [lenM]; try omega
end Go.Proofs.Ytehedhkadjidpaa
