import Derived.Test.YtgnogkkdojagcaaPick
namespace Go.Proofs.Ytgnogkkdojagcaa
open Go.RowKit
def EvPost (w : World) (R p d : Nat) (lo hi : Int) (e : Ending) (w' : World) : Prop :=
  ∃ (t k v : Int) (p' : Nat), e = .returned (.agg #[.int .i64 t, .int .i64 k, .int .i64 v]) ∧ lo ≤ t ∧ t ≤ hi ∧ lo ≤ k ∧ k ≤ hi ∧ lo ≤ v ∧ v ≤ hi ∧ p' ≤ p + d ∧ Rd w' R p' ∧ Gr w w' R
set_option maxHeartbeats 400000 in
theorem randomEvent_any (w : World) (R p : Nat) (h : Rd w R p) (hp : p + 3 ≤ 1000000000) :
    Calls Try.prog 55 #[.pointer (some ⟨R, 0, none⟩)] w (EvPost w R p 3 0 49) := by
  have hR := rd_lt h
  have h' := rd_alloc h (.cells #[.int .i64 0, .int .i64 0, .int .i64 0] 42)
  go_enter Try.func55, Try.ntmps55
  go_wp2_with fail
  refine (pick_any _ _ R p h' (by omega) (by omega)).mono ?_
  rintro e w1 ⟨t, rfl, t0, t1, _, hr1, hg1, hs1⟩
  go_wp2_with fail
  refine (pick_any _ _ R (p + 1) hr1 (by omega) (by omega)).mono ?_
  rintro e w2 ⟨k, rfl, k0, k1, _, hr2, hg2, hs2⟩
  go_wp2_with fail
  refine (pick_any _ _ R (p + 2) hr2 (by omega) (by omega)).mono ?_
  rintro e w3 ⟨v, rfl, v0, v1, _, hr3, hg3, hs3⟩
  have hs : w3.heap.size = w.heap.size + 1 := by rw [hs3, hs2, hs1]; simp
  have hb3 : w3.heap[w.heap.size]? = some (.cells #[.int .i64 0, .int .i64 0, .int .i64 0] 42 (0, 0)) := by
    rw [hg3.block _ (by omega) (fun e => by injection e; omega), hg2.block _ (by rw [hs1]; simp) (fun e => by injection e; omega), hg1.block _ (by simp) (fun e => by injection e; omega)]
    exact heap_alloc_new _ _
  have q0 := cell_of_row w3 w.heap.size 0 _ _ _ hb3
  have q1 := cell_of_row w3 w.heap.size 1 _ _ _ hb3
  have q2 := cell_of_row w3 w.heap.size 2 _ _ _ hb3
  simp at q0 q1 q2
  have f0 : ∀ o, w3.frozen? ⟨w.heap.size, o, none⟩ = false := fun o => by simp [World.frozen?, hb3]
  clear hb3 h h' hr1 hr2
  go_wp2
  refine bodyPost_ret (v := .agg #[.int .i64 t, .int .i64 k, .int .i64 v]) (by simp [results, Try.results55, go_sem, q0, q1, q2]) rfl ?_
  refine ⟨t, k, v, p + 3, rfl, by omega, by omega, by omega, by omega, by omega, by omega, Nat.le_refl _, ?_, ?_⟩
  · exact rd_setCell (rd_setCell (rd_setCell hr3 hR _) hR _) hR _
  · exact gr_setCell (gr_setCell (gr_setCell (gr_trans (gr_trans (gr_trans (gr_alloc (gr_refl w R) _) hg1) hg2) hg3) (Nat.le_refl _) _) (Nat.le_refl _) _) (Nat.le_refl _) _
def One3Post (w : World) (R p : Nat) (x y z : Int) (e : Ending) (w' : World) : Prop :=
  ∃ v : Int, (v = x ∨ v = y ∨ v = z) ∧ e = .returned (.int .i64 v) ∧ Rd w' R (p + 1) ∧ Gr w w' R
def pick3 (x y z : Int) (i : Nat) : Int := if i = 0 then x else if i = 1 then y else z
theorem one3_any (w : World) (R p : Nat) (h : Rd w R p) (hp : p + 1 ≤ 1000000000) (b : Nat) (x y z : Int) (hb : w.heap[b]? = some (.cells #[.int .i64 x, .int .i64 y, .int .i64 z] 3 (0, 0))) (hne : b ≠ R) :
    Calls Try.prog 24 #[.pointer (some ⟨R, 0, none⟩), .slice (some ⟨b, 0, none⟩) 3 3] w (One3Post w R p x y z) := by
  obtain ⟨l0, l1, l2, _, ll⟩ := blk3 hb
  refine (one_any w R p h hp b 0 3 3 (pick3 x y z) (by omega) (by omega) ll hne ?_).mono ?_
  · intro i hi
    rcases (show i = 0 ∨ i = 1 ∨ i = 2 by omega) with hj | hj | hj
    · rw [hj]; exact l0
    · rw [hj]; exact l1
    · rw [hj]; exact l2
  · rintro e w' ⟨i, hi, rfl, hr, hg, _⟩
    refine ⟨pick3 x y z i, ?_, rfl, hr, hg⟩
    unfold pick3
    split
    · exact .inl rfl
    · split
      · exact .inr (.inl rfl)
      · exact .inr (.inr rfl)
set_option maxHeartbeats 4000000 in
theorem anyEvent_any (w : World) (R p : Nat) (h : Rd w R p) (hp : p + 5 ≤ 1000000000) :
    Calls Try.prog 54 #[.pointer (some ⟨R, 0, none⟩)] w (EvPost w R p 5 (-1) 1000) := by
  have hR := rd_lt h
  have hS0 := heap_alloc_new w (.cells #[.int .i64 0, .int .i64 0, .int .i64 0] 42)
  have h' := rd_alloc h (.cells #[.int .i64 0, .int .i64 0, .int .i64 0] 42)
  have g0 := gr_alloc (gr_refl w R) (.cells #[.int .i64 0, .int .i64 0, .int .i64 0] 42)
  go_enter Try.func54, Try.ntmps54
  go_wp2_with fail
  refine (randomEvent_any _ R p h' (by omega)).mono ?_
  rintro e w1 ⟨t, k, v, p1, rfl, ht0, ht1, hk0, hk1, hv0, hv1, hp1, hr1, hg1⟩
  have hS1 := gr_blk hg1 hS0 (by omega)
  have hlt1 : w.heap.size < w1.heap.size := (blk3 hS1).2.2.2.2
  have g1 := gr_trans g0 hg1
  clear hS0 h' h g0 hg1
  have hE2 := heap_alloc_new w1 (.cells #[.int .i64 t, .int .i64 k, .int .i64 v] 42)
  have hS2 := alloc_blk (.cells #[.int .i64 t, .int .i64 k, .int .i64 v] 42) hS1
  have hr2 := rd_alloc hr1 (.cells #[.int .i64 t, .int .i64 k, .int .i64 v] 42)
  have g2 := gr_alloc g1 (.cells #[.int .i64 t, .int .i64 k, .int .i64 v] 42)
  clear hS1 hr1 g1
  go_wp2_with fail
  refine (pick_any _ _ R p1 hr2 (by omega) (by omega)).mono ?_
  rintro e w3 ⟨x, rfl, x0, x1, -, hr3, hg3, -⟩
  have hE3 := gr_blk hg3 hE2 (by omega)
  have hS3 := gr_blk hg3 hS2 (by omega)
  have g3 := gr_trans g2 hg3
  clear hE2 hS2 hr2 g2 hg3
  have hlt3 : w1.heap.size < w3.heap.size := (blk3 hE3).2.2.2.2
  rcases (show x = 0 ∨ x = 1 ∨ x = 2 ∨ 2 < x by omega) with hx | hx | hx | hx
  · subst hx
    have hE4 := alloc_blk (.cells #[.int .i64 (-1), .int .i64 999, .int .i64 1000] 3) hE3
    have hS4 := alloc_blk (.cells #[.int .i64 (-1), .int .i64 999, .int .i64 1000] 3) hS3
    have hL4 := heap_alloc_new w3 (.cells #[.int .i64 (-1), .int .i64 999, .int .i64 1000] 3)
    have hr4 := rd_alloc hr3 (.cells #[.int .i64 (-1), .int .i64 999, .int .i64 1000] 3)
    have g4 := gr_alloc g3 (.cells #[.int .i64 (-1), .int .i64 999, .int .i64 1000] 3)
    obtain ⟨l0, l1, l2, lf, ll⟩ := blk3 hL4
    clear hS3 hr3 g3 hE3
    go_wp2_with fail
    refine (one3_any _ R (p1 + 1) hr4 (by omega) w3.heap.size (-1) 999 1000 hL4 (by omega)).mono ?_
    rintro e w5 ⟨y, hy, rfl, hr5, hg5⟩
    have hy0 : -1 ≤ y := by omega
    have hy1 : y ≤ 1000 := by omega
    clear hy l0 l1 l2 lf
    have hE5 := gr_blk hg5 hE4 (by omega)
    have hS5 := gr_blk hg5 hS4 (by omega)
    have g5 := gr_trans g4 hg5
    clear hE4 hS4 hL4 hr4 g4 hg5
    obtain ⟨e0, e1, e2, ef, el⟩ := blk3 hE5
    obtain ⟨s0, s1, s2, sf, sl⟩ := blk3 hS5
    have hne : w.heap.size ≠ w1.heap.size := by omega
    clear hE5 hS5
    go_wp2
    refine bodyPost_ret (v := .agg #[.int .i64 y, .int .i64 k, .int .i64 v]) (by simp [results, Try.results54, go_sem, s0, s1, s2]) rfl ?_
    refine ⟨y, k, v, p1 + 1 + 1, rfl, by omega, by omega, by omega, by omega, by omega, by omega, by omega, ?_, ?_⟩
    · repeat (first | exact hr5 | refine rd_setCell ?_ (by first | exact hR | (simp; omega)) _)
    · repeat (first | exact g5 | refine gr_setCell ?_ (by first | exact Nat.le_refl _ | (simp; omega)) _)
  · subst hx
    have hE4 := alloc_blk (.cells #[.int .i64 (-1), .int .i64 15, .int .i64 16] 3) hE3
    have hS4 := alloc_blk (.cells #[.int .i64 (-1), .int .i64 15, .int .i64 16] 3) hS3
    have hL4 := heap_alloc_new w3 (.cells #[.int .i64 (-1), .int .i64 15, .int .i64 16] 3)
    have hr4 := rd_alloc hr3 (.cells #[.int .i64 (-1), .int .i64 15, .int .i64 16] 3)
    have g4 := gr_alloc g3 (.cells #[.int .i64 (-1), .int .i64 15, .int .i64 16] 3)
    obtain ⟨l0, l1, l2, lf, ll⟩ := blk3 hL4
    clear hS3 hr3 g3 hE3
    go_wp2_with fail
    refine (one3_any _ R (p1 + 1) hr4 (by omega) w3.heap.size (-1) 15 16 hL4 (by omega)).mono ?_
    rintro e w5 ⟨y, hy, rfl, hr5, hg5⟩
    have hy0 : -1 ≤ y := by omega
    have hy1 : y ≤ 1000 := by omega
    clear hy l0 l1 l2 lf
    have hE5 := gr_blk hg5 hE4 (by omega)
    have hS5 := gr_blk hg5 hS4 (by omega)
    have g5 := gr_trans g4 hg5
    clear hE4 hS4 hL4 hr4 g4 hg5
    obtain ⟨e0, e1, e2, ef, el⟩ := blk3 hE5
    obtain ⟨s0, s1, s2, sf, sl⟩ := blk3 hS5
    have hne : w.heap.size ≠ w1.heap.size := by omega
    clear hE5 hS5
    go_wp2
    refine bodyPost_ret (v := .agg #[.int .i64 t, .int .i64 y, .int .i64 v]) (by simp [results, Try.results54, go_sem, s0, s1, s2]) rfl ?_
    refine ⟨t, y, v, p1 + 1 + 1, rfl, by omega, by omega, by omega, by omega, by omega, by omega, by omega, ?_, ?_⟩
    · repeat (first | exact hr5 | refine rd_setCell ?_ (by first | exact hR | (simp; omega)) _)
    · repeat (first | exact g5 | refine gr_setCell ?_ (by first | exact Nat.le_refl _ | (simp; omega)) _)
  · subst hx
    have hE4 := alloc_blk (.cells #[.int .i64 (-1), .int .i64 99, .int .i64 100] 3) hE3
    have hS4 := alloc_blk (.cells #[.int .i64 (-1), .int .i64 99, .int .i64 100] 3) hS3
    have hL4 := heap_alloc_new w3 (.cells #[.int .i64 (-1), .int .i64 99, .int .i64 100] 3)
    have hr4 := rd_alloc hr3 (.cells #[.int .i64 (-1), .int .i64 99, .int .i64 100] 3)
    have g4 := gr_alloc g3 (.cells #[.int .i64 (-1), .int .i64 99, .int .i64 100] 3)
    obtain ⟨l0, l1, l2, lf, ll⟩ := blk3 hL4
    clear hS3 hr3 g3 hE3
    go_wp2_with fail
    refine (one3_any _ R (p1 + 1) hr4 (by omega) w3.heap.size (-1) 99 100 hL4 (by omega)).mono ?_
    rintro e w5 ⟨y, hy, rfl, hr5, hg5⟩
    have hy0 : -1 ≤ y := by omega
    have hy1 : y ≤ 1000 := by omega
    clear hy l0 l1 l2 lf
    have hE5 := gr_blk hg5 hE4 (by omega)
    have hS5 := gr_blk hg5 hS4 (by omega)
    have g5 := gr_trans g4 hg5
    clear hE4 hS4 hL4 hr4 g4 hg5
    obtain ⟨e0, e1, e2, ef, el⟩ := blk3 hE5
    obtain ⟨s0, s1, s2, sf, sl⟩ := blk3 hS5
    have hne : w.heap.size ≠ w1.heap.size := by omega
    clear hE5 hS5
    go_wp2
    refine bodyPost_ret (v := .agg #[.int .i64 t, .int .i64 k, .int .i64 y]) (by simp [results, Try.results54, go_sem, s0, s1, s2]) rfl ?_
    refine ⟨t, k, y, p1 + 1 + 1, rfl, by omega, by omega, by omega, by omega, by omega, by omega, by omega, ?_, ?_⟩
    · repeat (first | exact hr5 | refine rd_setCell ?_ (by first | exact hR | (simp; omega)) _)
    · repeat (first | exact g5 | refine gr_setCell ?_ (by first | exact Nat.le_refl _ | (simp; omega)) _)
  · obtain ⟨e0, e1, e2, ef, el⟩ := blk3 hE3
    obtain ⟨s0, s1, s2, sf, sl⟩ := blk3 hS3
    have n0 : (x == 0) = false := by simp; omega
    have n1 : (x == 1) = false := by simp; omega
    have n2 : (x == 2) = false := by simp; omega
    clear hE3 hS3
    go_wp2
    refine bodyPost_ret (v := .agg #[.int .i64 t, .int .i64 k, .int .i64 v]) (by simp [results, Try.results54, go_sem, s0, s1, s2]) rfl ?_
    refine ⟨t, k, v, p1 + 1, rfl, by omega, by omega, by omega, by omega, by omega, by omega, by omega, ?_, ?_⟩
    · repeat (first | exact hr3 | refine rd_setCell ?_ (by first | exact hR | (simp; omega)) _)
    · repeat (first | exact g3 | refine gr_setCell ?_ (by first | exact Nat.le_refl _ | (simp; omega)) _)

end Go.Proofs.Ytgnogkkdojagcaa
