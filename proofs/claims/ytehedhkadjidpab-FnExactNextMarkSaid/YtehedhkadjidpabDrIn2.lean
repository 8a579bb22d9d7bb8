import Derived.Test.YtehedhkadjidpabDrIn
namespace Go.Proofs.Ytehedhkadjidpab
open Go.RowKit
def DrId (w : World) (e : Ending) (w' : World) : Prop :=
  ∃ (A : Option Addr) (c : Nat) (l : List InputR) (n m : Int), e = .returned (.tuple #[.slice A l.length c, .int .i64 n, .int .i64 m]) ∧ Own InputR.enc 2 33 w' w.heap.size (.slice A l.length c) l ∧ l.length ≤ 5 ∧ -1 ≤ n ∧ n ≤ 10000 ∧ -1 ≤ m ∧ m ≤ 10000 ∧ Below w.heap.size w w'
set_option maxRecDepth 100000 in
set_option maxHeartbeats 4000000 in
theorem drawIdleInputs_any (w : World) (a : Option Addr) (len cap : Nat) (z : List Int) (h : IsRow .u8 w a len cap z) (hl : len ≤ 1048576) : Calls Try.prog 15 #[.slice a len cap] w (DrId w) := by
  go_enter Try.func15, Try.ntmps15
  have g1 := Below.refl w.heap.size w
  have ir2 := isRow_keep h g1
  clear h
  go_wp2_with fail
  refine (newReader_any _ a len cap z ir2 hl).mono ?_
  rintro e w1 ⟨R, rfl, hR, hrN, hbN⟩
  have g4 := g1.trans (hbN.mono (by omega))
  have lt5 := rd_lt hrN
  have sz6 := g4.size
  clear ir2 g1 hbN
  go_wp2_with fail
  refine (anyInputs_any _ R 0 hrN (by omega)).mono ?_
  rintro e w2 ⟨A, c, l, p2, rfl, o1, l5, hp2, hr7, hg8⟩
  have zs_w2 := hg8.size
  have g9 := g4.trans (gr_of_below (B := w.heap.size) hg8 (by have := g4.size; first | exact this | (simp; omega) | omega) (by omega))
  have lt10 := rd_lt hr7
  clear hg8 hrN g4
  have o11 := o1.keep (alloc_below _ (.cells #[.int .i64 40, .int .i64 30, .int .i64 50, .int .i64 20, .int .i64 9999, .int .i64 10000, .int .i64 (-1), .int .i64 45] 3))
  clear o1
  have b12 := heap_alloc_new w2 (.cells #[.int .i64 40, .int .i64 30, .int .i64 50, .int .i64 20, .int .i64 9999, .int .i64 10000, .int .i64 (-1), .int .i64 45] 3)
  have hr13 := rd_alloc hr7 (.cells #[.int .i64 40, .int .i64 30, .int .i64 50, .int .i64 20, .int .i64 9999, .int .i64 10000, .int .i64 (-1), .int .i64 45] 3)
  have g14 := g9.alloc (by have := g9.size; first | exact this | (simp; omega) | omega) (.cells #[.int .i64 40, .int .i64 30, .int .i64 50, .int .i64 20, .int .i64 9999, .int .i64 10000, .int .i64 (-1), .int .i64 45] 3)
  clear hr7 g9
  go_wp2_with fail
  refine (oneL_any [40, 30, 50, 20, 9999, 10000, -1, 45] _ R (p2) 8 hr13 (by omega) (w2.heap.size) _ b12 rfl rfl (by omega) (by omega) (by omega)).mono ?_
  rintro e w3 ⟨n, n_m, rfl, hr15, hg16⟩
  have zs_w3 := hg16.size
  have o19 := own_gr o11 hg16 (by omega)
  clear o11
  have g17 := g14.trans (gr_of_below (B := w.heap.size) hg16 (by have := g14.size; first | exact this | (simp; omega) | omega) (by omega))
  have lt18 := rd_lt hr15
  clear hg16 hr13 g14
  have n_b : -1 ≤ n ∧ n ≤ 10000 := by simp at n_m; omega
  clear n_m
  clear b12
  have o20 := o19.keep (alloc_below _ (.cells #[.int .i64 10, .int .i64 20, .int .i64 5, .int .i64 0, .int .i64 30, .int .i64 9999, .int .i64 10000, .int .i64 (-1)] 3))
  clear o19
  have b21 := heap_alloc_new w3 (.cells #[.int .i64 10, .int .i64 20, .int .i64 5, .int .i64 0, .int .i64 30, .int .i64 9999, .int .i64 10000, .int .i64 (-1)] 3)
  have hr22 := rd_alloc hr15 (.cells #[.int .i64 10, .int .i64 20, .int .i64 5, .int .i64 0, .int .i64 30, .int .i64 9999, .int .i64 10000, .int .i64 (-1)] 3)
  have g23 := g17.alloc (by have := g17.size; first | exact this | (simp; omega) | omega) (.cells #[.int .i64 10, .int .i64 20, .int .i64 5, .int .i64 0, .int .i64 30, .int .i64 9999, .int .i64 10000, .int .i64 (-1)] 3)
  clear hr15 g17
  go_wp2_with fail
  refine (oneL_any [10, 20, 5, 0, 30, 9999, 10000, -1] _ R (p2 + 1) 8 hr22 (by omega) (w3.heap.size) _ b21 rfl rfl (by omega) (by omega) (by omega)).mono ?_
  rintro e w4 ⟨m, m_m, rfl, hr24, hg25⟩
  have zs_w4 := hg25.size
  have o28 := own_gr o20 hg25 (by omega)
  clear o20
  have g26 := g23.trans (gr_of_below (B := w.heap.size) hg25 (by have := g23.size; first | exact this | (simp; omega) | omega) (by omega))
  have lt27 := rd_lt hr24
  clear hg25 hr22 g23
  have m_b : -1 ≤ m ∧ m ≤ 10000 := by simp at m_m; omega
  clear m_m
  clear b21
  have zz := g26.size
  have Hp := Lib.hid (show _ ∧ _ from ⟨own_rebase (B := w.heap.size) o28 (by omega), g26⟩)
  clear o28 g26
  go_wp2
  all_goals go_returns
  all_goals exact ⟨A, c, l, n, m, rfl, Hp.out.1, l5, n_b.1, n_b.2, m_b.1, m_b.2, Hp.out.2⟩
set_option maxHeartbeats 1000000 in
theorem drawMergeMarks_any (w : World) (a : Option Addr) (len cap : Nat) (z : List Int) (h : IsRow .u8 w a len cap z) (hl : len ≤ 1048576) : Calls Try.prog 20 #[.slice a len cap] w (DrId w) := by
  go_enter Try.func20, Try.ntmps20
  go_wp2_with fail
  refine (drawIdleInputs_any _ a len cap z h hl).mono ?_
  rintro e w1 ⟨A, c, l, n, m, rfl, o1, l5, n0, n1, m0, m1, b⟩
  have Hp := Lib.hid (show _ ∧ _ from ⟨o1, b⟩)
  clear o1 b
  go_wp2
  all_goals go_returns
  all_goals exact ⟨A, c, l, n, m, rfl, Hp.out.1, l5, n0, n1, m0, m1, Hp.out.2⟩
def DrUp (w : World) (e : Ending) (w' : World) : Prop :=
  ∃ (A : Option Addr) (c : Nat) (l : List InputR) (i n m : Int), e = .returned (.tuple #[.slice A l.length c, .int .i64 i, .int .i64 n, .int .i64 m]) ∧ Own InputR.enc 2 33 w' w.heap.size (.slice A l.length c) l ∧ l.length ≤ 5 ∧ -1 ≤ i ∧ i ≤ 4 ∧ -2 ≤ n ∧ n ≤ 1000 ∧ -1 ≤ m ∧ m ≤ 10000 ∧ Below w.heap.size w w'
set_option maxRecDepth 100000 in
set_option maxHeartbeats 4000000 in
theorem drawUpdateInput_any (w : World) (a : Option Addr) (len cap : Nat) (z : List Int) (h : IsRow .u8 w a len cap z) (hl : len ≤ 1048576) : Calls Try.prog 23 #[.slice a len cap] w (DrUp w) := by
  go_enter Try.func23, Try.ntmps23
  have g1 := Below.refl w.heap.size w
  have ir2 := isRow_keep h g1
  clear h
  go_wp2_with fail
  refine (newReader_any _ a len cap z ir2 hl).mono ?_
  rintro e w1 ⟨R, rfl, hR, hrN, hbN⟩
  have g4 := g1.trans (hbN.mono (by omega))
  have lt5 := rd_lt hrN
  have sz6 := g4.size
  clear ir2 g1 hbN
  go_wp2_with fail
  refine (anyInputs_any _ R 0 hrN (by omega)).mono ?_
  rintro e w2 ⟨A, c, l, p2, rfl, o1, l5, hp2, hr7, hg8⟩
  have zs_w2 := hg8.size
  have g9 := g4.trans (gr_of_below (B := w.heap.size) hg8 (by have := g4.size; first | exact this | (simp; omega) | omega) (by omega))
  have lt10 := rd_lt hr7
  clear hg8 hrN g4
  have o11 := o1.keep (alloc_below _ (.cells #[.int .i64 0, .int .i64 1, .int .i64 0, .int .i64 2, .int .i64 (-1), .int .i64 4] 3))
  clear o1
  have b12 := heap_alloc_new w2 (.cells #[.int .i64 0, .int .i64 1, .int .i64 0, .int .i64 2, .int .i64 (-1), .int .i64 4] 3)
  have hr13 := rd_alloc hr7 (.cells #[.int .i64 0, .int .i64 1, .int .i64 0, .int .i64 2, .int .i64 (-1), .int .i64 4] 3)
  have g14 := g9.alloc (by have := g9.size; first | exact this | (simp; omega) | omega) (.cells #[.int .i64 0, .int .i64 1, .int .i64 0, .int .i64 2, .int .i64 (-1), .int .i64 4] 3)
  clear hr7 g9
  go_wp2_with fail
  refine (oneL_any [0, 1, 0, 2, -1, 4] _ R (p2) 6 hr13 (by omega) (w2.heap.size) _ b12 rfl rfl (by omega) (by omega) (by omega)).mono ?_
  rintro e w3 ⟨i, i_m, rfl, hr15, hg16⟩
  have zs_w3 := hg16.size
  have o19 := own_gr o11 hg16 (by omega)
  clear o11
  have g17 := g14.trans (gr_of_below (B := w.heap.size) hg16 (by have := g14.size; first | exact this | (simp; omega) | omega) (by omega))
  have lt18 := rd_lt hr15
  clear hg16 hr13 g14
  have i_b : -1 ≤ i ∧ i ≤ 4 := by simp at i_m; omega
  clear i_m
  clear b12
  have o20 := o19.keep (alloc_below _ (.cells #[.int .i64 10, .int .i64 20, .int .i64 30, .int .i64 (-1), .int .i64 999, .int .i64 1000, .int .i64 (-2)] 3))
  clear o19
  have b21 := heap_alloc_new w3 (.cells #[.int .i64 10, .int .i64 20, .int .i64 30, .int .i64 (-1), .int .i64 999, .int .i64 1000, .int .i64 (-2)] 3)
  have hr22 := rd_alloc hr15 (.cells #[.int .i64 10, .int .i64 20, .int .i64 30, .int .i64 (-1), .int .i64 999, .int .i64 1000, .int .i64 (-2)] 3)
  have g23 := g17.alloc (by have := g17.size; first | exact this | (simp; omega) | omega) (.cells #[.int .i64 10, .int .i64 20, .int .i64 30, .int .i64 (-1), .int .i64 999, .int .i64 1000, .int .i64 (-2)] 3)
  clear hr15 g17
  go_wp2_with fail
  refine (oneL_any [10, 20, 30, -1, 999, 1000, -2] _ R (p2 + 1) 7 hr22 (by omega) (w3.heap.size) _ b21 rfl rfl (by omega) (by omega) (by omega)).mono ?_
  rintro e w4 ⟨n, n_m, rfl, hr24, hg25⟩
  have zs_w4 := hg25.size
  have o28 := own_gr o20 hg25 (by omega)
  clear o20
  have g26 := g23.trans (gr_of_below (B := w.heap.size) hg25 (by have := g23.size; first | exact this | (simp; omega) | omega) (by omega))
  have lt27 := rd_lt hr24
  clear hg25 hr22 g23
  have n_b : -2 ≤ n ∧ n ≤ 1000 := by simp at n_m; omega
  clear n_m
  clear b21
  have o29 := o28.keep (alloc_below _ (.cells #[.int .i64 30, .int .i64 40, .int .i64 50, .int .i64 0, .int .i64 9999, .int .i64 10000, .int .i64 (-1)] 3))
  clear o28
  have b30 := heap_alloc_new w4 (.cells #[.int .i64 30, .int .i64 40, .int .i64 50, .int .i64 0, .int .i64 9999, .int .i64 10000, .int .i64 (-1)] 3)
  have hr31 := rd_alloc hr24 (.cells #[.int .i64 30, .int .i64 40, .int .i64 50, .int .i64 0, .int .i64 9999, .int .i64 10000, .int .i64 (-1)] 3)
  have g32 := g26.alloc (by have := g26.size; first | exact this | (simp; omega) | omega) (.cells #[.int .i64 30, .int .i64 40, .int .i64 50, .int .i64 0, .int .i64 9999, .int .i64 10000, .int .i64 (-1)] 3)
  clear hr24 g26
  go_wp2_with fail
  refine (oneL_any [30, 40, 50, 0, 9999, 10000, -1] _ R (p2 + 1 + 1) 7 hr31 (by omega) (w4.heap.size) _ b30 rfl rfl (by omega) (by omega) (by omega)).mono ?_
  rintro e w5 ⟨m, m_m, rfl, hr33, hg34⟩
  have zs_w5 := hg34.size
  have o37 := own_gr o29 hg34 (by omega)
  clear o29
  have g35 := g32.trans (gr_of_below (B := w.heap.size) hg34 (by have := g32.size; first | exact this | (simp; omega) | omega) (by omega))
  have lt36 := rd_lt hr33
  clear hg34 hr31 g32
  have m_b : -1 ≤ m ∧ m ≤ 10000 := by simp at m_m; omega
  clear m_m
  clear b30
  have zz := g35.size
  have Hp := Lib.hid (show _ ∧ _ from ⟨own_rebase (B := w.heap.size) o37 (by omega), g35⟩)
  clear o37 g35
  go_wp2
  all_goals go_returns
  all_goals exact ⟨A, c, l, i, n, m, rfl, Hp.out.1, l5, i_b.1, i_b.2, n_b.1, n_b.2, m_b.1, m_b.2, Hp.out.2⟩
def DrNx (w : World) (e : Ending) (w' : World) : Prop :=
  ∃ (A : Option Addr) (c : Nat) (l : List InputR) (o n m : Int), e = .returned (.tuple #[.int .i64 o, .slice A l.length c, .int .i64 n, .int .i64 m]) ∧ Own InputR.enc 2 33 w' w.heap.size (.slice A l.length c) l ∧ l.length ≤ 5 ∧ -2 ≤ o ∧ o ≤ 1000 ∧ -1 ≤ n ∧ n ≤ 10000 ∧ -1 ≤ m ∧ m ≤ 10000 ∧ Below w.heap.size w w'
set_option maxRecDepth 100000 in
set_option maxHeartbeats 4000000 in
theorem drawNextMark_any (w : World) (a : Option Addr) (len cap : Nat) (z : List Int) (h : IsRow .u8 w a len cap z) (hl : len ≤ 1048576) : Calls Try.prog 27 #[.slice a len cap] w (DrNx w) := by
  go_enter Try.func27, Try.ntmps27
  have h0 := h
  have g1 := Below.refl w.heap.size w
  have ir2 := isRow_keep h g1
  clear h
  go_wp2_with fail
  refine (newReader_any _ a len cap z ir2 hl).mono ?_
  rintro e w1 ⟨R, rfl, hR, hrN, hbN⟩
  have g4 := g1.trans (hbN.mono (by omega))
  have lt5 := rd_lt hrN
  have sz6 := g4.size
  clear ir2 g1 hbN
  go_wp2_with fail
  refine (drawIdleInputs_any _ a len cap z (isRow_keep h0 g4) hl).mono ?_
  rintro e w2 ⟨A, c, l, n, m, rfl, o1, l5, n0, n1, m0, m1, bI⟩
  have hrI := rd_below hrN bI
  have gI := g4.trans (bI.mono g4.size)
  have zsI := bI.size
  have oI := own_rebase (B := w1.heap.size) o1 (Nat.le_refl _)
  clear hrN g4 bI o1
  have ltI := rd_lt hrI
  have o7 := oI.keep (alloc_below _ (.cells #[.int .i64 (-1), .int .i64 5, .int .i64 12, .int .i64 20, .int .i64 999, .int .i64 1000, .int .i64 (-2)] 3))
  clear oI
  have b8 := heap_alloc_new w2 (.cells #[.int .i64 (-1), .int .i64 5, .int .i64 12, .int .i64 20, .int .i64 999, .int .i64 1000, .int .i64 (-2)] 3)
  have hr9 := rd_alloc hrI (.cells #[.int .i64 (-1), .int .i64 5, .int .i64 12, .int .i64 20, .int .i64 999, .int .i64 1000, .int .i64 (-2)] 3)
  have g10 := gI.alloc (by have := gI.size; first | exact this | (simp; omega) | omega) (.cells #[.int .i64 (-1), .int .i64 5, .int .i64 12, .int .i64 20, .int .i64 999, .int .i64 1000, .int .i64 (-2)] 3)
  clear hrI gI
  go_wp2_with fail
  refine (oneL_any [-1, 5, 12, 20, 999, 1000, -2] _ R (0) 7 hr9 (by omega) (w2.heap.size) _ b8 rfl rfl (by omega) (by omega) (by omega)).mono ?_
  rintro e w3 ⟨o_, o__m, rfl, hr11, hg12⟩
  have zs_w3 := hg12.size
  have o15 := own_gr o7 hg12 (by omega)
  clear o7
  have g13 := g10.trans (gr_of_below (B := w.heap.size) hg12 (by have := g10.size; first | exact this | (simp; omega) | omega) (by omega))
  have lt14 := rd_lt hr11
  clear hg12 hr9 g10
  have o__b : -2 ≤ o_ ∧ o_ ≤ 1000 := by simp at o__m; omega
  clear o__m
  clear b8
  have zz := g13.size
  have Hp := Lib.hid (show _ ∧ _ from ⟨own_rebase (B := w.heap.size) o15 (by omega), g13⟩)
  clear o15 g13
  go_wp2
  all_goals go_returns
  all_goals exact ⟨A, c, l, o_, n, m, rfl, Hp.out.1, l5, o__b.1, o__b.2, n0, n1, m0, m1, Hp.out.2⟩
end Go.Proofs.Ytehedhkadjidpab
