import Derived.Test.YtcpjidbinhfapaaOne
namespace Go.Proofs.Ytcpjidbinhfapaa
open Go.RowKit
def I1 (lo hi : Int) (w : World) (e : Ending) (w' : World) : Prop := ∃ k : Int, e = .returned (.int .i64 k) ∧ lo ≤ k ∧ k ≤ hi ∧ Below w.heap.size w w'
def I2 (a b c d : Int) (w : World) (e : Ending) (w' : World) : Prop := ∃ x y : Int, e = .returned (.tuple #[.int .i64 x, .int .i64 y]) ∧ a ≤ x ∧ x ≤ b ∧ c ≤ y ∧ y ≤ d ∧ Below w.heap.size w w'

set_option maxHeartbeats 1000000 in
theorem drawKeyGroup_any (w : World) (a : Option Addr) (len cap : Nat) (z : List Int) (h : IsRow .u8 w a len cap z) (hl : len ≤ 1048576) :
    Calls Try.prog 26 #[.slice a len cap] w (I1 (-1) 16 w) := by
  go_enter Try.func26, Try.ntmps26
  have g1 := Below.refl w.heap.size w
  have ir2 := isRow_keep h g1
  clear h
  go_wp2_with fail
  refine (newReader_any _ a len cap z ir2 hl).mono ?_
  rintro e w1 ⟨R, rfl, hR, hrN, hbN⟩
  have g4 := g1.trans (hbN.mono (by omega))
  have lt5 := rd_lt hrN
  have sz6 := g4.size
  clear ir2 g1 hbN
  go_wp2_with fail
  refine (pick_any 18 _ R (0) hrN (by omega) (by omega)).mono ?_
  rintro e w2 ⟨k, rfl, k_0, k_1, -, hr7, hg8, -⟩
  have g9 := g4.trans (gr_of_below (B := w.heap.size) hg8 (by have := g4.size; first | exact this | (simp; omega) | omega) (by omega))
  have lt10 := rd_lt hr7
  clear hg8 hrN g4
  have k_2 := k_1 (by omega)
  go_wp2
  go_returns
  exact ⟨k - 1, rfl, by omega, by omega, by first | exact g9 | go_grown⟩

set_option maxHeartbeats 1000000 in
theorem drawGroupRange_any (w : World) (a : Option Addr) (len cap : Nat) (z : List Int) (h : IsRow .u8 w a len cap z) (hl : len ≤ 1048576) :
    Calls Try.prog 27 #[.slice a len cap] w (I2 (-1) 8 0 9 w) := by
  go_enter Try.func27, Try.ntmps27
  have g1 := Below.refl w.heap.size w
  have ir2 := isRow_keep h g1
  clear h
  go_wp2_with fail
  refine (newReader_any _ a len cap z ir2 hl).mono ?_
  rintro e w1 ⟨R, rfl, hR, hrN, hbN⟩
  have g4 := g1.trans (hbN.mono (by omega))
  have lt5 := rd_lt hrN
  have sz6 := g4.size
  clear ir2 g1 hbN
  have b7 := heap_alloc_new w1 (.cells #[.int .i64 1, .int .i64 2, .int .i64 3, .int .i64 4, .int .i64 5, .int .i64 6, .int .i64 7, .int .i64 8, .int .i64 0, .int .i64 9] 3)
  have hr8 := rd_alloc hrN (.cells #[.int .i64 1, .int .i64 2, .int .i64 3, .int .i64 4, .int .i64 5, .int .i64 6, .int .i64 7, .int .i64 8, .int .i64 0, .int .i64 9] 3)
  have g9 := g4.alloc (by have := g4.size; first | exact this | (simp; omega) | omega) (.cells #[.int .i64 1, .int .i64 2, .int .i64 3, .int .i64 4, .int .i64 5, .int .i64 6, .int .i64 7, .int .i64 8, .int .i64 0, .int .i64 9] 3)
  clear hrN g4
  go_wp2_with fail
  refine (oneL_any [1, 2, 3, 4, 5, 6, 7, 8, 0, 9] _ R (0) 10 hr8 (by omega) (w1.heap.size) _ b7 rfl rfl (by omega) (by omega) (by omega)).mono ?_
  rintro e w2 ⟨n, n_m, rfl, hr10, hg11⟩
  have g12 := g9.trans (gr_of_below (B := w.heap.size) hg11 (by have := g9.size; first | exact this | (simp; omega) | omega) (by omega))
  have lt13 := rd_lt hr10
  clear hg11 hr8 g9
  have n_b : 0 ≤ n ∧ n ≤ 9 := by simp at n_m; omega
  clear n_m
  clear b7
  go_wp2_with fail
  refine (pick_any 10 _ R (0 + 1) hr10 (by omega) (by omega)).mono ?_
  rintro e w3 ⟨k, rfl, k_0, k_1, -, hr14, hg15, -⟩
  have g16 := g12.trans (gr_of_below (B := w.heap.size) hg15 (by have := g12.size; first | exact this | (simp; omega) | omega) (by omega))
  have lt17 := rd_lt hr14
  clear hg15 hr10 g12
  have k_2 := k_1 (by omega)
  go_wp2
  go_returns
  exact ⟨k - 1, n, rfl, by omega, by omega, by omega, by omega, by first | exact g16 | go_grown⟩

set_option maxHeartbeats 1000000 in
theorem drawSubtaskOf_any (w : World) (a : Option Addr) (len cap : Nat) (z : List Int) (h : IsRow .u8 w a len cap z) (hl : len ≤ 1048576) :
    Calls Try.prog 28 #[.slice a len cap] w (I2 (-1) 16 0 9 w) := by
  go_enter Try.func28, Try.ntmps28
  have g1 := Below.refl w.heap.size w
  have ir2 := isRow_keep h g1
  clear h
  go_wp2_with fail
  refine (newReader_any _ a len cap z ir2 hl).mono ?_
  rintro e w1 ⟨R, rfl, hR, hrN, hbN⟩
  have g4 := g1.trans (hbN.mono (by omega))
  have lt5 := rd_lt hrN
  have sz6 := g4.size
  clear ir2 g1 hbN
  go_wp2_with fail
  refine (pick_any 18 _ R (0) hrN (by omega) (by omega)).mono ?_
  rintro e w2 ⟨k, rfl, k_0, k_1, -, hr7, hg8, -⟩
  have g9 := g4.trans (gr_of_below (B := w.heap.size) hg8 (by have := g4.size; first | exact this | (simp; omega) | omega) (by omega))
  have lt10 := rd_lt hr7
  clear hg8 hrN g4
  have k_2 := k_1 (by omega)
  have b11 := heap_alloc_new w2 (.cells #[.int .i64 1, .int .i64 2, .int .i64 3, .int .i64 4, .int .i64 5, .int .i64 6, .int .i64 7, .int .i64 8, .int .i64 0, .int .i64 9] 3)
  have hr12 := rd_alloc hr7 (.cells #[.int .i64 1, .int .i64 2, .int .i64 3, .int .i64 4, .int .i64 5, .int .i64 6, .int .i64 7, .int .i64 8, .int .i64 0, .int .i64 9] 3)
  have g13 := g9.alloc (by have := g9.size; first | exact this | (simp; omega) | omega) (.cells #[.int .i64 1, .int .i64 2, .int .i64 3, .int .i64 4, .int .i64 5, .int .i64 6, .int .i64 7, .int .i64 8, .int .i64 0, .int .i64 9] 3)
  clear hr7 g9
  go_wp2_with fail
  refine (oneL_any [1, 2, 3, 4, 5, 6, 7, 8, 0, 9] _ R (0 + 1) 10 hr12 (by omega) (w2.heap.size) _ b11 rfl rfl (by omega) (by omega) (by omega)).mono ?_
  rintro e w3 ⟨n, n_m, rfl, hr14, hg15⟩
  have g16 := g13.trans (gr_of_below (B := w.heap.size) hg15 (by have := g13.size; first | exact this | (simp; omega) | omega) (by omega))
  have lt17 := rd_lt hr14
  clear hg15 hr12 g13
  have n_b : 0 ≤ n ∧ n ≤ 9 := by simp at n_m; omega
  clear n_m
  clear b11
  go_wp2
  go_returns
  exact ⟨k - 1, n, rfl, by omega, by omega, by omega, by omega, by first | exact g16 | go_grown⟩

set_option maxHeartbeats 1000000 in
theorem drawMovedGroups_any (w : World) (a : Option Addr) (len cap : Nat) (z : List Int) (h : IsRow .u8 w a len cap z) (hl : len ≤ 1048576) :
    Calls Try.prog 29 #[.slice a len cap] w (I2 0 9 0 9 w) := by
  go_enter Try.func29, Try.ntmps29
  have g1 := Below.refl w.heap.size w
  have ir2 := isRow_keep h g1
  clear h
  go_wp2_with fail
  refine (newReader_any _ a len cap z ir2 hl).mono ?_
  rintro e w1 ⟨R, rfl, hR, hrN, hbN⟩
  have g4 := g1.trans (hbN.mono (by omega))
  have lt5 := rd_lt hrN
  have sz6 := g4.size
  clear ir2 g1 hbN
  have b7 := heap_alloc_new w1 (.cells #[.int .i64 1, .int .i64 2, .int .i64 3, .int .i64 4, .int .i64 5, .int .i64 6, .int .i64 7, .int .i64 8, .int .i64 0, .int .i64 9] 3)
  have hr8 := rd_alloc hrN (.cells #[.int .i64 1, .int .i64 2, .int .i64 3, .int .i64 4, .int .i64 5, .int .i64 6, .int .i64 7, .int .i64 8, .int .i64 0, .int .i64 9] 3)
  have g9 := g4.alloc (by have := g4.size; first | exact this | (simp; omega) | omega) (.cells #[.int .i64 1, .int .i64 2, .int .i64 3, .int .i64 4, .int .i64 5, .int .i64 6, .int .i64 7, .int .i64 8, .int .i64 0, .int .i64 9] 3)
  clear hrN g4
  go_wp2_with fail
  refine (oneL_any [1, 2, 3, 4, 5, 6, 7, 8, 0, 9] _ R (0) 10 hr8 (by omega) (w1.heap.size) _ b7 rfl rfl (by omega) (by omega) (by omega)).mono ?_
  rintro e w2 ⟨n, n_m, rfl, hr10, hg11⟩
  have g12 := g9.trans (gr_of_below (B := w.heap.size) hg11 (by have := g9.size; first | exact this | (simp; omega) | omega) (by omega))
  have lt13 := rd_lt hr10
  clear hg11 hr8 g9
  have n_b : 0 ≤ n ∧ n ≤ 9 := by simp at n_m; omega
  clear n_m
  clear b7
  have b14 := heap_alloc_new w2 (.cells #[.int .i64 1, .int .i64 2, .int .i64 3, .int .i64 4, .int .i64 5, .int .i64 6, .int .i64 7, .int .i64 8, .int .i64 n, .int .i64 9, .int .i64 0] 3)
  have hr15 := rd_alloc hr10 (.cells #[.int .i64 1, .int .i64 2, .int .i64 3, .int .i64 4, .int .i64 5, .int .i64 6, .int .i64 7, .int .i64 8, .int .i64 n, .int .i64 9, .int .i64 0] 3)
  have g16 := g12.alloc (by have := g12.size; first | exact this | (simp; omega) | omega) (.cells #[.int .i64 1, .int .i64 2, .int .i64 3, .int .i64 4, .int .i64 5, .int .i64 6, .int .i64 7, .int .i64 8, .int .i64 n, .int .i64 9, .int .i64 0] 3)
  clear hr10 g12
  go_wp2_with fail
  refine (oneL_any [1, 2, 3, 4, 5, 6, 7, 8, n, 9, 0] _ R (0 + 1) 11 hr15 (by omega) (w2.heap.size) _ b14 rfl rfl (by omega) (by omega) (by omega)).mono ?_
  rintro e w3 ⟨m, m_m, rfl, hr17, hg18⟩
  have g19 := g16.trans (gr_of_below (B := w.heap.size) hg18 (by have := g16.size; first | exact this | (simp; omega) | omega) (by omega))
  have lt20 := rd_lt hr17
  clear hg18 hr15 g16
  clear b14
  have m_b : 0 ≤ m ∧ m ≤ 9 := by simp at m_m; omega
  clear m_m
  go_wp2
  go_returns
  exact ⟨n, m, rfl, by omega, by omega, by omega, by omega, by first | exact g19 | go_grown⟩

end Go.Proofs.Ytcpjidbinhfapaa
