import Derived.Test.YtmbhpnjhhhcjiaaOne
namespace Go.Proofs.Ytmbhpnjhhhcjiaa
open Go.RowKit
def KNPost (w : World) (e : Ending) (w' : World) : Prop :=
  ∃ k n : Int, e = .returned (.tuple #[.int .i64 k, .int .i64 n]) ∧ -1 ≤ k ∧ k ≤ 16 ∧ 0 ≤ n ∧ n ≤ 5 ∧ Below w.heap.size w w'

set_option maxHeartbeats 1000000 in
theorem drawPartOf_any (w : World) (a : Option Addr) (len cap : Nat) (z : List Int) (h : IsRow .u8 w a len cap z) (hl : len ≤ 1048576) :
    Calls Try.prog 39 #[.slice a len cap] w (KNPost w) := by
  go_enter Try.func39, Try.ntmps39
  have g1 := Below.refl w.heap.size w
  have ir2 := isRow_keep h g1
  clear h
  go_wp2_with fail
  refine (newReader_any _ a len cap z ir2 hl).mono ?_
  rintro e w1 ⟨R, rfl, hR, hrN, hbN⟩
  have g4 := g1.trans (hbN.mono (by omega))
  have lt5 := rd_lt hrN
  have sz6 := g4.size
  clear ir2 g1 hbN
  go_wp2_with fail
  refine (pick_any 18 _ R (0) hrN (by omega) (by omega)).mono ?_
  rintro e w2 ⟨x, rfl, x_0, x_1, -, hr7, hg8, -⟩
  have g9 := g4.trans (gr_of_below (B := w.heap.size) hg8 (by have := g4.size; first | exact this | (simp; omega) | omega) (by omega))
  have lt10 := rd_lt hr7
  clear hg8 hrN g4
  have hx : x ≤ 17 := by omega
  clear x_1
  have b11 := heap_alloc_new w2 (.cells #[.int .i64 1, .int .i64 2, .int .i64 3, .int .i64 4, .int .i64 0, .int .i64 5] 3)
  have hr12 := rd_alloc hr7 (.cells #[.int .i64 1, .int .i64 2, .int .i64 3, .int .i64 4, .int .i64 0, .int .i64 5] 3)
  have g13 := g9.alloc (by have := g9.size; first | exact this | (simp; omega) | omega) (.cells #[.int .i64 1, .int .i64 2, .int .i64 3, .int .i64 4, .int .i64 0, .int .i64 5] 3)
  clear hr7 g9
  go_wp2_with fail
  refine (oneL_any [1, 2, 3, 4, 0, 5] _ R (0 + 1) 6 hr12 (by omega) (w2.heap.size) _ b11 rfl rfl (by omega) (by omega) (by omega)).mono ?_
  rintro e w3 ⟨n, n_m, rfl, hr14, hg15⟩
  have g16 := g13.trans (gr_of_below (B := w.heap.size) hg15 (by have := g13.size; first | exact this | (simp; omega) | omega) (by omega))
  have lt17 := rd_lt hr14
  clear hg15 hr12 g13
  have n_b : 0 ≤ n ∧ n ≤ 5 := by simp at n_m; omega
  clear n_m
  clear b11
  go_wp2
  go_ret2
  refine ⟨x - 1, n, rfl, by omega, by omega, n_b.1, n_b.2, ?_⟩
  · exact g16

end Go.Proofs.Ytmbhpnjhhhcjiaa
