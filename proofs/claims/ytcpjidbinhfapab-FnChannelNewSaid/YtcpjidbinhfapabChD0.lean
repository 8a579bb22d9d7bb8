import Derived.Test.YtcpjidbinhfapabOne
namespace Go.Proofs.Ytcpjidbinhfapab
open Go.RowKit
def I1 (lo hi : Int) (w : World) (e : Ending) (w' : World) : Prop := ∃ k : Int, e = .returned (.int .i64 k) ∧ lo ≤ k ∧ k ≤ hi ∧ Below w.heap.size w w'
def I2 (a b c d : Int) (w : World) (e : Ending) (w' : World) : Prop := ∃ x y : Int, e = .returned (.tuple #[.int .i64 x, .int .i64 y]) ∧ a ≤ x ∧ x ≤ b ∧ c ≤ y ∧ y ≤ d ∧ Below w.heap.size w w'

set_option maxHeartbeats 1000000 in
theorem drawChannelNew_any (w : World) (a : Option Addr) (len cap : Nat) (z : List Int) (h : IsRow .u8 w a len cap z) (hl : len ≤ 1048576) :
    Calls Try.prog 9 #[.slice a len cap] w (I1 (-1) 9 w) := by
  go_enter Try.func9, Try.ntmps9
  have g1 := Below.refl w.heap.size w
  have ir2 := isRow_keep h g1
  clear h
  go_wp2_with fail
  refine (newReader_any _ a len cap z ir2 hl).mono ?_
  rintro e w1 ⟨R, rfl, hR, hrN, hbN⟩
  have g4 := g1.trans (hbN.mono (by omega))
  have lt5 := rd_lt hrN
  have sz6 := g4.size
  clear ir2 g1 hbN
  have b7 := heap_alloc_new w1 (.cells #[.int .i64 1, .int .i64 2, .int .i64 5, .int .i64 8, .int .i64 0, .int .i64 9, .int .i64 (-1)] 3)
  have hr8 := rd_alloc hrN (.cells #[.int .i64 1, .int .i64 2, .int .i64 5, .int .i64 8, .int .i64 0, .int .i64 9, .int .i64 (-1)] 3)
  have g9 := g4.alloc (by have := g4.size; first | exact this | (simp; omega) | omega) (.cells #[.int .i64 1, .int .i64 2, .int .i64 5, .int .i64 8, .int .i64 0, .int .i64 9, .int .i64 (-1)] 3)
  clear hrN g4
  go_wp2_with fail
  refine (oneL_any [1, 2, 5, 8, 0, 9, -1] _ R (0) 7 hr8 (by omega) (w1.heap.size) _ b7 rfl rfl (by omega) (by omega) (by omega)).mono ?_
  rintro e w2 ⟨n, n_m, rfl, hr10, hg11⟩
  have g12 := g9.trans (gr_of_below (B := w.heap.size) hg11 (by have := g9.size; first | exact this | (simp; omega) | omega) (by omega))
  have lt13 := rd_lt hr10
  clear hg11 hr8 g9
  have n_b : -1 ≤ n ∧ n ≤ 9 := by simp at n_m; omega
  clear n_m
  clear b7
  go_wp2
  go_returns
  exact ⟨n, rfl, by omega, by omega, by first | exact g12 | go_grown⟩

end Go.Proofs.Ytcpjidbinhfapab
