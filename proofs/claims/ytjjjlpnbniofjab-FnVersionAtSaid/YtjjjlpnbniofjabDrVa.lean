import Derived.Test.YtjjjlpnbniofjabDrV
namespace Go.Proofs.Ytjjjlpnbniofjab
open Go.RowKit
def DrVa (w : World) (e : Ending) (w' : World) : Prop :=
  ∃ (A : Option Addr) (c : Nat) (l : List VersionR) (k t : Int), e = .returned (.tuple #[.slice A l.length c, .int .i64 k, .int .i64 t]) ∧ Own VersionR.enc 3 39 w' w.heap.size (.slice A l.length c) l ∧ l.length ≤ 40 ∧ -1 ≤ k ∧ k ≤ 4 ∧ -1 ≤ t ∧ t ≤ 1000 ∧ Below w.heap.size w w'
set_option maxHeartbeats 2000000 in
theorem drawVersionAt_any (w : World) (a : Option Addr) (len cap : Nat) (z : List Int) (h : IsRow .u8 w a len cap z) (hl : len ≤ 1048576) : Calls Try.prog 33 #[.slice a len cap] w (DrVa w) := by
  go_enter Try.func33, Try.ntmps33
  have g1 := Below.refl w.heap.size w
  have ir2 := isRow_keep h g1
  clear h
  go_wp2_with fail
  refine (newReader_any _ a len cap z ir2 hl).mono ?_
  rintro e w1 ⟨R, rfl, hR, hrN, hbN⟩
  have g4 := g1.trans (hbN.mono (by omega))
  have lt5 := rd_lt hrN
  have sz6 := g4.size
  clear ir2 g1 hbN
  go_wp2_with fail
  refine (anyTable_any _ R 0 hrN (by omega)).mono ?_
  rintro e w2 ⟨A, c, l, p2, rfl, o1, l20, hp2, hr7, hg8⟩
  have zs_w2 := hg8.size
  have g9 := g4.trans (gr_of_below (B := w.heap.size) hg8 (by have := g4.size; first | exact this | (simp; omega) | omega) (by omega))
  have lt10 := rd_lt hr7
  clear hg8 hrN g4
  go_wp2_with fail
  refine (pick_any 6 _ R (p2) hr7 (by omega) (by omega)).mono ?_
  rintro e w3 ⟨n, rfl, n_0, n_1, -, hr11, hg12, -⟩
  have zs_w3 := hg12.size
  have o15 := own_gr o1 hg12 (by omega)
  clear o1
  have g13 := g9.trans (gr_of_below (B := w.heap.size) hg12 (by have := g9.size; first | exact this | (simp; omega) | omega) (by omega))
  have lt14 := rd_lt hr11
  clear hg12 hr7 g9
  have n_2 := n_1 (by omega)
  have q0 : IntKind.i64.wrap (n - 1) = n - 1 := IntWalk.i64_in _ (by omega)
  have o16 := o15.keep (alloc_below _ (.cells #[.int .i64 10, .int .i64 20, .int .i64 30, .int .i64 40, .int .i64 0, .int .i64 (-1), .int .i64 999, .int .i64 1000] 3))
  clear o15
  have b17 := heap_alloc_new w3 (.cells #[.int .i64 10, .int .i64 20, .int .i64 30, .int .i64 40, .int .i64 0, .int .i64 (-1), .int .i64 999, .int .i64 1000] 3)
  have hr18 := rd_alloc hr11 (.cells #[.int .i64 10, .int .i64 20, .int .i64 30, .int .i64 40, .int .i64 0, .int .i64 (-1), .int .i64 999, .int .i64 1000] 3)
  have g19 := g13.alloc (by have := g13.size; first | exact this | (simp; omega) | omega) (.cells #[.int .i64 10, .int .i64 20, .int .i64 30, .int .i64 40, .int .i64 0, .int .i64 (-1), .int .i64 999, .int .i64 1000] 3)
  clear hr11 g13
  go_wp2_with fail
  refine (oneL_any [10, 20, 30, 40, 0, -1, 999, 1000] _ R (p2 + 1) 8 hr18 (by omega) (w3.heap.size) _ b17 rfl rfl (by omega) (by omega) (by omega)).mono ?_
  rintro e w4 ⟨m, m_m, rfl, hr20, hg21⟩
  have zs_w4 := hg21.size
  have o24 := own_gr o16 hg21 (by omega)
  clear o16
  have g22 := g19.trans (gr_of_below (B := w.heap.size) hg21 (by have := g19.size; first | exact this | (simp; omega) | omega) (by omega))
  have lt23 := rd_lt hr20
  clear hg21 hr18 g19
  have m_b : -1 ≤ m ∧ m ≤ 1000 := by simp at m_m; omega
  clear m_m
  clear b17
  have zz := g22.size
  have Hp := Lib.hid (show _ ∧ _ from ⟨own_rebase (B := w.heap.size) o24 (by omega), g22⟩)
  clear o24 g22
  go_wp2
  refine bodyPost_ret (v := .tuple #[.slice A l.length c, .int .i64 (n - 1), .int .i64 m]) (by simp [results, Try.results33, go_sem]) rfl ?_
  exact ⟨A, c, l, n - 1, m, rfl, Hp.out.1, l20, by omega, by omega, m_b.1, m_b.2, Hp.out.2⟩
end Go.Proofs.Ytjjjlpnbniofjab
