import Derived.Test.YtehedhkadjidpaaDrEv2
namespace Go.Proofs.Ytehedhkadjidpaa
open Go.RowKit
def DrMk (w : World) (e : Ending) (w' : World) : Prop :=
  ∃ (A : Option Addr) (c : Nat) (l : List EventR) (n : Int), e = .returned (.tuple #[.slice A l.length c, .int .i64 n]) ∧ Own EventR.enc 3 32 w' w.heap.size (.slice A l.length c) l ∧ l.length ≤ 41 ∧ -1 ≤ n ∧ n ≤ 1000 ∧ Below w.heap.size w w'
set_option maxHeartbeats 2000000 in
theorem drawMarksOf_any (w : World) (a : Option Addr) (len cap : Nat) (z : List Int) (h : IsRow .u8 w a len cap z) (hl : len ≤ 1048576) : Calls Try.prog 37 #[.slice a len cap] w (DrMk w) := by
  go_enter Try.func37, Try.ntmps37
  have g1 := Below.refl w.heap.size w
  have ir2 := isRow_keep h g1
  clear h
  go_wp2_with fail
  refine (newReader_any _ a len cap z ir2 hl).mono ?_
  rintro e w1 ⟨R, rfl, hR, hrN, hbN⟩
  have g4 := g1.trans (hbN.mono (by omega))
  have lt5 := rd_lt hrN
  have sz6 := g4.size
  clear ir2 g1 hbN
  go_wp2_with fail
  refine (anyEvents_any _ R 0 hrN (by omega)).mono ?_
  rintro e w2 ⟨A, c, l, p2, rfl, o1, l20, hp2, hr7, hg8⟩
  have zs_w2 := hg8.size
  have g9 := g4.trans (gr_of_below (B := w.heap.size) hg8 (by have := g4.size; first | exact this | (simp; omega) | omega) (by omega))
  have lt10 := rd_lt hr7
  clear hg8 hrN g4
  have o11 := o1.keep (alloc_below _ (.cells #[.int .i64 0, .int .i64 1, .int .i64 2, .int .i64 4, .int .i64 8, .int .i64 999, .int .i64 1000, .int .i64 (-1)] 3))
  clear o1
  have b12 := heap_alloc_new w2 (.cells #[.int .i64 0, .int .i64 1, .int .i64 2, .int .i64 4, .int .i64 8, .int .i64 999, .int .i64 1000, .int .i64 (-1)] 3)
  have hr13 := rd_alloc hr7 (.cells #[.int .i64 0, .int .i64 1, .int .i64 2, .int .i64 4, .int .i64 8, .int .i64 999, .int .i64 1000, .int .i64 (-1)] 3)
  have g14 := g9.alloc (by have := g9.size; first | exact this | (simp; omega) | omega) (.cells #[.int .i64 0, .int .i64 1, .int .i64 2, .int .i64 4, .int .i64 8, .int .i64 999, .int .i64 1000, .int .i64 (-1)] 3)
  clear hr7 g9
  go_wp2_with fail
  refine (oneL_any [0, 1, 2, 4, 8, 999, 1000, -1] _ R (p2) 8 hr13 (by omega) (w2.heap.size) _ b12 rfl rfl (by omega) (by omega) (by omega)).mono ?_
  rintro e w3 ⟨n, n_m, rfl, hr15, hg16⟩
  have zs_w3 := hg16.size
  have o19 := own_gr o11 hg16 (by omega)
  clear o11
  have g17 := g14.trans (gr_of_below (B := w.heap.size) hg16 (by have := g14.size; first | exact this | (simp; omega) | omega) (by omega))
  have lt18 := rd_lt hr15
  clear hg16 hr13 g14
  have n_b : -1 ≤ n ∧ n ≤ 1000 := by simp at n_m; omega
  clear n_m
  clear b12
  have zz := g17.size
  have Hp := Lib.hid (show _ ∧ _ from ⟨own_rebase (B := w.heap.size) o19 (by omega), g17⟩)
  clear o19 g17
  go_wp2
  refine bodyPost_ret (v := .tuple #[.slice A l.length c, .int .i64 n]) (by simp [results, Try.results37, go_sem]) rfl ?_
  exact ⟨A, c, l, n, rfl, Hp.out.1, l20, n_b.1, n_b.2, Hp.out.2⟩
end Go.Proofs.Ytehedhkadjidpaa
