import Derived.Test.YtehedhkadjidpaaDrMk
import Derived.Test.YtehedhkadjidpaaSoZ
namespace Go.Proofs.Ytehedhkadjidpaa
open Go.RowKit
def DrSe (w : World) (e : Ending) (w' : World) : Prop :=
  ∃ (A : Option Addr) (c : Nat) (l : List EventR), e = .returned (.slice A l.length c) ∧ Own EventR.enc 3 32 w' w.heap.size (.slice A l.length c) l ∧ l.length ≤ 41 ∧ Below w.heap.size w w'
set_option maxRecDepth 100000 in
set_option maxHeartbeats 4000000 in
theorem drawSortEvents_any (w : World) (a : Option Addr) (len cap : Nat) (z : List Int) (h : IsRow .u8 w a len cap z) (hl : len ≤ 1048576) : Calls Try.prog 26 #[.slice a len cap] w (DrSe w) := by
  go_enter Try.func26, Try.ntmps26
  have g1 := Below.refl w.heap.size w
  have ir2 := isRow_keep h g1
  clear h
  go_wp2_with fail
  refine (newReader_any _ a len cap z ir2 hl).mono ?_
  rintro e w1 ⟨R, rfl, hR, hrN, hbN⟩
  have g4 := g1.trans (hbN.mono (by omega))
  have lt5 := rd_lt hrN
  have sz6 := g4.size
  clear ir2 g1 hbN
  go_wp2_with fail
  refine (anyEvents_any _ R 0 hrN (by omega)).mono ?_
  rintro e w2 ⟨A, c, l, p2, rfl, o1, l20, hp2, hr7, hg8⟩
  have zs_w2 := hg8.size
  have g9 := g4.trans (gr_of_below (B := w.heap.size) hg8 (by have := g4.size; first | exact this | (simp; omega) | omega) (by omega))
  have lt10 := rd_lt hr7
  clear hg8 hrN g4
  have zz := g9.size
  have Hp := Lib.hid (show _ ∧ _ from ⟨own_rebase (B := w.heap.size) o1 (by omega), g9⟩)
  clear o1 g9
  go_wp2
  all_goals go_returns
  all_goals exact ⟨A, c, l, rfl, Hp.out.1, l20, Hp.out.2⟩
set_option maxHeartbeats 1000000 in
theorem drawLateEvents_any (w : World) (a : Option Addr) (len cap : Nat) (z : List Int) (h : IsRow .u8 w a len cap z) (hl : len ≤ 1048576) : Calls Try.prog 41 #[.slice a len cap] w (DrMk w) := by
  go_enter Try.func41, Try.ntmps41
  go_wp2_with fail
  refine (drawMarksOf_any _ a len cap z h hl).mono ?_
  rintro e w1 ⟨A, c, l, n, rfl, o1, l41, n0, n1, b⟩
  have Hp := Lib.hid (show _ ∧ _ from ⟨o1, b⟩)
  clear o1 b
  go_wp2
  all_goals go_returns
  all_goals exact ⟨A, c, l, n, rfl, Hp.out.1, l41, n0, n1, Hp.out.2⟩
def DrFe (w : World) (e : Ending) (w' : World) : Prop :=
  ∃ (A : Option Addr) (c : Nat) (l : List EventR) (lo hi : Int), e = .returned (.tuple #[.slice A l.length c, .int .i64 lo, .int .i64 hi]) ∧ Own EventR.enc 3 32 w' w.heap.size (.slice A l.length c) l ∧ l.length ≤ 41 ∧ -1 ≤ lo ∧ lo ≤ 20 ∧ -10 ≤ hi ∧ hi ≤ 40 ∧ Below w.heap.size w w'
set_option maxRecDepth 100000 in
set_option maxHeartbeats 4000000 in
theorem drawFilterEvents_any (w : World) (a : Option Addr) (len cap : Nat) (z : List Int) (h : IsRow .u8 w a len cap z) (hl : len ≤ 1048576) : Calls Try.prog 34 #[.slice a len cap] w (DrFe w) := by
  go_enter Try.func34, Try.ntmps34
  have g1 := Below.refl w.heap.size w
  have ir2 := isRow_keep h g1
  clear h
  go_wp2_with fail
  refine (newReader_any _ a len cap z ir2 hl).mono ?_
  rintro e w1 ⟨R, rfl, hR, hrN, hbN⟩
  have g4 := g1.trans (hbN.mono (by omega))
  have lt5 := rd_lt hrN
  have sz6 := g4.size
  clear ir2 g1 hbN
  go_wp2_with fail
  refine (anyEvents_any _ R 0 hrN (by omega)).mono ?_
  rintro e w2 ⟨A, c, l, p2, rfl, o1, l20, hp2, hr7, hg8⟩
  have zs_w2 := hg8.size
  have g9 := g4.trans (gr_of_below (B := w.heap.size) hg8 (by have := g4.size; first | exact this | (simp; omega) | omega) (by omega))
  have lt10 := rd_lt hr7
  clear hg8 hrN g4
  go_wp2_with fail
  refine (pick_any 10 _ R (p2) hr7 (by omega) (by omega)).mono ?_
  rintro e w3 ⟨n, rfl, n_0, n_1, -, hr11, hg12, -⟩
  have zs_w3 := hg12.size
  have o15 := own_gr o1 hg12 (by omega)
  clear o1
  have g13 := g9.trans (gr_of_below (B := w.heap.size) hg12 (by have := g9.size; first | exact this | (simp; omega) | omega) (by omega))
  have lt14 := rd_lt hr11
  clear hg12 hr7 g9
  have n_2 := n_1 (by omega)
  have q0 : IntKind.i64.wrap (n - 1) = n - 1 := IntWalk.i64_in _ (by omega)
  go_wp2_with fail
  refine (pick_any 9 _ R (p2 + 1) hr11 (by omega) (by omega)).mono ?_
  rintro e w4 ⟨m, rfl, m_0, m_1, -, hr16, hg17, -⟩
  have zs_w4 := hg17.size
  have o20 := own_gr o15 hg17 (by omega)
  clear o15
  have g18 := g13.trans (gr_of_below (B := w.heap.size) hg17 (by have := g13.size; first | exact this | (simp; omega) | omega) (by omega))
  have lt19 := rd_lt hr16
  clear hg17 hr11 g13
  have m_2 := m_1 (by omega)
  have zz := g18.size
  have Hp := Lib.hid (show _ ∧ _ from ⟨own_rebase (B := w.heap.size) o20 (by omega), g18⟩)
  clear o20 g18
  go_wp2
  refine bodyPost_ret (v := .tuple #[.slice A l.length c, .int .i64 (n - 1), .int .i64 (n - 1 + m - 1)]) (by simp [results, Try.results34, go_sem]) rfl ?_
  exact ⟨A, c, l, n - 1, n - 1 + m - 1, rfl, Hp.out.1, l20, by omega, by omega, by omega, by omega, Hp.out.2⟩
end Go.Proofs.Ytehedhkadjidpaa
