import Derived.Test.YtgnogkkdojagcaaDrEv2
import Derived.Test.YtgnogkkdojagcaaOne
namespace Go.Proofs.Ytgnogkkdojagcaa
open Go.RowKit
def RgPost (w : World) (R p : Nat) (e : Ending) (w' : World) : Prop :=
  ∃ (low high : Int) (p' : Nat), e = .returned (.tuple #[.int .i64 low, .int .i64 high]) ∧ -1000 ≤ low ∧ low ≤ 3 ∧ -1001 ≤ high ∧ high ≤ 1000 ∧ p' ≤ p + 2 ∧ Rd w' R p' ∧ Gr w w' R
set_option maxRecDepth 100000 in
set_option maxHeartbeats 4000000 in
theorem anyRange_any (w : World) (R p : Nat) (h : Rd w R p) (hp : p + 2 ≤ 1000000000) : Calls Try.prog 34 #[.pointer (some ⟨R, 0, none⟩)] w (RgPost w R p) := by
  have hR := rd_lt h
  have g1 := gr_refl w R
  have hr2 := h
  go_enter Try.func34, Try.ntmps34
  have b3 := heap_alloc_new w (.cells #[.int .i64 0, .int .i64 (-2), .int .i64 (-5), .int .i64 1, .int .i64 3, .int .i64 (-999), .int .i64 (-1000)] 3)
  have hr4 := rd_alloc hr2 (.cells #[.int .i64 0, .int .i64 (-2), .int .i64 (-5), .int .i64 1, .int .i64 3, .int .i64 (-999), .int .i64 (-1000)] 3)
  have g5 := gr_alloc g1 (.cells #[.int .i64 0, .int .i64 (-2), .int .i64 (-5), .int .i64 1, .int .i64 3, .int .i64 (-999), .int .i64 (-1000)] 3)
  clear hr2 g1
  go_wp2_with fail
  refine (oneL_any [0, -2, -5, 1, 3, -999, -1000] _ R (p) 7 hr4 (by omega) (w.heap.size) _ b3 rfl rfl (by omega) (by omega) (by omega)).mono ?_
  rintro e w1 ⟨low, low_m, rfl, hr6, hg7⟩
  have zs_w1 := hg7.size
  have g8 := gr_trans g5 hg7
  have lt9 := rd_lt hr6
  clear hg7 hr4 g5
  have low_b : -1000 ≤ low ∧ low ≤ 3 := by simp at low_m; omega
  clear low_m
  clear b3
  have e1 : IntKind.i64.wrap (low + 3) = low + 3 := IntWalk.i64_in _ (by omega)
  have e2 : IntKind.i64.wrap (low + 6) = low + 6 := IntWalk.i64_in _ (by omega)
  have e3 : IntKind.i64.wrap (low + 10) = low + 10 := IntWalk.i64_in _ (by omega)
  have e4 : IntKind.i64.wrap (low - 1) = low - 1 := IntWalk.i64_in _ (by omega)
  have b10 := heap_alloc_new w1 (.cells #[.int .i64 low, .int .i64 (low + 3), .int .i64 (low + 6), .int .i64 (low + 10), .int .i64 (low - 1), .int .i64 999, .int .i64 1000] 3)
  have hr11 := rd_alloc hr6 (.cells #[.int .i64 low, .int .i64 (low + 3), .int .i64 (low + 6), .int .i64 (low + 10), .int .i64 (low - 1), .int .i64 999, .int .i64 1000] 3)
  have g12 := gr_alloc g8 (.cells #[.int .i64 low, .int .i64 (low + 3), .int .i64 (low + 6), .int .i64 (low + 10), .int .i64 (low - 1), .int .i64 999, .int .i64 1000] 3)
  clear hr6 g8
  go_wp2_with fail
  refine (oneL_any [low, (low + 3), (low + 6), (low + 10), (low - 1), 999, 1000] _ R (p + 1) 7 hr11 (by omega) (w1.heap.size) _ b10 rfl rfl (by omega) (by omega) (by omega)).mono ?_
  rintro e w2 ⟨high, high_m, rfl, hr13, hg14⟩
  have zs_w2 := hg14.size
  have g15 := gr_trans g12 hg14
  have lt16 := rd_lt hr13
  clear hg14 hr11 g12
  clear b10
  have high_b : -1001 ≤ high ∧ high ≤ 1000 := by simp at high_m; omega
  clear high_m
  have zz := g15.size
  go_wp2
  all_goals go_returns
  all_goals exact ⟨low, high, p + 1 + 1, rfl, by omega, by omega, by omega, by omega, by omega, hr13, g15⟩
def DrIj (w : World) (e : Ending) (w' : World) : Prop :=
  ∃ (A : Option Addr) (c : Nat) (l : List EventR) (A2 : Option Addr) (c2 : Nat) (m : List EventR) (low high : Int), e = .returned (.tuple #[.slice A l.length c, .slice A2 m.length c2, .int .i64 low, .int .i64 high]) ∧ Own EventR.enc 3 42 w' w.heap.size (.slice A l.length c) l ∧ Own EventR.enc 3 42 w' w.heap.size (.slice A2 m.length c2) m ∧ l.length ≤ 41 ∧ m.length ≤ 41 ∧ -1000 ≤ low ∧ low ≤ 3 ∧ -1001 ≤ high ∧ high ≤ 1000 ∧ Below w.heap.size w w'
set_option maxRecDepth 100000 in
set_option maxHeartbeats 4000000 in
theorem drawIntervalJoin_any (w : World) (a : Option Addr) (len cap : Nat) (z : List Int) (h : IsRow .u8 w a len cap z) (hl : len ≤ 1048576) : Calls Try.prog 13 #[.slice a len cap] w (DrIj w) := by
  go_enter Try.func13, Try.ntmps13
  have g1 := Below.refl w.heap.size w
  have ir2 := isRow_keep h g1
  clear h
  go_wp2_with fail
  refine (newReader_any _ a len cap z ir2 hl).mono ?_
  rintro e w1 ⟨R, rfl, hR, hrN, hbN⟩
  have g4 := g1.trans (hbN.mono (by omega))
  have lt5 := rd_lt hrN
  have sz6 := g4.size
  clear ir2 g1 hbN
  go_wp2_with fail
  refine (anyEvents_any _ R 0 hrN (by omega)).mono ?_
  rintro e w2 ⟨A, c, l, p2, rfl, o1, l41, hp2, hr7, hg8⟩
  have zs_w2 := hg8.size
  have g9 := g4.trans (gr_of_below (B := w.heap.size) hg8 (by have := g4.size; first | exact this | (simp; omega) | omega) (by omega))
  have lt10 := rd_lt hr7
  clear hg8 hrN g4
  go_wp2_with fail
  refine (anyEvents_any _ R p2 hr7 (by omega)).mono ?_
  rintro e w3 ⟨A2, c2, m, p3, rfl, o2, m41, hp3, hr11, hg12⟩
  have zs_w3 := hg12.size
  have o15 := own_gr o1 hg12 (by omega)
  clear o1
  have g13 := g9.trans (gr_of_below (B := w.heap.size) hg12 (by have := g9.size; first | exact this | (simp; omega) | omega) (by omega))
  have lt14 := rd_lt hr11
  clear hg12 hr7 g9
  go_wp2_with fail
  refine (anyRange_any _ R p3 hr11 (by omega)).mono ?_
  rintro e w4 ⟨low, high, p4, rfl, y0, y1, y2, y3, hp4, hr16, hg17⟩
  have zs_w4 := hg17.size
  have o20 := own_gr o15 hg17 (by omega)
  clear o15
  have o21 := own_gr o2 hg17 (by omega)
  clear o2
  have g18 := g13.trans (gr_of_below (B := w.heap.size) hg17 (by have := g13.size; first | exact this | (simp; omega) | omega) (by omega))
  have lt19 := rd_lt hr16
  clear hg17 hr11 g13
  have zz := g18.size
  have Hp := Lib.hid (show _ ∧ _ ∧ _ from ⟨own_rebase (B := w.heap.size) o20 (by omega), own_rebase (B := w.heap.size) o21 (by omega), g18⟩)
  clear o20 o21 g18
  go_wp2
  all_goals go_returns
  all_goals exact ⟨A, c, l, A2, c2, m, low, high, rfl, Hp.out.1, Hp.out.2.1, l41, m41, y0, y1, y2, y3, Hp.out.2.2⟩
end Go.Proofs.Ytgnogkkdojagcaa
