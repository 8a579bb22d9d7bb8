import Derived.Test.YtjjjlpnbniofjaaCn
import Derived.Test.YtjjjlpnbniofjaaFrK
import Derived.Test.YtjjjlpnbniofjaaLayB
import Derived.Test.YtjjjlpnbniofjaaOne
import Derived.Test.YtjjjlpnbniofjaaB4
import Derived.Test.YtjjjlpnbniofjaaBo
import Derived.Maps.OwnSet
namespace Go.Proofs.Ytjjjlpnbniofjaa
open Go.RowKit
open Go.Maps Go.Sort Go.Shelf
theorem allCk_nil (f : Value) (w : World) : Calls Try.prog 81 #[.slice none 0 0, f] w fun e w' => e = .returned (.bool true) ∧ Below w.heap.size w w' := by
  go_enter Try.func81, Try.ntmps81
  go_wp2
  go_rounds 1
  all_goals go_wp2
  all_goals go_returns
  all_goals exact ⟨rfl, by go_grown⟩
theorem ascCk_nil (f : Value) (w : World) : Calls Try.prog 83 #[.slice none 0 0, f] w fun e w' => e = .returned (.bool true) ∧ Below w.heap.size w w' := by
  go_enter Try.func83, Try.ntmps83
  go_wp2
  go_rounds 1
  all_goals go_wp2
  all_goals go_returns
  all_goals exact ⟨rfl, by go_grown⟩
theorem eqOpen_nil (w : World) : Calls Try.prog 77 #[.slice none 0 0, .slice none 0 0] w fun e w' => e = .returned (.bool true) ∧ Below w.heap.size w w' := by
  go_enter Try.func77, Try.ntmps77
  go_wp2
  go_rounds 1
  all_goals go_wp2
  all_goals go_returns
  all_goals exact ⟨rfl, by go_grown⟩
set_option maxHeartbeats 1000000 in
theorem equalCoord_nil (a b c : Int) (w : World) : Calls Try.prog 44 #[.agg #[.int .i64 a, .int .i64 b, .int .i64 c, .slice none 0 0], .agg #[.int .i64 a, .int .i64 b, .int .i64 c, .slice none 0 0]] w fun e w' => e = .returned (.bool true) ∧ Below w.heap.size w w' := by
  go_enter Try.func44, Try.ntmps44
  go_wp2_with fail
  refine (eqOpen_nil _).mono ?_
  rintro e w1 ⟨rfl, b1⟩
  go_wp2
  all_goals go_returns
  all_goals exact ⟨rfl, (((Below.refl _ _).alloc (Nat.le_refl _) _).alloc (by simp) _).trans (b1.mono (by simp; try omega))⟩
set_option maxRecDepth 100000 in
set_option maxHeartbeats 2000000 in
theorem validCn_t (x : Int) (w : World) (h0 : 1 ≤ x) (h1 : x ≤ 8) : Calls Try.prog 46 #[.agg #[.int .i64 x, .int .i64 1, .int .i64 0, .slice none 0 0]] w fun e w' => e = .returned (.bool true) ∧ Below w.heap.size w w' := by
  have X0 := Bo.made w #[.int .i64 x, .int .i64 1, .int .i64 0, .slice none 0 0] 46
  have hB : Below w.heap.size w (w.alloc (.cells #[.int .i64 x, .int .i64 1, .int .i64 0, .slice none 0 0] 46)) := (Below.refl _ _).alloc (Nat.le_refl _) _
  have p0 := X0.1 0 _ rfl
  have p1 := X0.1 1 _ rfl
  have p2 := X0.1 2 _ rfl
  have p3 := X0.1 3 _ rfl
  have pl := X0.2
  go_enter Try.func46, Try.ntmps46
  go_wp2_with fail
  generalize (w.alloc (.cells #[.int .i64 x, .int .i64 1, .int .i64 0, .slice none 0 0] 46)) = w0 at *
  refine (vtI_t x _ h0 h1).mono ?_
  rintro e w1 ⟨rfl, rfl⟩
  go_wp2_with fail
  refine (inRI_t 1 1 100 _ (by omega) (by omega)).mono ?_
  rintro e w1 ⟨rfl, rfl⟩
  go_wp2_with fail
  refine (inRI_t 0 0 0 _ (by omega) (by omega)).mono ?_
  rintro e w1 ⟨rfl, rfl⟩
  go_wp2_with fail
  refine (allCk_nil _ _).mono ?_
  rintro e w1 ⟨rfl, b1⟩
  have X1 := X0.keep b1
  have B1 := hB.trans (b1.mono hB.size)
  clear p0 p1 p2 p3 pl hB b1 X0
  have p0 := X1.1 0 _ rfl
  have p1 := X1.1 1 _ rfl
  have p2 := X1.1 2 _ rfl
  have p3 := X1.1 3 _ rfl
  have pl := X1.2
  go_wp2_with fail
  refine (ascCk_nil _ _).mono ?_
  rintro e w2 ⟨rfl, b2⟩
  have B2 := B1.trans (b2.mono B1.size)
  go_wp2
  all_goals go_returns
  all_goals exact ⟨rfl, B2⟩
def DrCn (w : World) (e : Ending) (w' : World) : Prop := ∃ k : Int, e = .returned (.int .i64 k) ∧ -1 ≤ k ∧ k ≤ 9 ∧ Below w.heap.size w w'
set_option maxHeartbeats 1000000 in
theorem drawCoordinatorNew_any (w : World) (a : Option Addr) (len cap : Nat) (z : List Int) (h : IsRow .u8 w a len cap z) (hl : len ≤ 1048576) :
    Calls Try.prog 43 #[.slice a len cap] w (DrCn w) := by
  go_enter Try.func43, Try.ntmps43
  go_wp2_with fail
  refine (newReader_any _ a len cap z h hl).mono ?_
  rintro e w1 ⟨R, rfl, hR, hrN, hbN⟩
  have lt5 := rd_lt hrN
  have sz6 := hbN.size
  have b7 := heap_alloc_new w1 (.cells #[.int .i64 1, .int .i64 2, .int .i64 3, .int .i64 8, .int .i64 0, .int .i64 9, .int .i64 (-1)] 3)
  have hr8 := rd_alloc hrN (.cells #[.int .i64 1, .int .i64 2, .int .i64 3, .int .i64 8, .int .i64 0, .int .i64 9, .int .i64 (-1)] 3)
  have g9 := hbN.alloc sz6 (.cells #[.int .i64 1, .int .i64 2, .int .i64 3, .int .i64 8, .int .i64 0, .int .i64 9, .int .i64 (-1)] 3)
  clear hrN hbN
  go_wp2_with fail
  refine (oneL_any [1, 2, 3, 8, 0, 9, -1] _ R (0) 7 hr8 (by omega) (w1.heap.size) _ b7 rfl rfl (by omega) (by omega) (by omega)).mono ?_
  rintro e w2 ⟨n, n_m, rfl, hr10, hg11⟩
  have g12 := g9.trans (gr_of_below (B := w.heap.size) hg11 (by have := g9.size; first | exact this | (simp; omega) | omega) (by omega))
  clear hg11 hr8 g9 hr10
  have n_b : -1 ≤ n ∧ n ≤ 9 := by simp at n_m; omega
  clear n_m b7
  go_wp2
  go_returns
  exact ⟨n, rfl, n_b.1, n_b.2, g12⟩
end Go.Proofs.Ytjjjlpnbniofjaa
