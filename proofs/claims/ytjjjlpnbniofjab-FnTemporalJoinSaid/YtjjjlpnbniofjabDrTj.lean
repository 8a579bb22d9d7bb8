import Derived.Test.YtjjjlpnbniofjabDrEv2
import Derived.Test.YtjjjlpnbniofjabDrV
namespace Go.Proofs.Ytjjjlpnbniofjab
open Go.RowKit
def DrTj (w : World) (e : Ending) (w' : World) : Prop :=
  ∃ (A : Option Addr) (c : Nat) (l : List EventR) (At : Option Addr) (ct : Nat) (t : List VersionR), e = .returned (.tuple #[.slice A l.length c, .slice At t.length ct]) ∧ Own EventR.enc 3 55 w' w.heap.size (.slice A l.length c) l ∧ Own VersionR.enc 3 39 w' w.heap.size (.slice At t.length ct) t ∧ l.length ≤ 41 ∧ t.length ≤ 40 ∧ Below w.heap.size w w'
set_option maxHeartbeats 2000000 in
theorem drawTemporalJoin_any (w : World) (a : Option Addr) (len cap : Nat) (z : List Int) (h : IsRow .u8 w a len cap z) (hl : len ≤ 1048576) : Calls Try.prog 35 #[.slice a len cap] w (DrTj w) := by
  go_enter Try.func35, Try.ntmps35
  have g1 := Below.refl w.heap.size w
  have ir2 := isRow_keep h g1
  clear h
  go_wp2_with fail
  refine (newReader_any _ a len cap z ir2 hl).mono ?_
  rintro e w1 ⟨R, rfl, hR, hrN, hbN⟩
  have g4 := g1.trans (hbN.mono (by omega))
  have lt5 := rd_lt hrN
  have sz6 := g4.size
  clear ir2 g1 hbN
  go_wp2_with fail
  refine (anyEvents_any _ R 0 hrN (by omega)).mono ?_
  rintro e w2 ⟨A, c, l, p2, rfl, o1, l41, hp2, hr7, hg8⟩
  have zs_w2 := hg8.size
  have g9 := g4.trans (gr_of_below (B := w.heap.size) hg8 (by have := g4.size; first | exact this | (simp; omega) | omega) (by omega))
  have lt10 := rd_lt hr7
  clear hg8 hrN g4
  go_wp2_with fail
  refine (anyTable_any _ R p2 hr7 (by omega)).mono ?_
  rintro e w3 ⟨At, ct, t, p3, rfl, o2, t40, hp3, hr11, hg12⟩
  have zs_w3 := hg12.size
  have o15 := own_gr o1 hg12 (by omega)
  clear o1
  have g13 := g9.trans (gr_of_below (B := w.heap.size) hg12 (by have := g9.size; first | exact this | (simp; omega) | omega) (by omega))
  have lt14 := rd_lt hr11
  clear hg12 hr7 g9
  have zz := g13.size
  have Hp := Lib.hid (show _ ∧ _ ∧ _ from ⟨own_rebase (B := w.heap.size) o15 (by omega), own_rebase (B := w.heap.size) o2 (by omega), g13⟩)
  clear o15 o2 g13
  go_wp2
  refine bodyPost_ret (v := .tuple #[.slice A l.length c, .slice At t.length ct]) (by simp [results, Try.results35, go_sem]) rfl ?_
  exact ⟨A, c, l, At, ct, t, rfl, Hp.out.1, Hp.out.2.1, l41, t40, Hp.out.2.2⟩
end Go.Proofs.Ytjjjlpnbniofjab
