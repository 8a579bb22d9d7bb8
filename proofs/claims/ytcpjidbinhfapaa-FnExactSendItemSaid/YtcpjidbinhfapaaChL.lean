import Derived.Test.YtcpjidbinhfapaaTyItem
import Derived.Test.YtcpjidbinhfapaaChF
namespace Go.Proofs.Ytcpjidbinhfapaa
open Go.RowKit
set_option maxHeartbeats 1000000 in
theorem szChannel_ok (a b : Int) (A : Option Addr) (n c : Nat) (x : Int) (w : World) (h : (n : Int) ≤ x) (hx : x ≤ 1048576) :
    Calls Try.prog 36 #[.agg #[.int .i64 a, .int .i64 b, .slice A n c], .int .i64 x] w fun e w' => e = .returned (.int .i64 (x - (n : Int))) ∧ Below w.heap.size w w' := by
  go_enter Try.func36, Try.ntmps36
  go_wp2_with fail
  refine (szItemS_ok A n c x _ (by omega) hx).mono ?_
  rintro e w1 ⟨rfl, rfl⟩
  go_wp2
  all_goals go_returns
  all_goals exact ⟨rfl, by go_grown⟩
set_option maxHeartbeats 1000000 in
theorem szChannel_big (a b : Int) (A : Option Addr) (n c : Nat) (x : Int) (w : World) (h : x < (n : Int)) (h0 : 0 ≤ x) (hx : x ≤ 1048576) (hn : n ≤ maxLen) :
    Calls Try.prog 36 #[.agg #[.int .i64 a, .int .i64 b, .slice A n c], .int .i64 x] w fun e w' => e = .returned (.int .i64 (-1)) ∧ Below w.heap.size w w' := by
  go_enter Try.func36, Try.ntmps36
  go_wp2_with fail
  refine (szItemS_big A n c x _ h h0 hn).mono ?_
  rintro e w1 ⟨rfl, rfl⟩
  go_wp2
  all_goals go_returns
  all_goals exact ⟨rfl, by go_grown⟩
set_option maxRecDepth 100000 in
set_option maxHeartbeats 4000000 in
theorem toChannel_any (a b : Int) (A : Option Addr) (c : Nat) (l : List ItemR) (w : World) (ha : Row ItemR.enc 2 w A l) :
    Calls Try.prog 38 #[.agg #[.int .i64 a, .int .i64 b, .slice A l.length c]] w (ChPost w a b l) := by
  have x0 := ((Bx.made w (.int .i64 a) (.int .i64 b) (.slice A l.length c) 44).keep ((Below.refl _ _).alloc (Nat.le_refl _) (.cells #[.int .i64 0, .int .i64 0, .slice none 0 0] 38))).keep ((Below.refl _ _).alloc (Nat.le_refl _) (.cells #[.int .i64 a, .int .i64 b, .slice none 0 0] 38))
  have x1 := (Bx.made (w.alloc (.cells #[.int .i64 a, .int .i64 b, .slice A l.length c] 44)) (.int .i64 0) (.int .i64 0) (.slice none 0 0) 38).keep ((Below.refl _ _).alloc (Nat.le_refl _) (.cells #[.int .i64 a, .int .i64 b, .slice none 0 0] 38))
  have x2 := Bx.made ((w.alloc (.cells #[.int .i64 a, .int .i64 b, .slice A l.length c] 44)).alloc (.cells #[.int .i64 0, .int .i64 0, .slice none 0 0] 38)) (.int .i64 a) (.int .i64 b) (.slice none 0 0) 38
  have hB : Below w.heap.size w (((w.alloc (.cells #[.int .i64 a, .int .i64 b, .slice A l.length c] 44)).alloc (.cells #[.int .i64 0, .int .i64 0, .slice none 0 0] 38)).alloc (.cells #[.int .i64 a, .int .i64 b, .slice none 0 0] 38)) := (((Below.refl _ _).alloc (Nat.le_refl _) _).alloc (by simp) _).alloc (by simp; omega) _
  simp only [World.size_alloc] at x0 x1 x2
  have hz : (((w.alloc (.cells #[.int .i64 a, .int .i64 b, .slice A l.length c] 44)).alloc (.cells #[.int .i64 0, .int .i64 0, .slice none 0 0] 38)).alloc (.cells #[.int .i64 a, .int .i64 b, .slice none 0 0] 38)).heap.size = w.heap.size + 3 := by simp
  have y0 := ((Bx.made w (.int .i64 a) (.int .i64 b) (.slice A l.length c) 44).keep ((Below.refl _ _).alloc (Nat.le_refl _) (.cells #[.int .i64 0, .int .i64 0, .slice none 0 0] 38))).keep ((Below.refl _ _).alloc (Nat.le_refl _) (.cells #[.int .i64 0, .int .i64 0, .slice none 0 0] 38))
  have y1 := ((Bx.made w (.int .i64 a) (.int .i64 b) (.slice A l.length c) 44).keep ((Below.refl _ _).alloc (Nat.le_refl _) (.cells #[.int .i64 0, .int .i64 0, .slice none 0 0] 38))).keep ((Below.refl _ _).alloc (Nat.le_refl _) (.cells #[.int .i64 a, .int .i64 0, .slice none 0 0] 38))
  obtain ⟨p00, p01, p02, pf0, pl0⟩ := y0
  obtain ⟨q00, q01, q02, qf0, ql0⟩ := y1
  have x0s := x0
  obtain ⟨r00, r01, r02, rf0, rl0⟩ := x0s
  clear pf0 qf0 rf0
  go_enter Try.func38, Try.ntmps38
  go_wp2_with fail
  clear p00 p01 p02 pl0 q00 q01 q02 ql0 r00 r01 r02 rl0
  generalize (((w.alloc (.cells #[.int .i64 a, .int .i64 b, .slice A l.length c] 44)).alloc (.cells #[.int .i64 0, .int .i64 0, .slice none 0 0] 38)).alloc (.cells #[.int .i64 a, .int .i64 b, .slice none 0 0] 38)) = wA at *
  refine (toItemS_any A c l _ (ha.keep hB)).mono ?_
  rintro e w1 ⟨A1, c1, rfl, o1, b1⟩
  have z1 := b1.size
  have B1 := hB.trans (b1.mono hB.size)
  have R0 := x1.keep b1
  have N0 := x2.keep b1
  have q0 : ∀ g, Value.ownBlock (.slice A1 l.length c1) = some g → w.heap.size + 3 ≤ g := fun g hg => by have := (o1.lt g hg).1; omega
  have o2 := (own_rebase (B := w.heap.size) o1 (by omega)).set (p := ⟨w.heap.size + 1 + 1, 2, none⟩) (fun g hg => by have := q0 g hg; simp; omega) (.slice A1 l.length c1)
  have N1 := N0.set2 (.slice A1 l.length c1)
  have R1 := R0.set_far (p := ⟨w.heap.size + 1 + 1, 2, none⟩) (by simp) (.slice A1 l.length c1)
  have BW := B1.setCell (p := ⟨w.heap.size + 1 + 1, 2, none⟩) (by simp; omega) (.slice A1 l.length c1)
  obtain ⟨n0, n1, n2, nf, nl⟩ := N0
  obtain ⟨m0, m1, m2, mf, ml⟩ := N1
  clear o1 b1 x0 x1 x2 R0 B1 hB
  have q1 : ∀ g, Value.ownBlock (.slice A1 l.length c1) = some g → g ≠ w.heap.size + 1 := fun g hg => by have := q0 g hg; omega
  have of : Own ItemR.enc 2 51 ((((w1.setCell ⟨w.heap.size + 1 + 1, 2, none⟩ (.slice A1 l.length c1)).setCell ⟨w.heap.size + 1, 0, none⟩ (.int .i64 a)).setCell ⟨w.heap.size + 1, 1, none⟩ (.int .i64 b)).setCell ⟨w.heap.size + 1, 2, none⟩ (.slice A1 l.length c1)) w.heap.size (.slice A1 l.length c1) (l) := by
    repeat (first | exact o2 | refine Own.set ?_ (fun g hg => by have := q1 g hg; simpa using this) _)
  have hBf : Below w.heap.size w ((((w1.setCell ⟨w.heap.size + 1 + 1, 2, none⟩ (.slice A1 l.length c1)).setCell ⟨w.heap.size + 1, 0, none⟩ (.int .i64 a)).setCell ⟨w.heap.size + 1, 1, none⟩ (.int .i64 b)).setCell ⟨w.heap.size + 1, 2, none⟩ (.slice A1 l.length c1)) := by
    repeat (first | exact BW | refine Below.setCell ?_ (by simp; try omega) _)
  have HX2 := R1
  obtain ⟨r0, r1, r2, rf, rl⟩ := HX2
  obtain ⟨e0, e1, e2, -, -⟩ := ((R1.set0 (.int .i64 a)).set1 (.int .i64 b)).set2 (.slice A1 l.length c1)
  have He := Lib.hid (show _ ∧ _ ∧ _ from ⟨e0, e1, e2⟩)
  clear e0 e1 e2 q1
  go_wp2
  generalize ((((w1.setCell ⟨w.heap.size + 1 + 1, 2, none⟩ (.slice A1 l.length c1)).setCell ⟨w.heap.size + 1, 0, none⟩ (.int .i64 a)).setCell ⟨w.heap.size + 1, 1, none⟩ (.int .i64 b)).setCell ⟨w.heap.size + 1, 2, none⟩ (.slice A1 l.length c1)) = wF at *
  have e := He.out
  (try simp only [Exit.inBlock, Exit.then])
  refine bodyPost_ret (by simp [results, Try.results38, go_sem, e.1, e.2.1, e.2.2]; try rfl) rfl ?_
  exact ⟨A1, c1, rfl, of, hBf⟩
set_option maxRecDepth 100000 in
set_option maxHeartbeats 4000000 in
theorem eqChannel_same (a b : Int) (A : Option Addr) (c : Nat) (A' : Option Addr) (c' : Nat) (l : List ItemR) (w : World) (ha : Row ItemR.enc 2 w A l) (ha' : Row ItemR.enc 2 w A' l) :
    Calls Try.prog 33 #[.agg #[.int .i64 a, .int .i64 b, .slice A l.length c], .agg #[.int .i64 a, .int .i64 b, .slice A' l.length c']] w fun e w' => e = .returned (.bool true) ∧ Below w.heap.size w w' := by
  have x0 := (Bx.made w (.int .i64 a) (.int .i64 b) (.slice A l.length c) 38).keep ((Below.refl _ _).alloc (Nat.le_refl _) (.cells #[.int .i64 a, .int .i64 b, .slice A' l.length c'] 38))
  have x1 := Bx.made (w.alloc (.cells #[.int .i64 a, .int .i64 b, .slice A l.length c] 38)) (.int .i64 a) (.int .i64 b) (.slice A' l.length c') 38
  have hB : Below w.heap.size w ((w.alloc (.cells #[.int .i64 a, .int .i64 b, .slice A l.length c] 38)).alloc (.cells #[.int .i64 a, .int .i64 b, .slice A' l.length c'] 38)) := ((Below.refl _ _).alloc (Nat.le_refl _) _).alloc (by simp) _
  simp only [World.size_alloc] at x1
  obtain ⟨p00, p01, p02, pf0, pl0⟩ := x0
  obtain ⟨p10, p11, p12, pf1, pl1⟩ := x1
  go_enter Try.func33, Try.ntmps33
  go_wp2_with fail
  refine (eqItemS_same A A' c c' l _ (ha.keep hB) (ha'.keep hB)).mono ?_
  rintro e w1 ⟨rfl, b1⟩
  have B1 := hB.trans (b1.mono hB.size)
  clear p00 p01 p02 pf0 pl0 p10 p11 p12 pf1 pl1
  go_wp2
  all_goals go_returns
  all_goals exact ⟨rfl, B1⟩
def ChMark (w : World) (L : Nat) (n : Nat) (s : Value) (k0 : Int) (w' : World) : Prop :=
  w'.ownsRow L 51 2 s n (marks k0 (n * 2)) ∧ ∃ wx, Below w.heap.size w wx ∧ wx.grownBy w' s.ownBlock
set_option maxHeartbeats 4000000 in
theorem markChannel_any (a b : Int) (A : Option Addr) (n c : Nat) (k0 : Int) (L : Nat) (xs : List Value) (w : World) (h0 : w.ownsRow L 51 2 (.slice A n c) n xs) (hn : n ≤ 1048576) (k1 : 0 ≤ k0) (k2 : k0 ≤ 900000000) :
    Calls Try.prog 34 #[.agg #[.int .i64 a, .int .i64 b, .slice A n c], .int .i64 k0] w fun e w' => e = .returned (.int .i64 (k0 + (n : Int) * 2)) ∧ ChMark w L n (.slice A n c) k0 w' := by
  have x0 := Bx.made w (.int .i64 a) (.int .i64 b) (.slice A n c) 38
  have hB : Below w.heap.size w (w.alloc (.cells #[.int .i64 a, .int .i64 b, .slice A n c] 38)) := (Below.refl _ _).alloc (Nat.le_refl _) _
  have h0' := ownsRow_keep h0 hB
  obtain ⟨p00, p01, p02, pf0, pl0⟩ := x0
  go_enter Try.func34, Try.ntmps34
  go_wp2_with fail
  refine (markItemS_any A c n k0 L xs _ h0' hn k1 (by omega)).mono ?_
  rintro e w1 ⟨rfl, m1, g1⟩
  clear p00 p01 p02 pf0 pl0
  go_wp2
  all_goals go_returns
  all_goals exact ⟨rfl, m1, _, hB, g1⟩
set_option maxHeartbeats 4000000 in
theorem heldChannel_any (a b : Int) (A : Option Addr) (n c : Nat) (k0 : Int) (L : Nat) (w : World) (h0 : w.ownsRow L 51 2 (.slice A n c) n (marks k0 (n * 2))) (hn : n ≤ 1048576) (k1 : 0 ≤ k0) (k2 : k0 ≤ 900000000) :
    Calls Try.prog 35 #[.agg #[.int .i64 a, .int .i64 b, .slice A n c], .int .i64 k0] w fun e w' => e = .returned (.int .i64 (k0 + (n : Int) * 2)) ∧ Below w.heap.size w w' := by
  have x0 := Bx.made w (.int .i64 a) (.int .i64 b) (.slice A n c) 38
  have hB : Below w.heap.size w (w.alloc (.cells #[.int .i64 a, .int .i64 b, .slice A n c] 38)) := (Below.refl _ _).alloc (Nat.le_refl _) _
  have h0' := ownsRow_keep h0 hB
  obtain ⟨p00, p01, p02, pf0, pl0⟩ := x0
  go_enter Try.func35, Try.ntmps35
  go_wp2_with fail
  refine (heldItemS_any A c n k0 L _ h0' hn k1 (by omega)).mono ?_
  rintro e w1 ⟨rfl, rfl⟩
  go_wp2
  all_goals go_returns
  all_goals exact ⟨rfl, hB⟩
end Go.Proofs.Ytcpjidbinhfapaa
