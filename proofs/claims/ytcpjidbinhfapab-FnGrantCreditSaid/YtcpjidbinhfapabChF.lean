import Derived.Test.YtcpjidbinhfapabChC
namespace Go.Proofs.Ytcpjidbinhfapab
open Go.RowKit
set_option maxRecDepth 100000 in
set_option maxHeartbeats 4000000 in
theorem cloneCh_any (x y : Int) (A : Option Addr) (c : Nat) (l : List ItemR) (w : World) (ha : Row ItemR.enc 2 w A l) : Calls Try.prog 45 #[.agg #[.int .i64 x, .int .i64 y, .slice A l.length c]] w (ChPost w x y l) := by
  have X0 := (Bx.made w (.int .i64 x) (.int .i64 y) (.slice A l.length c) 26).keep ((Below.refl _ _).alloc (Nat.le_refl _) (.cells #[.int .i64 0, .int .i64 0, .slice none 0 0] 26))
  have R0 := Bx.made (w.alloc (.cells #[.int .i64 x, .int .i64 y, .slice A l.length c] 26)) (.int .i64 0) (.int .i64 0) (.slice none 0 0) 26
  have hB : Below w.heap.size w ((w.alloc (.cells #[.int .i64 x, .int .i64 y, .slice A l.length c] 26)).alloc (.cells #[.int .i64 0, .int .i64 0, .slice none 0 0] 26)) := ((Below.refl _ _).alloc (Nat.le_refl _) _).alloc (by simp) _
  have hz : ((w.alloc (.cells #[.int .i64 x, .int .i64 y, .slice A l.length c] 26)).alloc (.cells #[.int .i64 0, .int .i64 0, .slice none 0 0] 26)).heap.size = w.heap.size + 2 := by simp
  simp only [World.size_alloc] at R0
  have Y0 := X0
  obtain ⟨p0, p1, p2, pf, pl⟩ := Y0
  go_enter Try.func45, Try.ntmps45
  go_wp2_with fail
  clear p0 p1 p2 pf pl
  generalize ((w.alloc (.cells #[.int .i64 x, .int .i64 y, .slice A l.length c] 26)).alloc (.cells #[.int .i64 0, .int .i64 0, .slice none 0 0] 26)) = wA at *
  refine (cloneIt_any A c l _ (ha.keep hB)).mono ?_
  rintro e w1 ⟨A1, c1, rfl, o1, b1⟩
  replace R0 := R0.keep b1
  replace X0 := X0.keep b1
  have B1 := hB.trans (b1.mono hB.size)
  have q0 : ∀ g, Value.ownBlock (.slice A1 l.length c1) = some g → w.heap.size + 2 ≤ g := fun g hg => by have := (o1.lt g hg).1; omega
  have o1r := own_rebase (B := w.heap.size) o1 (by omega)
  have o1s := o1r.set (p := ⟨w.heap.size, 2, none⟩) (fun g hg => by have := q0 g hg; simp; omega) (.slice A1 l.length c1)
  have R1 := R0.set_far (p := ⟨w.heap.size, 2, none⟩) (by simp) (.slice A1 l.length c1)
  have BW := B1.setCell (p := ⟨w.heap.size, 2, none⟩) (by simp) (.slice A1 l.length c1)
  have X1 := X0.set2 (.slice A1 l.length c1)
  obtain ⟨p0, p1, p2, pf, pl⟩ := X0
  obtain ⟨x0, x1, x2, xf, xl⟩ := X1
  clear R0 b1 o1 o1r
  have q1 : ∀ g, Value.ownBlock (.slice A1 l.length c1) = some g → g ≠ w.heap.size + 1 := fun g hg => by have := q0 g hg; omega
  have of : Own ItemR.enc 2 32 ((((w1.setCell ⟨w.heap.size, 2, none⟩ (.slice A1 l.length c1)).setCell ⟨w.heap.size + 1, 0, none⟩ (.int .i64 x)).setCell ⟨w.heap.size + 1, 1, none⟩ (.int .i64 y)).setCell ⟨w.heap.size + 1, 2, none⟩ (.slice A1 l.length c1)) w.heap.size (.slice A1 l.length c1) (l) :=
    (((o1s).set (p := ⟨w.heap.size + 1, 0, none⟩) q1 (.int .i64 x)).set (p := ⟨w.heap.size + 1, 1, none⟩) q1 (.int .i64 y)).set (p := ⟨w.heap.size + 1, 2, none⟩) q1 (.slice A1 l.length c1)
  have hBf : Below w.heap.size w ((((w1.setCell ⟨w.heap.size, 2, none⟩ (.slice A1 l.length c1)).setCell ⟨w.heap.size + 1, 0, none⟩ (.int .i64 x)).setCell ⟨w.heap.size + 1, 1, none⟩ (.int .i64 y)).setCell ⟨w.heap.size + 1, 2, none⟩ (.slice A1 l.length c1)) :=
    (((BW).setCell (p := ⟨w.heap.size + 1, 0, none⟩) (by simp; try omega) (.int .i64 x)).setCell (p := ⟨w.heap.size + 1, 1, none⟩) (by simp; try omega) (.int .i64 y)).setCell (p := ⟨w.heap.size + 1, 2, none⟩) (by simp; try omega) (.slice A1 l.length c1)
  have HX2 := R1
  obtain ⟨r0, r1, r2, rf, rl⟩ := HX2
  obtain ⟨e0, e1, e2, -, -⟩ := ((R1.set0 (.int .i64 x)).set1 (.int .i64 y)).set2 (.slice A1 l.length c1)
  have He := Lib.hid (show _ ∧ _ ∧ _ from ⟨e0, e1, e2⟩)
  clear e0 e1 e2 q1
  go_wp2
  generalize ((((w1.setCell ⟨w.heap.size, 2, none⟩ (.slice A1 l.length c1)).setCell ⟨w.heap.size + 1, 0, none⟩ (.int .i64 x)).setCell ⟨w.heap.size + 1, 1, none⟩ (.int .i64 y)).setCell ⟨w.heap.size + 1, 2, none⟩ (.slice A1 l.length c1)) = wF at *
  have e := He.out
  (try simp only [Exit.inBlock, Exit.then])
  refine bodyPost_ret (by simp [results, Try.results45, go_sem, e.1, e.2.1, e.2.2]; try rfl) rfl ?_
  exact ⟨A1, c1, rfl, of, hBf⟩
def cnB (n : Int) : Bool := decide (1 ≤ n ∧ n ≤ 8)
def cnF (n : Int) : Int := if 1 ≤ n ∧ n ≤ 8 then n else 0
set_option maxRecDepth 100000 in
set_option maxHeartbeats 2000000 in
theorem newS_any (n : Int) (w : World) : Calls Try.prog 12 #[.int .i64 n] w (ChPost w (cnF n) (cnF n) []) := by
  by_cases h : 1 ≤ n ∧ n ≤ 8
  · have HF := Lib.hid (show cnF n = n by unfold cnF; rw [if_pos h])
    obtain ⟨h1, h2⟩ := h
    go_enter Try.func12, Try.ntmps12
    go_wp2_with fail
    refine (inRS_t n 1 8 _ h1 h2).mono ?_
    rintro e w1 ⟨rfl, rfl⟩
    go_wp2
    all_goals go_returns
    all_goals (rw [HF.out]; exact ⟨none, 0, rfl, ⟨by simp, World.ownsRow_nil _ _ _ _⟩, by go_grown⟩)
  · have HF := Lib.hid (show cnF n = 0 by unfold cnF; rw [if_neg h])
    have H1 := Lib.hid h
    clear h
    go_enter Try.func12, Try.ntmps12
    go_wp2_with fail
    refine (inRS_f n 1 8 _ H1.out).mono ?_
    rintro e w1 ⟨rfl, rfl⟩
    go_wp2
    all_goals go_returns
    all_goals (rw [HF.out]; exact ⟨none, 0, rfl, ⟨by simp, World.ownsRow_nil _ _ _ _⟩, by go_grown⟩)
set_option maxRecDepth 100000 in
set_option maxHeartbeats 2000000 in
theorem newI_any (n : Int) (w : World) : Calls Try.prog 10 #[.int .i64 n] w (ChPost w (cnF n) (cnF n) []) := by
  by_cases h : 1 ≤ n ∧ n ≤ 8
  · have HF := Lib.hid (show cnF n = n by unfold cnF; rw [if_pos h])
    obtain ⟨h1, h2⟩ := h
    go_enter Try.func10, Try.ntmps10
    go_wp2_with fail
    refine (inRI_t n 1 8 _ h1 h2).mono ?_
    rintro e w1 ⟨rfl, rfl⟩
    go_wp2
    all_goals go_returns
    all_goals (rw [HF.out]; exact ⟨none, 0, rfl, ⟨by simp, World.ownsRow_nil _ _ _ _⟩, by go_grown⟩)
  · have HF := Lib.hid (show cnF n = 0 by unfold cnF; rw [if_neg h])
    have H1 := Lib.hid h
    clear h
    go_enter Try.func10, Try.ntmps10
    go_wp2_with fail
    refine (inRI_f n 1 8 _ H1.out).mono ?_
    rintro e w1 ⟨rfl, rfl⟩
    go_wp2
    all_goals go_returns
    all_goals (rw [HF.out]; exact ⟨none, 0, rfl, ⟨by simp, World.ownsRow_nil _ _ _ _⟩, by go_grown⟩)
end Go.Proofs.Ytcpjidbinhfapab
