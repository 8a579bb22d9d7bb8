import Derived.Test.YtcpjidbinhfapabChF
namespace Go.Proofs.Ytcpjidbinhfapab
open Go.RowKit
def sd (x y : Int) (l : List ItemR) (e : ItemR) : Int × Int × List ItemR × Bool :=
  if chB x y l = true ∧ itB e = true then (if y = 0 then (x, y, l, false) else (x, y - 1, l ++ [e], true)) else (0, 0, [], false)
def gc (x y : Int) (l : List ItemR) : Int × Int × List ItemR × Bool :=
  if chB x y l = true then (if y + (l.length : Int) = x then (x, y, l, false) else (x, y + 1, l, true)) else (0, 0, [], false)
theorem chB_len {x y : Int} {l : List ItemR} (h : chB x y l = true) : l.length ≤ 8 := by
  obtain ⟨a, b, c, d, _⟩ := chB_parts h
  omega
set_option maxRecDepth 100000 in
set_option maxHeartbeats 4000000 in
theorem implGc_any (x y : Int) (A : Option Addr) (c : Nat) (l : List ItemR) (w : World) (ha : Row ItemR.enc 2 w A l) : Calls Try.prog 21 #[.agg #[.int .i64 x, .int .i64 y, .slice A l.length c]] w (ChBPost w (gc x y l).1 (gc x y l).2.1 (gc x y l).2.2.1 (gc x y l).2.2.2) := by
  have hal := ha.1
  have X0 := (Bx.made w (.int .i64 x) (.int .i64 y) (.slice A l.length c) 26).keep ((Below.refl _ _).alloc (Nat.le_refl _) (.cells #[.int .i64 0, .int .i64 0, .slice none 0 0] 26))
  have R0 := Bx.made (w.alloc (.cells #[.int .i64 x, .int .i64 y, .slice A l.length c] 26)) (.int .i64 0) (.int .i64 0) (.slice none 0 0) 26
  have hB : Below w.heap.size w ((w.alloc (.cells #[.int .i64 x, .int .i64 y, .slice A l.length c] 26)).alloc (.cells #[.int .i64 0, .int .i64 0, .slice none 0 0] 26)) := ((Below.refl _ _).alloc (Nat.le_refl _) _).alloc (by simp) _
  have hz : ((w.alloc (.cells #[.int .i64 x, .int .i64 y, .slice A l.length c] 26)).alloc (.cells #[.int .i64 0, .int .i64 0, .slice none 0 0] 26)).heap.size = w.heap.size + 2 := by simp
  simp only [World.size_alloc] at R0
  have hX0 := X0
  obtain ⟨p0, p1, p2, pf, pl⟩ := hX0
  go_enter Try.func21, Try.ntmps21
  go_wp2_with fail
  clear p0 p1 p2 pf pl
  generalize ((w.alloc (.cells #[.int .i64 x, .int .i64 y, .slice A l.length c] 26)).alloc (.cells #[.int .i64 0, .int .i64 0, .slice none 0 0] 26)) = wA at *
  refine (implVC_any x y A c l _ (ha.keep hB)).mono ?_
  rintro e w1 ⟨rfl, b1⟩
  replace X0 := X0.keep b1
  replace R0 := R0.keep b1
  have B1 := hB.trans (b1.mono hB.size)
  have z1 := b1.size
  clear b1 hB
  rcases Bool.eq_false_or_eq_true (chB x y l) with hv | hv
  · obtain ⟨h1a, h1b, h2a, h2b, -⟩ := chB_parts hv
    have Hv := Lib.hid hv
    rw [hv]
    clear hv
    have hX0 := X0
    obtain ⟨p0, p1, p2, pf, pl⟩ := hX0
    go_wp2_with fail
    clear p0 p1 p2 pf pl
    refine (cloneCh_any x y A c l _ (ha.keep B1)).mono ?_
    rintro e wC ⟨A1, c1, rfl, o1, b1⟩
    have hN : Below wC.heap.size wC (wC.alloc (.cells #[.int .i64 x, .int .i64 y, .slice A1 l.length c1] 26)) := (Below.refl _ _).alloc (Nat.le_refl _) _
    have N0 := Bx.made wC (.int .i64 x) (.int .i64 y) (.slice A1 l.length c1) 26
    replace X0 := (X0.keep b1).keep hN
    replace R0 := (R0.keep b1).keep hN
    have B2 := (B1.trans (b1.mono B1.size)).trans (hN.mono (B1.trans (b1.mono B1.size)).size)
    have zC := b1.size
    have q0 : ∀ g, Value.ownBlock (.slice A1 l.length c1) = some g → w.heap.size + 2 ≤ g ∧ g < wC.heap.size := fun g hg => by have := o1.lt g hg; omega
    have o2 := own_rebase (B := w.heap.size) (o1.keep hN) (by omega)
    clear b1 o1 hN B1
    have hX0 := X0
    obtain ⟨p0, p1, p2, pf, pl⟩ := hX0
    clear pf
    have hq : (y == x - (l.length : Int)) = true ∨ (y == x - (l.length : Int)) = false := by cases (y == x - (l.length : Int)) <;> simp
    rcases hq with hq | hq
    · have Hq := Lib.hid hq
      have hN0 := N0
      obtain ⟨n0, n1, n2, nf, nl⟩ := hN0
      go_wp2_with fail
      clear n0 n1 n2 nf nl
      generalize (wC.alloc (.cells #[.int .i64 x, .int .i64 y, .slice A1 l.length c1] 26)) = wB at *
      have K0 := Bw.cellOf pl p0
      have K1 := Bw.cellOf pl p1
      have K2 := Bw.cellOf pl p2
      refine wp_region_quiet_below (by kernel_rfl) (by kernel_rfl) ?_
      repeat (any_goals (go_big_quiet_step (first | (go_at_call 51; refine Calls.below_of (freeI_any x y A l.length c _ (by omega) (by omega) hal)))))
      refine wpQuiet_nil ?_
      intro wD b3
      replace N0 := N0.keep b3
      replace R0 := R0.keep b3
      replace o2 := o2.keep b3
      have B3 := B2.trans (b3.mono B2.size)
      have z3 := b3.size
      have HF := Lib.hid (show gc x y l = (x, y, l, false) by unfold gc; rw [if_pos Hv.out, if_pos (by have := Hq.out; simp at this; omega)])
      clear K0 K1 K2 b3 B2 p0 p1 p2 pl X0 hq
      have hq := Hq.out
      obtain ⟨n0, n1, n2, nf, nl⟩ := N0
      have q1 : ∀ g, Value.ownBlock (.slice A1 l.length c1) = some g → g ≠ w.heap.size + 1 := fun g hg => by have := q0 g hg; omega
      have of : Own ItemR.enc 2 32 (((wD.setCell ⟨w.heap.size + 1, 0, none⟩ (.int .i64 x)).setCell ⟨w.heap.size + 1, 1, none⟩ (.int .i64 y)).setCell ⟨w.heap.size + 1, 2, none⟩ (.slice A1 l.length c1)) w.heap.size (.slice A1 l.length c1) (l) :=
        (((o2).set (p := ⟨w.heap.size + 1, 0, none⟩) q1 (.int .i64 x)).set (p := ⟨w.heap.size + 1, 1, none⟩) q1 (.int .i64 y)).set (p := ⟨w.heap.size + 1, 2, none⟩) q1 (.slice A1 l.length c1)
      have hBf : Below w.heap.size w (((wD.setCell ⟨w.heap.size + 1, 0, none⟩ (.int .i64 x)).setCell ⟨w.heap.size + 1, 1, none⟩ (.int .i64 y)).setCell ⟨w.heap.size + 1, 2, none⟩ (.slice A1 l.length c1)) :=
        (((B3).setCell (p := ⟨w.heap.size + 1, 0, none⟩) (by simp; try omega) (.int .i64 x)).setCell (p := ⟨w.heap.size + 1, 1, none⟩) (by simp; try omega) (.int .i64 y)).setCell (p := ⟨w.heap.size + 1, 2, none⟩) (by simp; try omega) (.slice A1 l.length c1)
      have HX2 := R0
      obtain ⟨r0, r1, r2, rf, rl⟩ := HX2
      obtain ⟨e0, e1, e2, -, -⟩ := ((R0.set0 (.int .i64 x)).set1 (.int .i64 y)).set2 (.slice A1 l.length c1)
      have He := Lib.hid (show _ ∧ _ ∧ _ from ⟨e0, e1, e2⟩)
      clear e0 e1 e2 q1
      go_wp2
      generalize (((wD.setCell ⟨w.heap.size + 1, 0, none⟩ (.int .i64 x)).setCell ⟨w.heap.size + 1, 1, none⟩ (.int .i64 y)).setCell ⟨w.heap.size + 1, 2, none⟩ (.slice A1 l.length c1)) = wF at *
      have e := He.out
      (try simp only [Exit.inBlock, Exit.then])
      refine bodyPost_ret (by simp [results, Try.results21, go_sem, e.1, e.2.1, e.2.2]; try rfl) rfl ?_
      rw [HF.out]
      exact ⟨A1, c1, rfl, of, hBf⟩
    · have Hq := Lib.hid hq
      have hN0 := N0
      obtain ⟨n0, n1, n2, nf, nl⟩ := hN0
      go_wp2_with fail
      clear n0 n1 n2 nf nl
      generalize (wC.alloc (.cells #[.int .i64 x, .int .i64 y, .slice A1 l.length c1] 26)) = wB at *
      have K0 := Bw.cellOf pl p0
      have K1 := Bw.cellOf pl p1
      have K2 := Bw.cellOf pl p2
      refine wp_region_quiet_below (by kernel_rfl) (by kernel_rfl) ?_
      repeat (any_goals (go_big_quiet_step (first | (go_at_call 51; refine Calls.below_of (freeI_any x y A l.length c _ (by omega) (by omega) hal)))))
      refine wpQuiet_nil ?_
      intro wD b3
      replace N0 := N0.keep b3
      replace R0 := R0.keep b3
      replace o2 := o2.keep b3
      have B3 := B2.trans (b3.mono B2.size)
      have z3 := b3.size
      have HF := Lib.hid (show gc x y l = (x, y + 1, l, true) by unfold gc; rw [if_pos Hv.out, if_neg (by have := Hq.out; simp at this; omega)])
      clear K0 K1 K2 b3 B2 p0 p1 p2 pl X0 hq
      have hq := Hq.out
      have N1 := N0.set1 (.int .i64 (y + 1))
      replace R0 := R0.set_far (p := ⟨wC.heap.size, 1, none⟩) (by simp; omega) (.int .i64 (y + 1))
      replace o2 := o2.set (p := ⟨wC.heap.size, 1, none⟩) (fun g hg => by have := q0 g hg; simp; omega) (.int .i64 (y + 1))
      have B4 := B3.setCell (p := ⟨wC.heap.size, 1, none⟩) (by simp; omega) (.int .i64 (y + 1))
      obtain ⟨n0, n1, n2, nf, nl⟩ := N0
      obtain ⟨m0, m1, m2, mf, ml⟩ := N1
      have q1 : ∀ g, Value.ownBlock (.slice A1 l.length c1) = some g → g ≠ w.heap.size + 1 := fun g hg => by have := q0 g hg; omega
      have of : Own ItemR.enc 2 32 ((((wD.setCell ⟨wC.heap.size, 1, none⟩ (.int .i64 (y + 1))).setCell ⟨w.heap.size + 1, 0, none⟩ (.int .i64 x)).setCell ⟨w.heap.size + 1, 1, none⟩ (.int .i64 (y + 1))).setCell ⟨w.heap.size + 1, 2, none⟩ (.slice A1 l.length c1)) w.heap.size (.slice A1 l.length c1) (l) :=
        (((o2).set (p := ⟨w.heap.size + 1, 0, none⟩) q1 (.int .i64 x)).set (p := ⟨w.heap.size + 1, 1, none⟩) q1 (.int .i64 (y + 1))).set (p := ⟨w.heap.size + 1, 2, none⟩) q1 (.slice A1 l.length c1)
      have hBf : Below w.heap.size w ((((wD.setCell ⟨wC.heap.size, 1, none⟩ (.int .i64 (y + 1))).setCell ⟨w.heap.size + 1, 0, none⟩ (.int .i64 x)).setCell ⟨w.heap.size + 1, 1, none⟩ (.int .i64 (y + 1))).setCell ⟨w.heap.size + 1, 2, none⟩ (.slice A1 l.length c1)) :=
        (((B4).setCell (p := ⟨w.heap.size + 1, 0, none⟩) (by simp; try omega) (.int .i64 x)).setCell (p := ⟨w.heap.size + 1, 1, none⟩) (by simp; try omega) (.int .i64 (y + 1))).setCell (p := ⟨w.heap.size + 1, 2, none⟩) (by simp; try omega) (.slice A1 l.length c1)
      have HX2 := R0
      obtain ⟨r0, r1, r2, rf, rl⟩ := HX2
      obtain ⟨e0, e1, e2, -, -⟩ := ((R0.set0 (.int .i64 x)).set1 (.int .i64 (y + 1))).set2 (.slice A1 l.length c1)
      have He := Lib.hid (show _ ∧ _ ∧ _ from ⟨e0, e1, e2⟩)
      clear e0 e1 e2 q1
      go_wp2
      generalize ((((wD.setCell ⟨wC.heap.size, 1, none⟩ (.int .i64 (y + 1))).setCell ⟨w.heap.size + 1, 0, none⟩ (.int .i64 x)).setCell ⟨w.heap.size + 1, 1, none⟩ (.int .i64 (y + 1))).setCell ⟨w.heap.size + 1, 2, none⟩ (.slice A1 l.length c1)) = wF at *
      have e := He.out
      (try simp only [Exit.inBlock, Exit.then])
      refine bodyPost_ret (by simp [results, Try.results21, go_sem, e.1, e.2.1, e.2.2]; try rfl) rfl ?_
      rw [HF.out]
      exact ⟨A1, c1, rfl, of, hBf⟩
  · have HF := Lib.hid (show gc x y l = (0, 0, [], false) by unfold gc; rw [if_neg (by rw [hv]; simp)])
    rw [hv]
    clear hv X0
    have q1 : ∀ g, Value.ownBlock (.slice none 0 0) = some g → g ≠ w.heap.size + 1 := fun g hg => by simp [Value.ownBlock] at hg
    have of : Own ItemR.enc 2 32 (((w1.setCell ⟨w.heap.size + 1, 0, none⟩ (.int .i64 0)).setCell ⟨w.heap.size + 1, 1, none⟩ (.int .i64 0)).setCell ⟨w.heap.size + 1, 2, none⟩ (.slice none 0 0)) w.heap.size (.slice none 0 0) (([] : List ItemR)) :=
      ((((show Own ItemR.enc 2 32 w1 w.heap.size (.slice none 0 0) [] from ⟨by simp, World.ownsRow_nil _ _ _ _⟩)).set (p := ⟨w.heap.size + 1, 0, none⟩) q1 (.int .i64 0)).set (p := ⟨w.heap.size + 1, 1, none⟩) q1 (.int .i64 0)).set (p := ⟨w.heap.size + 1, 2, none⟩) q1 (.slice none 0 0)
    have hBf : Below w.heap.size w (((w1.setCell ⟨w.heap.size + 1, 0, none⟩ (.int .i64 0)).setCell ⟨w.heap.size + 1, 1, none⟩ (.int .i64 0)).setCell ⟨w.heap.size + 1, 2, none⟩ (.slice none 0 0)) :=
      (((B1).setCell (p := ⟨w.heap.size + 1, 0, none⟩) (by simp; try omega) (.int .i64 0)).setCell (p := ⟨w.heap.size + 1, 1, none⟩) (by simp; try omega) (.int .i64 0)).setCell (p := ⟨w.heap.size + 1, 2, none⟩) (by simp; try omega) (.slice none 0 0)
    have HX2 := R0
    obtain ⟨r0, r1, r2, rf, rl⟩ := HX2
    obtain ⟨e0, e1, e2, -, -⟩ := ((R0.set0 (.int .i64 0)).set1 (.int .i64 0)).set2 (.slice none 0 0)
    have He := Lib.hid (show _ ∧ _ ∧ _ from ⟨e0, e1, e2⟩)
    clear e0 e1 e2 q1
    go_wp2
    generalize (((w1.setCell ⟨w.heap.size + 1, 0, none⟩ (.int .i64 0)).setCell ⟨w.heap.size + 1, 1, none⟩ (.int .i64 0)).setCell ⟨w.heap.size + 1, 2, none⟩ (.slice none 0 0)) = wF at *
    have e := He.out
    (try simp only [Exit.inBlock, Exit.then])
    refine bodyPost_ret (by simp [results, Try.results21, go_sem, e.1, e.2.1, e.2.2]; try rfl) rfl ?_
    rw [HF.out]
    exact ⟨none, 0, rfl, of, hBf⟩
end Go.Proofs.Ytcpjidbinhfapab
