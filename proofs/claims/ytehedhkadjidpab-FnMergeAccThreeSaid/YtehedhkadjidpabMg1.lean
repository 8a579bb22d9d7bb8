import Derived.Test.YtehedhkadjidpabMg0
namespace Go.Proofs.Ytehedhkadjidpab
open Go.RowKit
set_option maxRecDepth 100000 in
set_option maxHeartbeats 8000000 in
theorem mgS_any (c s l m c2 s2 l2 m2 : Int) (w : World) : Calls Try.prog 35 #[.agg #[.int .i64 c, .int .i64 s, .int .i64 l, .int .i64 m], .agg #[.int .i64 c2, .int .i64 s2, .int .i64 l2, .int .i64 m2]] w fun e w' => e = .returned (MG c s l m c2 s2 l2 m2) ∧ Below w.heap.size w w' := by
  have X0 := ((B4.made w (.int .i64 c) (.int .i64 s) (.int .i64 l) (.int .i64 m) 48).keep ((Below.refl _ _).alloc (Nat.le_refl _) (.cells #[.int .i64 c2, .int .i64 s2, .int .i64 l2, .int .i64 m2] 48))).keep ((Below.refl _ _).alloc (Nat.le_refl _) (.cells #[.int .i64 0, .int .i64 0, .int .i64 0, .int .i64 0] 48))
  have Y0 := (B4.made (w.alloc (.cells #[.int .i64 c, .int .i64 s, .int .i64 l, .int .i64 m] 48)) (.int .i64 c2) (.int .i64 s2) (.int .i64 l2) (.int .i64 m2) 48).keep ((Below.refl _ _).alloc (Nat.le_refl _) (.cells #[.int .i64 0, .int .i64 0, .int .i64 0, .int .i64 0] 48))
  have R0 := B4.made ((w.alloc (.cells #[.int .i64 c, .int .i64 s, .int .i64 l, .int .i64 m] 48)).alloc (.cells #[.int .i64 c2, .int .i64 s2, .int .i64 l2, .int .i64 m2] 48)) (.int .i64 0) (.int .i64 0) (.int .i64 0) (.int .i64 0) 48
  simp only [World.size_alloc] at Y0 R0
  have BB : Below w.heap.size w (((w.alloc (.cells #[.int .i64 c, .int .i64 s, .int .i64 l, .int .i64 m] 48)).alloc (.cells #[.int .i64 c2, .int .i64 s2, .int .i64 l2, .int .i64 m2] 48)).alloc (.cells #[.int .i64 0, .int .i64 0, .int .i64 0, .int .i64 0] 48)) := by go_grown
  have zB : w.heap.size + 3 = (((w.alloc (.cells #[.int .i64 c, .int .i64 s, .int .i64 l, .int .i64 m] 48)).alloc (.cells #[.int .i64 c2, .int .i64 s2, .int .i64 l2, .int .i64 m2] 48)).alloc (.cells #[.int .i64 0, .int .i64 0, .int .i64 0, .int .i64 0] 48)).heap.size := by simp
  have hX := X0
  have hY := Y0
  have hR := R0
  obtain ⟨p0, p1, p2, p3, pf, pl⟩ := hX
  obtain ⟨q0, q1, q2, q3, qf, ql⟩ := hY
  obtain ⟨r0, r1, r2, r3, rf, rl⟩ := hR
  go_enter Try.func35, Try.ntmps35
  go_wp2_with fail
  clear p0 p1 p2 p3 pf pl q0 q1 q2 q3 qf ql r0 r1 r2 r3 rf rl
  generalize (((w.alloc (.cells #[.int .i64 c, .int .i64 s, .int .i64 l, .int .i64 m] 48)).alloc (.cells #[.int .i64 c2, .int .i64 s2, .int .i64 l2, .int .i64 m2] 48)).alloc (.cells #[.int .i64 0, .int .i64 0, .int .i64 0, .int .i64 0] 48)) = wA at *
  refine (specVAcc_any c s l m _).mono ?_
  rintro e w1 ⟨rfl, hb⟩
  replace X0 := X0.keep hb
  replace Y0 := Y0.keep hb
  replace R0 := R0.keep hb
  replace BB := BB.trans (hb.mono BB.size)
  clear hb
  rcases Bool.eq_false_or_eq_true (vAcc c s l m) with ha | ha
  · rw [ha]
    have Ha := Lib.hid ha
    clear ha
    have hX := X0
    have hY := Y0
    have hR := R0
    obtain ⟨p0, p1, p2, p3, pf, pl⟩ := hX
    obtain ⟨q0, q1, q2, q3, qf, ql⟩ := hY
    obtain ⟨r0, r1, r2, r3, rf, rl⟩ := hR
    go_wp2_with fail
    clear p0 p1 p2 p3 pf pl q0 q1 q2 q3 qf ql r0 r1 r2 r3 rf rl
    refine (specVAcc_any c2 s2 l2 m2 _).mono ?_
    rintro e w2 ⟨rfl, hb⟩
    replace X0 := X0.keep hb
    replace Y0 := Y0.keep hb
    replace R0 := R0.keep hb
    replace BB := BB.trans (hb.mono BB.size)
    clear hb
    rcases Bool.eq_false_or_eq_true (vAcc c2 s2 l2 m2) with hb0 | hb0
    · rw [hb0]
      have Hb := Lib.hid hb0
      have va := of_decide_eq_true Ha.out
      have vb := of_decide_eq_true Hb.out
      clear hb0
      have ca : 0 ≤ c ∧ c ≤ 999 := by unfold vAccP at va; omega
      have cb : 0 ≤ c2 ∧ c2 ≤ 999 := by unfold vAccP at vb; omega
      obtain ⟨ca, cc⟩ := ca
      obtain ⟨cb, cd⟩ := cb
      by_cases hs : c + c2 ≤ 999
      · have hv : mgP c s l m c2 s2 l2 m2 := ⟨va, vb, hs⟩
        by_cases h1 : c = 0
        · subst h1
          have HM := Lib.hid (mg_a0 hv)
          have hz : s = 0 ∧ l = 0 ∧ m = 0 := by unfold vAccP at va; omega
          obtain ⟨rfl, rfl, rfl⟩ := hz
          clear va vb hv
          have hX := X0
          have hY := Y0
          have hR := R0
          obtain ⟨p0, p1, p2, p3, pf, pl⟩ := hX
          obtain ⟨q0, q1, q2, q3, qf, ql⟩ := hY
          obtain ⟨r0, r1, r2, r3, rf, rl⟩ := hR
          go_wp2_with fail
          clear p0 p1 p2 p3 pf pl q0 q1 q2 q3 qf ql r0 r1 r2 r3 rf rl
          refine (mergeS_0 _ _ _ c2 s2 l2 m2 _).mono ?_
          rintro e w3 ⟨rfl, hb⟩
          replace X0 := X0.keep hb
          replace Y0 := Y0.keep hb
          replace R0 := R0.keep hb
          replace BB := BB.trans (hb.mono BB.size)
          clear hb
          have hX := X0
          have hY := Y0
          have hR := R0
          obtain ⟨p0, p1, p2, p3, pf, pl⟩ := hX
          obtain ⟨q0, q1, q2, q3, qf, ql⟩ := hY
          obtain ⟨r0, r1, r2, r3, rf, rl⟩ := hR
          have He := Lib.hid (R0.set (.int .i64 c2) (.int .i64 s2) (.int .i64 l2) (.int .i64 m2))
          have BF := below_set4 (g := w.heap.size + 1 + 1) BB (by omega) (.int .i64 c2) (.int .i64 s2) (.int .i64 l2) (.int .i64 m2)
          clear X0 Y0 R0 BB
          go_wp2
          generalize ((((w3.setCell ⟨w.heap.size + 1 + 1, 0, none⟩ (.int .i64 c2)).setCell ⟨w.heap.size + 1 + 1, 1, none⟩ (.int .i64 s2)).setCell ⟨w.heap.size + 1 + 1, 2, none⟩ (.int .i64 l2)).setCell ⟨w.heap.size + 1 + 1, 3, none⟩ (.int .i64 m2)) = wF at *
          obtain ⟨e0, e1, e2, e3, -, -⟩ := He.out
          (try simp only [Exit.inBlock, Exit.then])
          refine bodyPost_ret (by simp [results, Try.results35, go_sem, e0, e1, e2, e3]; try rfl) rfl ?_
          rw [HM.out]
          exact ⟨rfl, BF⟩
        · by_cases h2 : c2 = 0
          · subst h2
            have HM := Lib.hid (mg_b0 h1 hv)
            have hz : s2 = 0 ∧ l2 = 0 ∧ m2 = 0 := by unfold vAccP at vb; omega
            obtain ⟨rfl, rfl, rfl⟩ := hz
            have H1 := Lib.hid h1
            clear va vb hv h1
            have hX := X0
            have hY := Y0
            have hR := R0
            obtain ⟨p0, p1, p2, p3, pf, pl⟩ := hX
            obtain ⟨q0, q1, q2, q3, qf, ql⟩ := hY
            obtain ⟨r0, r1, r2, r3, rf, rl⟩ := hR
            go_wp2_with fail
            clear p0 p1 p2 p3 pf pl q0 q1 q2 q3 qf ql r0 r1 r2 r3 rf rl
            refine (mergeS_1 c s l m _ _ _ _ H1.out).mono ?_
            rintro e w3 ⟨rfl, hb⟩
            replace X0 := X0.keep hb
            replace Y0 := Y0.keep hb
            replace R0 := R0.keep hb
            replace BB := BB.trans (hb.mono BB.size)
            clear hb
            have hX := X0
            have hY := Y0
            have hR := R0
            obtain ⟨p0, p1, p2, p3, pf, pl⟩ := hX
            obtain ⟨q0, q1, q2, q3, qf, ql⟩ := hY
            obtain ⟨r0, r1, r2, r3, rf, rl⟩ := hR
            have He := Lib.hid (R0.set (.int .i64 c) (.int .i64 s) (.int .i64 l) (.int .i64 m))
            have BF := below_set4 (g := w.heap.size + 1 + 1) BB (by omega) (.int .i64 c) (.int .i64 s) (.int .i64 l) (.int .i64 m)
            clear X0 Y0 R0 BB
            go_wp2
            generalize ((((w3.setCell ⟨w.heap.size + 1 + 1, 0, none⟩ (.int .i64 c)).setCell ⟨w.heap.size + 1 + 1, 1, none⟩ (.int .i64 s)).setCell ⟨w.heap.size + 1 + 1, 2, none⟩ (.int .i64 l)).setCell ⟨w.heap.size + 1 + 1, 3, none⟩ (.int .i64 m)) = wF at *
            obtain ⟨e0, e1, e2, e3, -, -⟩ := He.out
            (try simp only [Exit.inBlock, Exit.then])
            refine bodyPost_ret (by simp [results, Try.results35, go_sem, e0, e1, e2, e3]; try rfl) rfl ?_
            rw [HM.out]
            exact ⟨rfl, BF⟩
          · have HM := Lib.hid (mg_ab h1 h2 hv)
            have a1 : 1 ≤ c ∧ c ≤ 999 ∧ 0 ≤ l ∧ l ≤ m ∧ m ≤ 99 ∧ c * l ≤ s ∧ s ≤ c * m := by rcases va with h | h; exact absurd h.1 h1; exact h
            have a2 : 1 ≤ c2 ∧ c2 ≤ 999 ∧ 0 ≤ l2 ∧ l2 ≤ m2 ∧ m2 ≤ 99 ∧ c2 * l2 ≤ s2 ∧ s2 ≤ c2 * m2 := by rcases vb with h | h; exact absurd h.1 h2; exact h
            obtain ⟨g0, g1⟩ := prod_bd a1.1 a1.2.1 a1.2.2.1 (by omega : l ≤ 99)
            obtain ⟨g2, g3⟩ := prod_bd a1.1 a1.2.1 (by omega : 0 ≤ m) a1.2.2.2.2.1
            obtain ⟨g4, g5⟩ := prod_bd a2.1 a2.2.1 a2.2.2.1 (by omega : l2 ≤ 99)
            obtain ⟨g6, g7⟩ := prod_bd a2.1 a2.2.1 (by omega : 0 ≤ m2) a2.2.2.2.2.1
            have u1 : 0 ≤ s ∧ s ≤ 98901 := by omega
            have u2 : 0 ≤ s2 ∧ s2 ≤ 98901 := by omega
            obtain ⟨u1, u3⟩ := u1
            obtain ⟨u2, u4⟩ := u2
            have c1 : 1 ≤ c := a1.1
            have c3 : 1 ≤ c2 := a2.1
            clear va vb hv h1 h2 a1 a2 g0 g1 g2 g3 g4 g5 g6 g7
            have hX := X0
            have hY := Y0
            have hR := R0
            obtain ⟨p0, p1, p2, p3, pf, pl⟩ := hX
            obtain ⟨q0, q1, q2, q3, qf, ql⟩ := hY
            obtain ⟨r0, r1, r2, r3, rf, rl⟩ := hR
            go_wp2_with fail
            clear p0 p1 p2 p3 pf pl q0 q1 q2 q3 qf ql r0 r1 r2 r3 rf rl
            refine (mergeS_2 c s l m c2 s2 l2 m2 _ c1 (by omega) c3 (by omega) u1 u3 u2 u4).mono ?_
            rintro e w3 ⟨rfl, hb⟩
            replace X0 := X0.keep hb
            replace Y0 := Y0.keep hb
            replace R0 := R0.keep hb
            replace BB := BB.trans (hb.mono BB.size)
            clear hb
            have hX := X0
            have hY := Y0
            have hR := R0
            obtain ⟨p0, p1, p2, p3, pf, pl⟩ := hX
            obtain ⟨q0, q1, q2, q3, qf, ql⟩ := hY
            obtain ⟨r0, r1, r2, r3, rf, rl⟩ := hR
            have He := Lib.hid (R0.set (.int .i64 (c + c2)) (.int .i64 (s + s2)) (.int .i64 (mnI l l2)) (.int .i64 (mxI m m2)))
            have BF := below_set4 (g := w.heap.size + 1 + 1) BB (by omega) (.int .i64 (c + c2)) (.int .i64 (s + s2)) (.int .i64 (mnI l l2)) (.int .i64 (mxI m m2))
            clear X0 Y0 R0 BB
            go_wp2
            generalize ((((w3.setCell ⟨w.heap.size + 1 + 1, 0, none⟩ (.int .i64 (c + c2))).setCell ⟨w.heap.size + 1 + 1, 1, none⟩ (.int .i64 (s + s2))).setCell ⟨w.heap.size + 1 + 1, 2, none⟩ (.int .i64 (mnI l l2))).setCell ⟨w.heap.size + 1 + 1, 3, none⟩ (.int .i64 (mxI m m2))) = wF at *
            obtain ⟨e0, e1, e2, e3, -, -⟩ := He.out
            (try simp only [Exit.inBlock, Exit.then])
            refine bodyPost_ret (by simp [results, Try.results35, go_sem, e0, e1, e2, e3]; try rfl) rfl ?_
            rw [HM.out]
            exact ⟨rfl, BF⟩
      · have HM := Lib.hid (mg_no (fun h => hs h.2.2 : ¬ mgP c s l m c2 s2 l2 m2))
        have hs' : 999 < c + c2 := by omega
        clear va vb hs
        have hX := X0
        have hY := Y0
        have hR := R0
        obtain ⟨p0, p1, p2, p3, pf, pl⟩ := hX
        obtain ⟨q0, q1, q2, q3, qf, ql⟩ := hY
        obtain ⟨r0, r1, r2, r3, rf, rl⟩ := hR
        have He := Lib.hid (R0.set (.int .i64 0) (.int .i64 0) (.int .i64 0) (.int .i64 0))
        have BF := below_set4 (g := w.heap.size + 1 + 1) BB (by omega) (.int .i64 0) (.int .i64 0) (.int .i64 0) (.int .i64 0)
        clear X0 Y0 R0 BB
        go_wp2
        generalize ((((w2.setCell ⟨w.heap.size + 1 + 1, 0, none⟩ (.int .i64 0)).setCell ⟨w.heap.size + 1 + 1, 1, none⟩ (.int .i64 0)).setCell ⟨w.heap.size + 1 + 1, 2, none⟩ (.int .i64 0)).setCell ⟨w.heap.size + 1 + 1, 3, none⟩ (.int .i64 0)) = wF at *
        obtain ⟨e0, e1, e2, e3, -, -⟩ := He.out
        (try simp only [Exit.inBlock, Exit.then])
        refine bodyPost_ret (by simp [results, Try.results35, go_sem, e0, e1, e2, e3]; try rfl) rfl ?_
        rw [HM.out]
        exact ⟨rfl, BF⟩
    · have HM := Lib.hid (mg_no (fun h => of_decide_eq_false (show decide (vAccP c2 s2 l2 m2) = false from hb0) h.2.1 : ¬ mgP c s l m c2 s2 l2 m2))
      rw [hb0]
      clear hb0
      have hX := X0
      have hY := Y0
      have hR := R0
      obtain ⟨p0, p1, p2, p3, pf, pl⟩ := hX
      obtain ⟨q0, q1, q2, q3, qf, ql⟩ := hY
      obtain ⟨r0, r1, r2, r3, rf, rl⟩ := hR
      have He := Lib.hid (R0.set (.int .i64 0) (.int .i64 0) (.int .i64 0) (.int .i64 0))
      have BF := below_set4 (g := w.heap.size + 1 + 1) BB (by omega) (.int .i64 0) (.int .i64 0) (.int .i64 0) (.int .i64 0)
      clear X0 Y0 R0 BB
      go_wp2
      generalize ((((w2.setCell ⟨w.heap.size + 1 + 1, 0, none⟩ (.int .i64 0)).setCell ⟨w.heap.size + 1 + 1, 1, none⟩ (.int .i64 0)).setCell ⟨w.heap.size + 1 + 1, 2, none⟩ (.int .i64 0)).setCell ⟨w.heap.size + 1 + 1, 3, none⟩ (.int .i64 0)) = wF at *
      obtain ⟨e0, e1, e2, e3, -, -⟩ := He.out
      (try simp only [Exit.inBlock, Exit.then])
      refine bodyPost_ret (by simp [results, Try.results35, go_sem, e0, e1, e2, e3]; try rfl) rfl ?_
      rw [HM.out]
      exact ⟨rfl, BF⟩
  · have HM := Lib.hid (mg_no (fun h => of_decide_eq_false (show decide (vAccP c s l m) = false from ha) h.1 : ¬ mgP c s l m c2 s2 l2 m2))
    rw [ha]
    clear ha
    have hX := X0
    have hY := Y0
    have hR := R0
    obtain ⟨p0, p1, p2, p3, pf, pl⟩ := hX
    obtain ⟨q0, q1, q2, q3, qf, ql⟩ := hY
    obtain ⟨r0, r1, r2, r3, rf, rl⟩ := hR
    have He := Lib.hid (R0.set (.int .i64 0) (.int .i64 0) (.int .i64 0) (.int .i64 0))
    have BF := below_set4 (g := w.heap.size + 1 + 1) BB (by omega) (.int .i64 0) (.int .i64 0) (.int .i64 0) (.int .i64 0)
    clear X0 Y0 R0 BB
    go_wp2
    generalize ((((w1.setCell ⟨w.heap.size + 1 + 1, 0, none⟩ (.int .i64 0)).setCell ⟨w.heap.size + 1 + 1, 1, none⟩ (.int .i64 0)).setCell ⟨w.heap.size + 1 + 1, 2, none⟩ (.int .i64 0)).setCell ⟨w.heap.size + 1 + 1, 3, none⟩ (.int .i64 0)) = wF at *
    obtain ⟨e0, e1, e2, e3, -, -⟩ := He.out
    (try simp only [Exit.inBlock, Exit.then])
    refine bodyPost_ret (by simp [results, Try.results35, go_sem, e0, e1, e2, e3]; try rfl) rfl ?_
    rw [HM.out]
    exact ⟨rfl, BF⟩

set_option maxRecDepth 100000 in
set_option maxHeartbeats 8000000 in
theorem mgI_any (c s l m c2 s2 l2 m2 : Int) (w : World) : Calls Try.prog 34 #[.agg #[.int .i64 c, .int .i64 s, .int .i64 l, .int .i64 m], .agg #[.int .i64 c2, .int .i64 s2, .int .i64 l2, .int .i64 m2]] w fun e w' => e = .returned (MG c s l m c2 s2 l2 m2) ∧ Below w.heap.size w w' := by
  have X0 := ((B4.made w (.int .i64 c) (.int .i64 s) (.int .i64 l) (.int .i64 m) 48).keep ((Below.refl _ _).alloc (Nat.le_refl _) (.cells #[.int .i64 c2, .int .i64 s2, .int .i64 l2, .int .i64 m2] 48))).keep ((Below.refl _ _).alloc (Nat.le_refl _) (.cells #[.int .i64 0, .int .i64 0, .int .i64 0, .int .i64 0] 48))
  have Y0 := (B4.made (w.alloc (.cells #[.int .i64 c, .int .i64 s, .int .i64 l, .int .i64 m] 48)) (.int .i64 c2) (.int .i64 s2) (.int .i64 l2) (.int .i64 m2) 48).keep ((Below.refl _ _).alloc (Nat.le_refl _) (.cells #[.int .i64 0, .int .i64 0, .int .i64 0, .int .i64 0] 48))
  have R0 := B4.made ((w.alloc (.cells #[.int .i64 c, .int .i64 s, .int .i64 l, .int .i64 m] 48)).alloc (.cells #[.int .i64 c2, .int .i64 s2, .int .i64 l2, .int .i64 m2] 48)) (.int .i64 0) (.int .i64 0) (.int .i64 0) (.int .i64 0) 48
  simp only [World.size_alloc] at Y0 R0
  have BB : Below w.heap.size w (((w.alloc (.cells #[.int .i64 c, .int .i64 s, .int .i64 l, .int .i64 m] 48)).alloc (.cells #[.int .i64 c2, .int .i64 s2, .int .i64 l2, .int .i64 m2] 48)).alloc (.cells #[.int .i64 0, .int .i64 0, .int .i64 0, .int .i64 0] 48)) := by go_grown
  have zB : w.heap.size + 3 = (((w.alloc (.cells #[.int .i64 c, .int .i64 s, .int .i64 l, .int .i64 m] 48)).alloc (.cells #[.int .i64 c2, .int .i64 s2, .int .i64 l2, .int .i64 m2] 48)).alloc (.cells #[.int .i64 0, .int .i64 0, .int .i64 0, .int .i64 0] 48)).heap.size := by simp
  have hX := X0
  have hY := Y0
  have hR := R0
  obtain ⟨p0, p1, p2, p3, pf, pl⟩ := hX
  obtain ⟨q0, q1, q2, q3, qf, ql⟩ := hY
  obtain ⟨r0, r1, r2, r3, rf, rl⟩ := hR
  go_enter Try.func34, Try.ntmps34
  go_wp2_with fail
  clear p0 p1 p2 p3 pf pl q0 q1 q2 q3 qf ql r0 r1 r2 r3 rf rl
  generalize (((w.alloc (.cells #[.int .i64 c, .int .i64 s, .int .i64 l, .int .i64 m] 48)).alloc (.cells #[.int .i64 c2, .int .i64 s2, .int .i64 l2, .int .i64 m2] 48)).alloc (.cells #[.int .i64 0, .int .i64 0, .int .i64 0, .int .i64 0] 48)) = wA at *
  refine (implVAcc_any c s l m _).mono ?_
  rintro e w1 ⟨rfl, hb⟩
  replace X0 := X0.keep hb
  replace Y0 := Y0.keep hb
  replace R0 := R0.keep hb
  replace BB := BB.trans (hb.mono BB.size)
  clear hb
  rcases Bool.eq_false_or_eq_true (vAcc c s l m) with ha | ha
  · rw [ha]
    have Ha := Lib.hid ha
    clear ha
    have hX := X0
    have hY := Y0
    have hR := R0
    obtain ⟨p0, p1, p2, p3, pf, pl⟩ := hX
    obtain ⟨q0, q1, q2, q3, qf, ql⟩ := hY
    obtain ⟨r0, r1, r2, r3, rf, rl⟩ := hR
    go_wp2_with fail
    clear p0 p1 p2 p3 pf pl q0 q1 q2 q3 qf ql r0 r1 r2 r3 rf rl
    refine (implVAcc_any c2 s2 l2 m2 _).mono ?_
    rintro e w2 ⟨rfl, hb⟩
    replace X0 := X0.keep hb
    replace Y0 := Y0.keep hb
    replace R0 := R0.keep hb
    replace BB := BB.trans (hb.mono BB.size)
    clear hb
    rcases Bool.eq_false_or_eq_true (vAcc c2 s2 l2 m2) with hb0 | hb0
    · rw [hb0]
      have Hb := Lib.hid hb0
      have va := of_decide_eq_true Ha.out
      have vb := of_decide_eq_true Hb.out
      clear hb0
      have ca : 0 ≤ c ∧ c ≤ 999 := by unfold vAccP at va; omega
      have cb : 0 ≤ c2 ∧ c2 ≤ 999 := by unfold vAccP at vb; omega
      obtain ⟨ca, cc⟩ := ca
      obtain ⟨cb, cd⟩ := cb
      by_cases hs : c + c2 ≤ 999
      · have hv : mgP c s l m c2 s2 l2 m2 := ⟨va, vb, hs⟩
        by_cases h1 : c = 0
        · subst h1
          have HM := Lib.hid (mg_a0 hv)
          have hz : s = 0 ∧ l = 0 ∧ m = 0 := by unfold vAccP at va; omega
          obtain ⟨rfl, rfl, rfl⟩ := hz
          clear va vb hv
          have hX := X0
          have hY := Y0
          have hR := R0
          obtain ⟨p0, p1, p2, p3, pf, pl⟩ := hX
          obtain ⟨q0, q1, q2, q3, qf, ql⟩ := hY
          obtain ⟨r0, r1, r2, r3, rf, rl⟩ := hR
          go_wp2_with fail
          clear p0 p1 p2 p3 pf pl q0 q1 q2 q3 qf ql r0 r1 r2 r3 rf rl
          refine (mergeI_0 c2 s2 l2 m2 _).mono ?_
          rintro e w3 ⟨rfl, hb⟩
          replace X0 := X0.keep hb
          replace Y0 := Y0.keep hb
          replace R0 := R0.keep hb
          replace BB := BB.trans (hb.mono BB.size)
          clear hb
          have hX := X0
          have hY := Y0
          have hR := R0
          obtain ⟨p0, p1, p2, p3, pf, pl⟩ := hX
          obtain ⟨q0, q1, q2, q3, qf, ql⟩ := hY
          obtain ⟨r0, r1, r2, r3, rf, rl⟩ := hR
          have He := Lib.hid (R0.set (.int .i64 c2) (.int .i64 s2) (.int .i64 l2) (.int .i64 m2))
          have BF := below_set4 (g := w.heap.size + 1 + 1) BB (by omega) (.int .i64 c2) (.int .i64 s2) (.int .i64 l2) (.int .i64 m2)
          clear X0 Y0 R0 BB
          go_wp2
          generalize ((((w3.setCell ⟨w.heap.size + 1 + 1, 0, none⟩ (.int .i64 c2)).setCell ⟨w.heap.size + 1 + 1, 1, none⟩ (.int .i64 s2)).setCell ⟨w.heap.size + 1 + 1, 2, none⟩ (.int .i64 l2)).setCell ⟨w.heap.size + 1 + 1, 3, none⟩ (.int .i64 m2)) = wF at *
          obtain ⟨e0, e1, e2, e3, -, -⟩ := He.out
          (try simp only [Exit.inBlock, Exit.then])
          refine bodyPost_ret (by simp [results, Try.results34, go_sem, e0, e1, e2, e3]; try rfl) rfl ?_
          rw [HM.out]
          exact ⟨rfl, BF⟩
        · by_cases h2 : c2 = 0
          · subst h2
            have HM := Lib.hid (mg_b0 h1 hv)
            have hz : s2 = 0 ∧ l2 = 0 ∧ m2 = 0 := by unfold vAccP at vb; omega
            obtain ⟨rfl, rfl, rfl⟩ := hz
            have H1 := Lib.hid h1
            clear va vb hv h1
            have hX := X0
            have hY := Y0
            have hR := R0
            obtain ⟨p0, p1, p2, p3, pf, pl⟩ := hX
            obtain ⟨q0, q1, q2, q3, qf, ql⟩ := hY
            obtain ⟨r0, r1, r2, r3, rf, rl⟩ := hR
            go_wp2_with fail
            clear p0 p1 p2 p3 pf pl q0 q1 q2 q3 qf ql r0 r1 r2 r3 rf rl
            refine (mergeI_1 c s l m _ H1.out).mono ?_
            rintro e w3 ⟨rfl, hb⟩
            replace X0 := X0.keep hb
            replace Y0 := Y0.keep hb
            replace R0 := R0.keep hb
            replace BB := BB.trans (hb.mono BB.size)
            clear hb
            have hX := X0
            have hY := Y0
            have hR := R0
            obtain ⟨p0, p1, p2, p3, pf, pl⟩ := hX
            obtain ⟨q0, q1, q2, q3, qf, ql⟩ := hY
            obtain ⟨r0, r1, r2, r3, rf, rl⟩ := hR
            have He := Lib.hid (R0.set (.int .i64 c) (.int .i64 s) (.int .i64 l) (.int .i64 m))
            have BF := below_set4 (g := w.heap.size + 1 + 1) BB (by omega) (.int .i64 c) (.int .i64 s) (.int .i64 l) (.int .i64 m)
            clear X0 Y0 R0 BB
            go_wp2
            generalize ((((w3.setCell ⟨w.heap.size + 1 + 1, 0, none⟩ (.int .i64 c)).setCell ⟨w.heap.size + 1 + 1, 1, none⟩ (.int .i64 s)).setCell ⟨w.heap.size + 1 + 1, 2, none⟩ (.int .i64 l)).setCell ⟨w.heap.size + 1 + 1, 3, none⟩ (.int .i64 m)) = wF at *
            obtain ⟨e0, e1, e2, e3, -, -⟩ := He.out
            (try simp only [Exit.inBlock, Exit.then])
            refine bodyPost_ret (by simp [results, Try.results34, go_sem, e0, e1, e2, e3]; try rfl) rfl ?_
            rw [HM.out]
            exact ⟨rfl, BF⟩
          · have HM := Lib.hid (mg_ab h1 h2 hv)
            have a1 : 1 ≤ c ∧ c ≤ 999 ∧ 0 ≤ l ∧ l ≤ m ∧ m ≤ 99 ∧ c * l ≤ s ∧ s ≤ c * m := by rcases va with h | h; exact absurd h.1 h1; exact h
            have a2 : 1 ≤ c2 ∧ c2 ≤ 999 ∧ 0 ≤ l2 ∧ l2 ≤ m2 ∧ m2 ≤ 99 ∧ c2 * l2 ≤ s2 ∧ s2 ≤ c2 * m2 := by rcases vb with h | h; exact absurd h.1 h2; exact h
            obtain ⟨g0, g1⟩ := prod_bd a1.1 a1.2.1 a1.2.2.1 (by omega : l ≤ 99)
            obtain ⟨g2, g3⟩ := prod_bd a1.1 a1.2.1 (by omega : 0 ≤ m) a1.2.2.2.2.1
            obtain ⟨g4, g5⟩ := prod_bd a2.1 a2.2.1 a2.2.2.1 (by omega : l2 ≤ 99)
            obtain ⟨g6, g7⟩ := prod_bd a2.1 a2.2.1 (by omega : 0 ≤ m2) a2.2.2.2.2.1
            have u1 : 0 ≤ s ∧ s ≤ 98901 := by omega
            have u2 : 0 ≤ s2 ∧ s2 ≤ 98901 := by omega
            obtain ⟨u1, u3⟩ := u1
            obtain ⟨u2, u4⟩ := u2
            have c1 : 1 ≤ c := a1.1
            have c3 : 1 ≤ c2 := a2.1
            clear va vb hv h1 h2 a1 a2 g0 g1 g2 g3 g4 g5 g6 g7
            have hX := X0
            have hY := Y0
            have hR := R0
            obtain ⟨p0, p1, p2, p3, pf, pl⟩ := hX
            obtain ⟨q0, q1, q2, q3, qf, ql⟩ := hY
            obtain ⟨r0, r1, r2, r3, rf, rl⟩ := hR
            go_wp2_with fail
            clear p0 p1 p2 p3 pf pl q0 q1 q2 q3 qf ql r0 r1 r2 r3 rf rl
            refine (mergeI_2 c s l m c2 s2 l2 m2 _ c1 (by omega) c3 (by omega) u1 u3 u2 u4).mono ?_
            rintro e w3 ⟨rfl, hb⟩
            replace X0 := X0.keep hb
            replace Y0 := Y0.keep hb
            replace R0 := R0.keep hb
            replace BB := BB.trans (hb.mono BB.size)
            clear hb
            have hX := X0
            have hY := Y0
            have hR := R0
            obtain ⟨p0, p1, p2, p3, pf, pl⟩ := hX
            obtain ⟨q0, q1, q2, q3, qf, ql⟩ := hY
            obtain ⟨r0, r1, r2, r3, rf, rl⟩ := hR
            have He := Lib.hid (R0.set (.int .i64 (c + c2)) (.int .i64 (s + s2)) (.int .i64 (mnI l l2)) (.int .i64 (mxI m m2)))
            have BF := below_set4 (g := w.heap.size + 1 + 1) BB (by omega) (.int .i64 (c + c2)) (.int .i64 (s + s2)) (.int .i64 (mnI l l2)) (.int .i64 (mxI m m2))
            clear X0 Y0 R0 BB
            go_wp2
            generalize ((((w3.setCell ⟨w.heap.size + 1 + 1, 0, none⟩ (.int .i64 (c + c2))).setCell ⟨w.heap.size + 1 + 1, 1, none⟩ (.int .i64 (s + s2))).setCell ⟨w.heap.size + 1 + 1, 2, none⟩ (.int .i64 (mnI l l2))).setCell ⟨w.heap.size + 1 + 1, 3, none⟩ (.int .i64 (mxI m m2))) = wF at *
            obtain ⟨e0, e1, e2, e3, -, -⟩ := He.out
            (try simp only [Exit.inBlock, Exit.then])
            refine bodyPost_ret (by simp [results, Try.results34, go_sem, e0, e1, e2, e3]; try rfl) rfl ?_
            rw [HM.out]
            exact ⟨rfl, BF⟩
      · have HM := Lib.hid (mg_no (fun h => hs h.2.2 : ¬ mgP c s l m c2 s2 l2 m2))
        have hs' : 999 < c + c2 := by omega
        clear va vb hs
        have hX := X0
        have hY := Y0
        have hR := R0
        obtain ⟨p0, p1, p2, p3, pf, pl⟩ := hX
        obtain ⟨q0, q1, q2, q3, qf, ql⟩ := hY
        obtain ⟨r0, r1, r2, r3, rf, rl⟩ := hR
        have He := Lib.hid (R0.set (.int .i64 0) (.int .i64 0) (.int .i64 0) (.int .i64 0))
        have BF := below_set4 (g := w.heap.size + 1 + 1) BB (by omega) (.int .i64 0) (.int .i64 0) (.int .i64 0) (.int .i64 0)
        clear X0 Y0 R0 BB
        go_wp2
        generalize ((((w2.setCell ⟨w.heap.size + 1 + 1, 0, none⟩ (.int .i64 0)).setCell ⟨w.heap.size + 1 + 1, 1, none⟩ (.int .i64 0)).setCell ⟨w.heap.size + 1 + 1, 2, none⟩ (.int .i64 0)).setCell ⟨w.heap.size + 1 + 1, 3, none⟩ (.int .i64 0)) = wF at *
        obtain ⟨e0, e1, e2, e3, -, -⟩ := He.out
        (try simp only [Exit.inBlock, Exit.then])
        refine bodyPost_ret (by simp [results, Try.results34, go_sem, e0, e1, e2, e3]; try rfl) rfl ?_
        rw [HM.out]
        exact ⟨rfl, BF⟩
    · have HM := Lib.hid (mg_no (fun h => of_decide_eq_false (show decide (vAccP c2 s2 l2 m2) = false from hb0) h.2.1 : ¬ mgP c s l m c2 s2 l2 m2))
      rw [hb0]
      clear hb0
      have hX := X0
      have hY := Y0
      have hR := R0
      obtain ⟨p0, p1, p2, p3, pf, pl⟩ := hX
      obtain ⟨q0, q1, q2, q3, qf, ql⟩ := hY
      obtain ⟨r0, r1, r2, r3, rf, rl⟩ := hR
      have He := Lib.hid (R0.set (.int .i64 0) (.int .i64 0) (.int .i64 0) (.int .i64 0))
      have BF := below_set4 (g := w.heap.size + 1 + 1) BB (by omega) (.int .i64 0) (.int .i64 0) (.int .i64 0) (.int .i64 0)
      clear X0 Y0 R0 BB
      go_wp2
      generalize ((((w2.setCell ⟨w.heap.size + 1 + 1, 0, none⟩ (.int .i64 0)).setCell ⟨w.heap.size + 1 + 1, 1, none⟩ (.int .i64 0)).setCell ⟨w.heap.size + 1 + 1, 2, none⟩ (.int .i64 0)).setCell ⟨w.heap.size + 1 + 1, 3, none⟩ (.int .i64 0)) = wF at *
      obtain ⟨e0, e1, e2, e3, -, -⟩ := He.out
      (try simp only [Exit.inBlock, Exit.then])
      refine bodyPost_ret (by simp [results, Try.results34, go_sem, e0, e1, e2, e3]; try rfl) rfl ?_
      rw [HM.out]
      exact ⟨rfl, BF⟩
  · have HM := Lib.hid (mg_no (fun h => of_decide_eq_false (show decide (vAccP c s l m) = false from ha) h.1 : ¬ mgP c s l m c2 s2 l2 m2))
    rw [ha]
    clear ha
    have hX := X0
    have hY := Y0
    have hR := R0
    obtain ⟨p0, p1, p2, p3, pf, pl⟩ := hX
    obtain ⟨q0, q1, q2, q3, qf, ql⟩ := hY
    obtain ⟨r0, r1, r2, r3, rf, rl⟩ := hR
    have He := Lib.hid (R0.set (.int .i64 0) (.int .i64 0) (.int .i64 0) (.int .i64 0))
    have BF := below_set4 (g := w.heap.size + 1 + 1) BB (by omega) (.int .i64 0) (.int .i64 0) (.int .i64 0) (.int .i64 0)
    clear X0 Y0 R0 BB
    go_wp2
    generalize ((((w1.setCell ⟨w.heap.size + 1 + 1, 0, none⟩ (.int .i64 0)).setCell ⟨w.heap.size + 1 + 1, 1, none⟩ (.int .i64 0)).setCell ⟨w.heap.size + 1 + 1, 2, none⟩ (.int .i64 0)).setCell ⟨w.heap.size + 1 + 1, 3, none⟩ (.int .i64 0)) = wF at *
    obtain ⟨e0, e1, e2, e3, -, -⟩ := He.out
    (try simp only [Exit.inBlock, Exit.then])
    refine bodyPost_ret (by simp [results, Try.results34, go_sem, e0, e1, e2, e3]; try rfl) rfl ?_
    rw [HM.out]
    exact ⟨rfl, BF⟩

end Go.Proofs.Ytehedhkadjidpab
