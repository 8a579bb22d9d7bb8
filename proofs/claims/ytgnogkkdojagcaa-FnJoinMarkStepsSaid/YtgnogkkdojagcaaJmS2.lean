import Derived.Test.YtgnogkkdojagcaaJmS
namespace Go.Proofs.Ytgnogkkdojagcaa
open Go.RowKit
theorem vjB_parts {l r : List EventR} {m : Int} (h : vjB l r m = true) : vEvs l = true ∧ vEvs r = true ∧ -1 ≤ m ∧ m ≤ 3000 := by
  unfold vjB at h
  rw [Bool.and_eq_true, Bool.and_eq_true, decide_eq_true_eq] at h
  exact ⟨h.1.1, h.1.2, h.2⟩
theorem specIR_any (x a b : Int) (w : World) : Calls Try.prog 31 #[.int .i64 x, .int .i64 a, .int .i64 b] w fun e w' => e = .returned (.bool (decide (a ≤ x ∧ x ≤ b))) ∧ w = w' := by
  go_enter Try.func31, Try.ntmps31
  go_wp2
  all_goals go_returns
  all_goals refine ⟨ret_bool ?_, rfl⟩
  all_goals first | (symm; rw [decide_eq_true_eq]; omega) | (symm; rw [decide_eq_false_iff_not]; omega) | (rw [Bool.eq_iff_iff]; simp; omega)
theorem implIR_any (x a b : Int) (w : World) : Calls Try.prog 43 #[.int .i64 x, .int .i64 a, .int .i64 b] w fun e w' => e = .returned (.bool (decide (a ≤ x ∧ x ≤ b))) ∧ w = w' := by
  go_enter Try.func43, Try.ntmps43
  go_wp2
  all_goals go_returns
  all_goals refine ⟨ret_bool ?_, rfl⟩
  all_goals first | (symm; rw [decide_eq_true_eq]; omega) | (symm; rw [decide_eq_false_iff_not]; omega) | (rw [Bool.eq_iff_iff]; simp; omega)
set_option maxRecDepth 100000 in
set_option maxHeartbeats 8000000 in
theorem specJm_any (A : Option Addr) (c : Nat) (l : List EventR) (B : Option Addr) (d : Nat) (r : List EventR) (m : Int) (mark low high : Int) (w : World) (ha : Row EventR.enc 3 w A l) (hr : Row EventR.enc 3 w B r) :
    Calls Try.prog 20 #[.agg #[.slice A l.length c, .slice B r.length d, .int .i64 m], .int .i64 mark, .int .i64 low, .int .i64 high] w (JsBPost w (jmL l r m mark low high) (jmR l r m mark low high) (jmM l r m mark low high) (jmK l r m mark low high)) := by
  have hal := ha.1
  have hrl := hr.1
  have x0 := (Bx.made w (.slice A l.length c) (.slice B r.length d) (.int .i64 m) 46).keep ((Below.refl _ _).alloc (Nat.le_refl _) (.cells #[.slice none 0 0, .slice none 0 0, .int .i64 0] 46))
  have x1 := Bx.made (w.alloc (.cells #[.slice A l.length c, .slice B r.length d, .int .i64 m] 46)) (.slice none 0 0) (.slice none 0 0) (.int .i64 0) 46
  have hB : Below w.heap.size w ((w.alloc (.cells #[.slice A l.length c, .slice B r.length d, .int .i64 m] 46)).alloc (.cells #[.slice none 0 0, .slice none 0 0, .int .i64 0] 46)) := ((Below.refl _ _).alloc (Nat.le_refl _) _).alloc (by simp) _
  simp only [World.size_alloc] at x1
  have hzA : w.heap.size + 2 ≤ ((w.alloc (.cells #[.slice A l.length c, .slice B r.length d, .int .i64 m] 46)).alloc (.cells #[.slice none 0 0, .slice none 0 0, .int .i64 0] 46)).heap.size := by simp
  obtain ⟨p00, p01, p02, pf0, pl0⟩ := x0
  go_enter Try.func20, Try.ntmps20
  go_wp2_with fail
  clear p00 p01 p02
  have y0 := (Bx.made w (.slice A l.length c) (.slice B r.length d) (.int .i64 m) 46).keep ((Below.refl _ _).alloc (Nat.le_refl _) (.cells #[.slice none 0 0, .slice none 0 0, .int .i64 0] 46))
  generalize ((w.alloc (.cells #[.slice A l.length c, .slice B r.length d, .int .i64 m] 46)).alloc (.cells #[.slice none 0 0, .slice none 0 0, .int .i64 0] 46)) = wA at *
  refine (specVJ_any A c l B d r m _ (ha.keep hB) (hr.keep hB)).mono ?_
  rintro e w1 ⟨rfl, b1⟩
  obtain ⟨p00, p01, p02, pf0', pl0'⟩ := y0.keep b1
  have y0' := y0.keep b1
  have x1' := x1.keep b1
  have B1 := hB.trans (b1.mono hB.size)
  have z1 := b1.size
  clear pf0 pf0' pl0 y0 x1 b1 hB
  rcases Bool.eq_false_or_eq_true (vjB l r m) with h0 | h0
  · rw [h0]
    by_cases h1 : m ≤ mark ∧ mark ≤ 3000
    · obtain ⟨h1a, h1b⟩ := h1
      have hVR := fun W => specVR_any low high W
      rcases Bool.eq_false_or_eq_true (vrB low high) with h2 | h2
      · have _t := trivial
        have HF := Lib.hid (show jmL l r m mark low high = l.filter (jmLp mark high) ∧ jmR l r m mark low high = r.filter (jmLp mark (-low)) ∧ jmM l r m mark low high = mark ∧ jmK l r m mark low high = true by
          have hn : jmP l r m mark low high := ⟨h0, ⟨h1a, h1b⟩, h2⟩
          unfold jmL jmR jmM jmK
          exact ⟨if_pos hn, if_pos hn, if_pos hn, decide_eq_true hn⟩)
        rw [h2] at hVR
        have H0 := Lib.hid h0
        have H2 := Lib.hid h2
        clear h0 h2
        have hir : decide (m ≤ mark ∧ mark ≤ 3000) = true := decide_eq_true ⟨h1a, h1b⟩
        go_wp2_with fail
        refine (specIR_any mark m 3000 _).mono ?_
        rintro e w2 ⟨rfl, rfl⟩
        rw [hir]
        clear hir
        go_wp2_with fail
        refine (hVR _).mono ?_
        rintro e w2 ⟨rfl, rfl⟩
        clear hVR
        go_wp2_with fail
        obtain ⟨v1, v2, -, -⟩ := vjB_parts H0.out
        refine (specJm0_any A c l B d r m mark low high _ (ha.keep B1) (hr.keep B1) v1 v2 H2.out).mono ?_
        rintro e w3 ⟨A1, c1, A2, c2, rfl, o1, o2, hd0, b3⟩
        have B3 := B1.trans (b3.mono B1.size)
        have x1'' := x1'.keep b3
        have z3 := b3.size
        have lo1 : ∀ g, Value.ownBlock (.slice A1 (l.filter (jmLp mark high)).length c1) = some g → w1.heap.size ≤ g := fun g hg => (o1.lt g hg).1
        have lo2 : ∀ g, Value.ownBlock (.slice A2 (r.filter (jmLp mark (-low))).length c2) = some g → w1.heap.size ≤ g := fun g hg => (o2.lt g hg).1
        have o1r := own_rebase (B := w.heap.size) o1 (by omega)
        have o2r := own_rebase (B := w.heap.size) o2 (by omega)
        clear p00 p01 p02 y0' x1' b3 B1 v1 v2 o1 o2
        have q1 : ∀ g, Value.ownBlock (.slice A1 (l.filter (jmLp mark high)).length c1) = some g → w.heap.size + 2 ≤ g := fun g hg => by have := lo1 g hg; omega
        have q2 : ∀ g, Value.ownBlock (.slice A2 (r.filter (jmLp mark (-low))).length c2) = some g → w.heap.size + 2 ≤ g := fun g hg => by have := lo2 g hg; omega
        have hd : ∀ g g', Value.ownBlock (.slice A1 (l.filter (jmLp mark high)).length c1) = some g → Value.ownBlock (.slice A2 (r.filter (jmLp mark (-low))).length c2) = some g' → g ≠ g' := hd0
        have o1f : Own EventR.enc 3 42 (((w3.setCell ⟨w.heap.size + 1, 0, none⟩ (.slice A1 (l.filter (jmLp mark high)).length c1)).setCell ⟨w.heap.size + 1, 1, none⟩ (.slice A2 (r.filter (jmLp mark (-low))).length c2)).setCell ⟨w.heap.size + 1, 2, none⟩ (.int .i64 mark)) w.heap.size (.slice A1 (l.filter (jmLp mark high)).length c1) (l.filter (jmLp mark high)) := by
          repeat (refine Own.set ?_ (fun g hg => by have := q1 g hg; simp; omega) _)
          exact o1r
        have o2f : Own EventR.enc 3 42 (((w3.setCell ⟨w.heap.size + 1, 0, none⟩ (.slice A1 (l.filter (jmLp mark high)).length c1)).setCell ⟨w.heap.size + 1, 1, none⟩ (.slice A2 (r.filter (jmLp mark (-low))).length c2)).setCell ⟨w.heap.size + 1, 2, none⟩ (.int .i64 mark)) w.heap.size (.slice A2 (r.filter (jmLp mark (-low))).length c2) (r.filter (jmLp mark (-low))) := by
          repeat (refine Own.set ?_ (fun g hg => by have := q2 g hg; simp; omega) _)
          exact o2r
        have hBf : Below w.heap.size w (((w3.setCell ⟨w.heap.size + 1, 0, none⟩ (.slice A1 (l.filter (jmLp mark high)).length c1)).setCell ⟨w.heap.size + 1, 1, none⟩ (.slice A2 (r.filter (jmLp mark (-low))).length c2)).setCell ⟨w.heap.size + 1, 2, none⟩ (.int .i64 mark)) := by
          repeat (refine Below.setCell ?_ (by simp; try omega) _)
          exact B3
        have HX1 := x1''
        have HX2 := x1''
        obtain ⟨p10, p11, p12, pf1, pl1⟩ := HX2
        obtain ⟨e0, e1, e2, -, -⟩ := ((HX1.set0 (.slice A1 (l.filter (jmLp mark high)).length c1)).set1 (.slice A2 (r.filter (jmLp mark (-low))).length c2)).set2 (.int .i64 mark)
        have He := Lib.hid (show _ ∧ _ ∧ _ from ⟨e0, e1, e2⟩)
        clear e0 e1 e2 HX1 q1 q2
        go_wp2
        generalize (((w3.setCell ⟨w.heap.size + 1, 0, none⟩ (.slice A1 (l.filter (jmLp mark high)).length c1)).setCell ⟨w.heap.size + 1, 1, none⟩ (.slice A2 (r.filter (jmLp mark (-low))).length c2)).setCell ⟨w.heap.size + 1, 2, none⟩ (.int .i64 mark)) = wF at *
        have e := He.out
        (try simp only [Exit.inBlock, Exit.then])
        refine bodyPost_ret (by simp [results, Try.results20, go_sem, e.1, e.2.1, e.2.2]; try rfl) rfl ?_
        rw [HF.out.1, HF.out.2.1, HF.out.2.2.1, HF.out.2.2.2]
        exact ⟨A1, c1, A2, c2, rfl, o1f, o2f, hd, hBf⟩
      · have _t := trivial
        have HF := Lib.hid (show jmL l r m mark low high = [] ∧ jmR l r m mark low high = [] ∧ jmM l r m mark low high = 0 ∧ jmK l r m mark low high = false by
          have hn : ¬ jmP l r m mark low high := fun h => by have := h.2.2; rw [h2] at this; cases this
          unfold jmL jmR jmM jmK
          exact ⟨if_neg hn, if_neg hn, if_neg hn, decide_eq_false hn⟩)
        rw [h2] at hVR
        clear h0 h2
        have hir : decide (m ≤ mark ∧ mark ≤ 3000) = true := decide_eq_true ⟨h1a, h1b⟩
        go_wp2_with fail
        refine (specIR_any mark m 3000 _).mono ?_
        rintro e w2 ⟨rfl, rfl⟩
        rw [hir]
        clear hir
        go_wp2_with fail
        refine (hVR _).mono ?_
        rintro e w2 ⟨rfl, rfl⟩
        clear hVR y0'
        have q1 : ∀ g, Value.ownBlock (.slice none 0 0) = some g → w.heap.size + 2 ≤ g := fun g hg => by simp [Value.ownBlock] at hg
        have q2 : ∀ g, Value.ownBlock (.slice none 0 0) = some g → w.heap.size + 2 ≤ g := fun g hg => by simp [Value.ownBlock] at hg
        have hd : ∀ g g', Value.ownBlock (.slice none 0 0) = some g → Value.ownBlock (.slice none 0 0) = some g' → g ≠ g' := fun g g' hg _ => by simp [Value.ownBlock] at hg
        have o1f : Own EventR.enc 3 42 (((w1.setCell ⟨w.heap.size + 1, 0, none⟩ (.slice none 0 0)).setCell ⟨w.heap.size + 1, 1, none⟩ (.slice none 0 0)).setCell ⟨w.heap.size + 1, 2, none⟩ (.int .i64 0)) w.heap.size (.slice none 0 0) ([]) := by
          repeat (refine Own.set ?_ (fun g hg => by have := q1 g hg; simp; omega) _)
          exact ⟨by simp, World.ownsRow_nil _ _ _ _⟩
        have o2f : Own EventR.enc 3 42 (((w1.setCell ⟨w.heap.size + 1, 0, none⟩ (.slice none 0 0)).setCell ⟨w.heap.size + 1, 1, none⟩ (.slice none 0 0)).setCell ⟨w.heap.size + 1, 2, none⟩ (.int .i64 0)) w.heap.size (.slice none 0 0) ([]) := by
          repeat (refine Own.set ?_ (fun g hg => by have := q2 g hg; simp; omega) _)
          exact ⟨by simp, World.ownsRow_nil _ _ _ _⟩
        have hBf : Below w.heap.size w (((w1.setCell ⟨w.heap.size + 1, 0, none⟩ (.slice none 0 0)).setCell ⟨w.heap.size + 1, 1, none⟩ (.slice none 0 0)).setCell ⟨w.heap.size + 1, 2, none⟩ (.int .i64 0)) := by
          repeat (refine Below.setCell ?_ (by simp; try omega) _)
          exact B1
        have HX1 := x1'
        have HX2 := x1'
        obtain ⟨p10, p11, p12, pf1, pl1⟩ := HX2
        obtain ⟨e0, e1, e2, -, -⟩ := ((HX1.set0 (.slice none 0 0)).set1 (.slice none 0 0)).set2 (.int .i64 0)
        have He := Lib.hid (show _ ∧ _ ∧ _ from ⟨e0, e1, e2⟩)
        clear e0 e1 e2 HX1 q1 q2
        go_wp2
        generalize (((w1.setCell ⟨w.heap.size + 1, 0, none⟩ (.slice none 0 0)).setCell ⟨w.heap.size + 1, 1, none⟩ (.slice none 0 0)).setCell ⟨w.heap.size + 1, 2, none⟩ (.int .i64 0)) = wF at *
        have e := He.out
        (try simp only [Exit.inBlock, Exit.then])
        refine bodyPost_ret (by simp [results, Try.results20, go_sem, e.1, e.2.1, e.2.2]; try rfl) rfl ?_
        rw [HF.out.1, HF.out.2.1, HF.out.2.2.1, HF.out.2.2.2]
        exact ⟨none, 0, none, 0, rfl, o1f, o2f, hd, hBf⟩
    · have _t := trivial
      have HF := Lib.hid (show jmL l r m mark low high = [] ∧ jmR l r m mark low high = [] ∧ jmM l r m mark low high = 0 ∧ jmK l r m mark low high = false by
        have hn : ¬ jmP l r m mark low high := fun h => h1 h.2.1
        unfold jmL jmR jmM jmK
        exact ⟨if_neg hn, if_neg hn, if_neg hn, decide_eq_false hn⟩)
      have hir : decide (m ≤ mark ∧ mark ≤ 3000) = false := decide_eq_false h1
      clear h0 h1 y0'
      go_wp2_with fail
      refine (specIR_any mark m 3000 _).mono ?_
      rintro e w2 ⟨rfl, rfl⟩
      rw [hir]
      clear hir
      have q1 : ∀ g, Value.ownBlock (.slice none 0 0) = some g → w.heap.size + 2 ≤ g := fun g hg => by simp [Value.ownBlock] at hg
      have q2 : ∀ g, Value.ownBlock (.slice none 0 0) = some g → w.heap.size + 2 ≤ g := fun g hg => by simp [Value.ownBlock] at hg
      have hd : ∀ g g', Value.ownBlock (.slice none 0 0) = some g → Value.ownBlock (.slice none 0 0) = some g' → g ≠ g' := fun g g' hg _ => by simp [Value.ownBlock] at hg
      have o1f : Own EventR.enc 3 42 (((w1.setCell ⟨w.heap.size + 1, 0, none⟩ (.slice none 0 0)).setCell ⟨w.heap.size + 1, 1, none⟩ (.slice none 0 0)).setCell ⟨w.heap.size + 1, 2, none⟩ (.int .i64 0)) w.heap.size (.slice none 0 0) ([]) := by
        repeat (refine Own.set ?_ (fun g hg => by have := q1 g hg; simp; omega) _)
        exact ⟨by simp, World.ownsRow_nil _ _ _ _⟩
      have o2f : Own EventR.enc 3 42 (((w1.setCell ⟨w.heap.size + 1, 0, none⟩ (.slice none 0 0)).setCell ⟨w.heap.size + 1, 1, none⟩ (.slice none 0 0)).setCell ⟨w.heap.size + 1, 2, none⟩ (.int .i64 0)) w.heap.size (.slice none 0 0) ([]) := by
        repeat (refine Own.set ?_ (fun g hg => by have := q2 g hg; simp; omega) _)
        exact ⟨by simp, World.ownsRow_nil _ _ _ _⟩
      have hBf : Below w.heap.size w (((w1.setCell ⟨w.heap.size + 1, 0, none⟩ (.slice none 0 0)).setCell ⟨w.heap.size + 1, 1, none⟩ (.slice none 0 0)).setCell ⟨w.heap.size + 1, 2, none⟩ (.int .i64 0)) := by
        repeat (refine Below.setCell ?_ (by simp; try omega) _)
        exact B1
      have HX1 := x1'
      have HX2 := x1'
      obtain ⟨p10, p11, p12, pf1, pl1⟩ := HX2
      obtain ⟨e0, e1, e2, -, -⟩ := ((HX1.set0 (.slice none 0 0)).set1 (.slice none 0 0)).set2 (.int .i64 0)
      have He := Lib.hid (show _ ∧ _ ∧ _ from ⟨e0, e1, e2⟩)
      clear e0 e1 e2 HX1 q1 q2
      go_wp2
      generalize (((w1.setCell ⟨w.heap.size + 1, 0, none⟩ (.slice none 0 0)).setCell ⟨w.heap.size + 1, 1, none⟩ (.slice none 0 0)).setCell ⟨w.heap.size + 1, 2, none⟩ (.int .i64 0)) = wF at *
      have e := He.out
      (try simp only [Exit.inBlock, Exit.then])
      refine bodyPost_ret (by simp [results, Try.results20, go_sem, e.1, e.2.1, e.2.2]; try rfl) rfl ?_
      rw [HF.out.1, HF.out.2.1, HF.out.2.2.1, HF.out.2.2.2]
      exact ⟨none, 0, none, 0, rfl, o1f, o2f, hd, hBf⟩
  · have _t := trivial
    have HF := Lib.hid (show jmL l r m mark low high = [] ∧ jmR l r m mark low high = [] ∧ jmM l r m mark low high = 0 ∧ jmK l r m mark low high = false by
      have hn : ¬ jmP l r m mark low high := fun h => by have := h.1; rw [h0] at this; cases this
      unfold jmL jmR jmM jmK
      exact ⟨if_neg hn, if_neg hn, if_neg hn, decide_eq_false hn⟩)
    rw [h0]
    clear h0 y0'
    have q1 : ∀ g, Value.ownBlock (.slice none 0 0) = some g → w.heap.size + 2 ≤ g := fun g hg => by simp [Value.ownBlock] at hg
    have q2 : ∀ g, Value.ownBlock (.slice none 0 0) = some g → w.heap.size + 2 ≤ g := fun g hg => by simp [Value.ownBlock] at hg
    have hd : ∀ g g', Value.ownBlock (.slice none 0 0) = some g → Value.ownBlock (.slice none 0 0) = some g' → g ≠ g' := fun g g' hg _ => by simp [Value.ownBlock] at hg
    have o1f : Own EventR.enc 3 42 (((w1.setCell ⟨w.heap.size + 1, 0, none⟩ (.slice none 0 0)).setCell ⟨w.heap.size + 1, 1, none⟩ (.slice none 0 0)).setCell ⟨w.heap.size + 1, 2, none⟩ (.int .i64 0)) w.heap.size (.slice none 0 0) ([]) := by
      repeat (refine Own.set ?_ (fun g hg => by have := q1 g hg; simp; omega) _)
      exact ⟨by simp, World.ownsRow_nil _ _ _ _⟩
    have o2f : Own EventR.enc 3 42 (((w1.setCell ⟨w.heap.size + 1, 0, none⟩ (.slice none 0 0)).setCell ⟨w.heap.size + 1, 1, none⟩ (.slice none 0 0)).setCell ⟨w.heap.size + 1, 2, none⟩ (.int .i64 0)) w.heap.size (.slice none 0 0) ([]) := by
      repeat (refine Own.set ?_ (fun g hg => by have := q2 g hg; simp; omega) _)
      exact ⟨by simp, World.ownsRow_nil _ _ _ _⟩
    have hBf : Below w.heap.size w (((w1.setCell ⟨w.heap.size + 1, 0, none⟩ (.slice none 0 0)).setCell ⟨w.heap.size + 1, 1, none⟩ (.slice none 0 0)).setCell ⟨w.heap.size + 1, 2, none⟩ (.int .i64 0)) := by
      repeat (refine Below.setCell ?_ (by simp; try omega) _)
      exact B1
    have HX1 := x1'
    have HX2 := x1'
    obtain ⟨p10, p11, p12, pf1, pl1⟩ := HX2
    obtain ⟨e0, e1, e2, -, -⟩ := ((HX1.set0 (.slice none 0 0)).set1 (.slice none 0 0)).set2 (.int .i64 0)
    have He := Lib.hid (show _ ∧ _ ∧ _ from ⟨e0, e1, e2⟩)
    clear e0 e1 e2 HX1 q1 q2
    go_wp2
    generalize (((w1.setCell ⟨w.heap.size + 1, 0, none⟩ (.slice none 0 0)).setCell ⟨w.heap.size + 1, 1, none⟩ (.slice none 0 0)).setCell ⟨w.heap.size + 1, 2, none⟩ (.int .i64 0)) = wF at *
    have e := He.out
    (try simp only [Exit.inBlock, Exit.then])
    refine bodyPost_ret (by simp [results, Try.results20, go_sem, e.1, e.2.1, e.2.2]; try rfl) rfl ?_
    rw [HF.out.1, HF.out.2.1, HF.out.2.2.1, HF.out.2.2.2]
    exact ⟨none, 0, none, 0, rfl, o1f, o2f, hd, hBf⟩
end Go.Proofs.Ytgnogkkdojagcaa
