import Derived.Test.YtcpjidbinhfapabChH
import Derived.Test.YtcpjidbinhfapabBo
namespace Go.Proofs.Ytcpjidbinhfapab
open Go.RowKit
set_option maxRecDepth 100000 in
set_option maxHeartbeats 8000000 in
theorem implSd_any (x y : Int) (A : Option Addr) (c : Nat) (l : List ItemR) (e : ItemR) (w : World) (ha : Row ItemR.enc 2 w A l) : Calls Try.prog 13 #[.agg #[.int .i64 x, .int .i64 y, .slice A l.length c], .agg #[.int .i64 e.a0, .int .i64 e.a1]] w (ChBPost w (sd x y l e).1 (sd x y l e).2.1 (sd x y l e).2.2.1 (sd x y l e).2.2.2) := by
  have hal := ha.1
  obtain ⟨i0, hi0, hz0, hz1, hz2⟩ := info_parts ItemR.zero_info
  have X0 := ((Bx.made w (.int .i64 x) (.int .i64 y) (.slice A l.length c) 26).keep ((Below.refl _ _).alloc (Nat.le_refl _) (.cells #[.int .i64 e.a0, .int .i64 e.a1] 32))).keep ((Below.refl _ _).alloc (Nat.le_refl _) (.cells #[.int .i64 0, .int .i64 0, .slice none 0 0] 26))
  have I0 := (Bo.made (w.alloc (.cells #[.int .i64 x, .int .i64 y, .slice A l.length c] 26)) #[.int .i64 e.a0, .int .i64 e.a1] 32).keep ((Below.refl _ _).alloc (Nat.le_refl _) (.cells #[.int .i64 0, .int .i64 0, .slice none 0 0] 26))
  have R0 := Bx.made ((w.alloc (.cells #[.int .i64 x, .int .i64 y, .slice A l.length c] 26)).alloc (.cells #[.int .i64 e.a0, .int .i64 e.a1] 32)) (.int .i64 0) (.int .i64 0) (.slice none 0 0) 26
  have hB : Below w.heap.size w (((w.alloc (.cells #[.int .i64 x, .int .i64 y, .slice A l.length c] 26)).alloc (.cells #[.int .i64 e.a0, .int .i64 e.a1] 32)).alloc (.cells #[.int .i64 0, .int .i64 0, .slice none 0 0] 26)) := (((Below.refl _ _).alloc (Nat.le_refl _) _).alloc (by simp) _).alloc (by simp; omega) _
  have hz : (((w.alloc (.cells #[.int .i64 x, .int .i64 y, .slice A l.length c] 26)).alloc (.cells #[.int .i64 e.a0, .int .i64 e.a1] 32)).alloc (.cells #[.int .i64 0, .int .i64 0, .slice none 0 0] 26)).heap.size = w.heap.size + 3 := by simp
  simp only [World.size_alloc] at R0 I0
  have hX0 := X0
  obtain ⟨p0, p1, p2, pf, pl⟩ := hX0
  go_enter Try.func13, Try.ntmps13
  go_wp2_with fail
  clear p0 p1 p2 pf pl
  generalize (((w.alloc (.cells #[.int .i64 x, .int .i64 y, .slice A l.length c] 26)).alloc (.cells #[.int .i64 e.a0, .int .i64 e.a1] 32)).alloc (.cells #[.int .i64 0, .int .i64 0, .slice none 0 0] 26)) = wA at *
  refine (implVC_any x y A c l _ (ha.keep hB)).mono ?_
  rintro e1 w1 ⟨rfl, b1⟩
  replace X0 := X0.keep b1
  replace R0 := R0.keep b1
  replace I0 := I0.keep b1
  have B1 := hB.trans (b1.mono hB.size)
  have z1 := b1.size
  clear b1 hB
  rcases Bool.eq_false_or_eq_true (chB x y l) with hv | hv
  · obtain ⟨h1a, h1b, h2a, h2b, -⟩ := chB_parts hv
    have Hv := Lib.hid hv
    have h8 := chB_len hv
    rw [hv]
    clear hv
    have ic0 := I0.1 0 _ rfl
    have ic1 := I0.1 1 _ rfl
    have icl := I0.2
    go_wp2_with fail
    clear ic0 ic1 icl
    refine (implItV_any e _).mono ?_
    rintro e1 w2 ⟨rfl, b2⟩
    replace X0 := X0.keep b2
    replace R0 := R0.keep b2
    replace I0 := I0.keep b2
    have B2 := B1.trans (b2.mono B1.size)
    have z2 := b2.size
    clear b2 B1
    rcases Bool.eq_false_or_eq_true (itB e) with hi | hi
    · have Hi := Lib.hid hi
      rw [hi]
      clear hi
      have hX0 := X0
      obtain ⟨p0, p1, p2, pf, pl⟩ := hX0
      go_wp2_with fail
      clear p0 p1 p2 pf pl
      refine (cloneCh_any x y A c l _ (ha.keep B2)).mono ?_
      rintro e1 wC ⟨A1, c1, rfl, o1, b1⟩
      have B3 := B2.trans (b1.mono B2.size)
      have zC := b1.size
      have q0' : ∀ g, Value.ownBlock (.slice A1 l.length c1) = some g → w.heap.size + 3 ≤ g ∧ g < wC.heap.size := fun g hg => by have := o1.lt g hg; omega
      have q0 : ∀ g, Value.ownBlock (.slice A1 l.length c1) = some g → w.heap.size + 3 ≤ g ∧ g ≠ wC.heap.size := fun g hg => by have := q0' g hg; omega
      have XC := X0.keep b1
      have RC := R0.keep b1
      have IC := I0.keep b1
      clear X0 R0 I0 b1 B2
      have hq : (y == 0) = true ∨ (y == 0) = false := by cases (y == 0) <;> simp
      rcases hq with hq | hq
      · have hN : Below wC.heap.size wC (wC.alloc (.cells #[.int .i64 x, .int .i64 y, .slice A1 l.length c1] 26)) := (Below.refl _ _).alloc (Nat.le_refl _) _
        have N0 := Bx.made wC (.int .i64 x) (.int .i64 y) (.slice A1 l.length c1) 26
        have X0 := XC.keep hN
        have R0 := RC.keep hN
        have o2 := own_rebase (B := w.heap.size) (o1.keep hN) (by omega)
        have B4 := B3.trans (hN.mono B3.size)
        have HF := Lib.hid (show sd x y l e = (x, y, l, false) by unfold sd; rw [if_pos ⟨Hv.out, Hi.out⟩, if_pos (by simpa using hq)])
        clear XC RC IC o1 hN B3
        have hX0 := X0
        obtain ⟨p0, p1, p2, pf, pl⟩ := hX0
        obtain ⟨n0, n1, n2, nf, nl⟩ := N0
        have q1 : ∀ g, Value.ownBlock (.slice A1 l.length c1) = some g → g ≠ w.heap.size + 1 + 1 := fun g hg => by have := q0 g hg; omega
        have of : Own ItemR.enc 2 32 ((((wC.alloc (.cells #[.int .i64 x, .int .i64 y, .slice A1 l.length c1] 26)).setCell ⟨w.heap.size + 1 + 1, 0, none⟩ (.int .i64 x)).setCell ⟨w.heap.size + 1 + 1, 1, none⟩ (.int .i64 y)).setCell ⟨w.heap.size + 1 + 1, 2, none⟩ (.slice A1 l.length c1)) w.heap.size (.slice A1 l.length c1) (l) :=
          (((o2).set (p := ⟨w.heap.size + 1 + 1, 0, none⟩) q1 (.int .i64 x)).set (p := ⟨w.heap.size + 1 + 1, 1, none⟩) q1 (.int .i64 y)).set (p := ⟨w.heap.size + 1 + 1, 2, none⟩) q1 (.slice A1 l.length c1)
        have hBf : Below w.heap.size w ((((wC.alloc (.cells #[.int .i64 x, .int .i64 y, .slice A1 l.length c1] 26)).setCell ⟨w.heap.size + 1 + 1, 0, none⟩ (.int .i64 x)).setCell ⟨w.heap.size + 1 + 1, 1, none⟩ (.int .i64 y)).setCell ⟨w.heap.size + 1 + 1, 2, none⟩ (.slice A1 l.length c1)) :=
          (((B4).setCell (p := ⟨w.heap.size + 1 + 1, 0, none⟩) (by simp; try omega) (.int .i64 x)).setCell (p := ⟨w.heap.size + 1 + 1, 1, none⟩) (by simp; try omega) (.int .i64 y)).setCell (p := ⟨w.heap.size + 1 + 1, 2, none⟩) (by simp; try omega) (.slice A1 l.length c1)
        have HX2 := R0
        obtain ⟨r0, r1, r2, rf, rl⟩ := HX2
        obtain ⟨e0, e1, e2, -, -⟩ := ((R0.set0 (.int .i64 x)).set1 (.int .i64 y)).set2 (.slice A1 l.length c1)
        have He := Lib.hid (show _ ∧ _ ∧ _ from ⟨e0, e1, e2⟩)
        clear e0 e1 e2 q1
        go_wp2
        generalize ((((wC.alloc (.cells #[.int .i64 x, .int .i64 y, .slice A1 l.length c1] 26)).setCell ⟨w.heap.size + 1 + 1, 0, none⟩ (.int .i64 x)).setCell ⟨w.heap.size + 1 + 1, 1, none⟩ (.int .i64 y)).setCell ⟨w.heap.size + 1 + 1, 2, none⟩ (.slice A1 l.length c1)) = wF at *
        have e := He.out
        (try simp only [Exit.inBlock, Exit.then])
        refine bodyPost_ret (by simp [results, Try.results13, go_sem, e.1, e.2.1, e.2.2]; try rfl) rfl ?_
        rw [HF.out]
        exact ⟨A1, c1, rfl, of, hBf⟩
      · have hN : Below wC.heap.size wC (wC.alloc (.cells #[.int .i64 x, .int .i64 (y - 1), .slice A1 l.length c1] 26)) := (Below.refl _ _).alloc (Nat.le_refl _) _
        have N1 := Bx.made wC (.int .i64 x) (.int .i64 (y - 1)) (.slice A1 l.length c1) 26
        have X0 := XC.keep ((Below.refl _ _).alloc (Nat.le_refl _) (.cells #[.int .i64 x, .int .i64 y, .slice A1 l.length c1] 26))
        have R0 := RC.keep hN
        have I0 := IC.keep hN
        have o2 := own_rebase (B := w.heap.size) (o1.keep hN) (by omega)
        have B4 := B3.trans (hN.mono B3.size)
        have hzN : wC.heap.size < ((wC.alloc (.cells #[.int .i64 x, .int .i64 (y - 1), .slice A1 l.length c1] 26))).heap.size := by simp
        obtain ⟨L, hL⟩ : ∃ L, L = l ++ [e] := ⟨_, rfl⟩
        have HL := Lib.hid hL
        have HF := Lib.hid (show sd x y l e = (x, y - 1, L, true) by rw [hL]; unfold sd; rw [if_pos ⟨Hv.out, Hi.out⟩, if_neg (by simpa using hq)])
        clear hL
        clear XC RC IC o1 hN B3
        have hX0 := X0
        obtain ⟨p0, p1, p2, pf, pl⟩ := hX0
        have ic0 := I0.1 0 _ rfl
        have ic1 := I0.1 1 _ rfl
        have icl := I0.2
        have hown := o2.2
        go_wp2_with (first | (at_builtin; refine wpList_append_own_at _ rfl _ _ 24 rfl w.heap.size 32 i0 _ 2 16 Try.underlying24 hi0 hz0 hz1 hz2 rfl (by decide) _ _ _ rfl (hown.alloc _) ⟨wC.heap.size + 1, 0, none⟩ 1 1 (ItemR.enc e) rfl rfl ?c1 ?c2 ?c3 ?c4 ?c5 ?_) | go_in)
        case c1 =>
          intro j u hu
          rcases j with _ | _ | j <;> simp [ItemR.enc] at hu <;> subst hu <;> simp [Addr.add, go_sem]
        case c2 => intro u hu; simp [ItemR.enc] at hu; rcases hu with rfl | rfl <;> rfl
        case c3 => unfold maxLen; omega
        case c4 => omega
        case c5 => first | omega | (simp; done) | (simp; omega)
        intro v' w6 hown' hg' _ hat
        clear p0 p1 p2 pf pl ic0 ic1 icl X0 I0
        have q3 : w.heap.size + 3 ≤ (wC.alloc (.cells #[.int .i64 x, .int .i64 (y - 1), .slice A1 l.length c1] 26)).heap.size := by have := B4.size; first | omega | (simp; omega)
        have hbE : Below (wC.alloc (.cells #[.int .i64 x, .int .i64 (y - 1), .slice A1 l.length c1] 26)).heap.size (wC.alloc (.cells #[.int .i64 x, .int .i64 (y - 1), .slice A1 l.length c1] 26)) ((wC.alloc (.cells #[.int .i64 x, .int .i64 (y - 1), .slice A1 l.length c1] 26)).alloc (.cells #[.int .i64 e.a0, .int .i64 e.a1] 32)) := (Below.refl _ _).alloc (Nat.le_refl _) _
        have o4 : Own ItemR.enc 2 32 w6 w.heap.size v' L := by rw [HL.out]; exact ⟨by simp; omega, by simpa using hown'⟩
        have N2 := (N1.keep hbE).far hg' (fun h => (q0 _ h.symm).2 rfl)
        have R2 := (R0.keep hbE).far hg' (fun h => by have := (q0 _ h.symm).1; omega)
        have B5 := (B4.trans (hbE.mono B4.size)).trans (below_of_gb (B0 := w.heap.size) hg' (B4.trans (hbE.mono B4.size)).size (fun g hg => by have := q0 g hg; omega))
        have z6 := hg'.size
        have q4 : ∀ g, v'.ownBlock = some g → w.heap.size + 3 ≤ g ∧ g ≠ wC.heap.size := by
          intro g hg
          rcases hat with h | h
          · rw [h] at hg; exact q0 g hg
          · rw [h] at hg; injection hg with hg; subst hg; exact ⟨by first | omega | (simp; omega), by have := hzN; first | omega | (simp; omega)⟩
        obtain ⟨A2, c2, e2⟩ := o4.form
        subst e2
        clear hown' hown hg' hat hbE
        have hN2 := N2
        obtain ⟨n0, n1, n2, nf, nl⟩ := hN2
        have N3 := N2.set2 (.slice A2 L.length c2)
        have R3 := R2.set_far (p := ⟨wC.heap.size, 2, none⟩) (by simp; omega) (.slice A2 L.length c2)
        have o5 := o4.set (p := ⟨wC.heap.size, 2, none⟩) (fun g hg => (q4 g hg).2) (.slice A2 L.length c2)
        have B6 := B5.setCell (p := ⟨wC.heap.size, 2, none⟩) (by simp; omega) (.slice A2 L.length c2)
        obtain ⟨m0, m1, m2, mf, ml⟩ := N3
        clear N1 N2
        have q1 : ∀ g, Value.ownBlock (.slice A2 L.length c2) = some g → g ≠ w.heap.size + 1 + 1 := fun g hg => by have := q4 g hg; omega
        have of : Own ItemR.enc 2 32 ((((w6.setCell ⟨wC.heap.size, 2, none⟩ (.slice A2 L.length c2)).setCell ⟨w.heap.size + 1 + 1, 0, none⟩ (.int .i64 x)).setCell ⟨w.heap.size + 1 + 1, 1, none⟩ (.int .i64 (y - 1))).setCell ⟨w.heap.size + 1 + 1, 2, none⟩ (.slice A2 L.length c2)) w.heap.size (.slice A2 L.length c2) (L) :=
          (((o5).set (p := ⟨w.heap.size + 1 + 1, 0, none⟩) q1 (.int .i64 x)).set (p := ⟨w.heap.size + 1 + 1, 1, none⟩) q1 (.int .i64 (y - 1))).set (p := ⟨w.heap.size + 1 + 1, 2, none⟩) q1 (.slice A2 L.length c2)
        have hBf : Below w.heap.size w ((((w6.setCell ⟨wC.heap.size, 2, none⟩ (.slice A2 L.length c2)).setCell ⟨w.heap.size + 1 + 1, 0, none⟩ (.int .i64 x)).setCell ⟨w.heap.size + 1 + 1, 1, none⟩ (.int .i64 (y - 1))).setCell ⟨w.heap.size + 1 + 1, 2, none⟩ (.slice A2 L.length c2)) :=
          (((B6).setCell (p := ⟨w.heap.size + 1 + 1, 0, none⟩) (by simp; try omega) (.int .i64 x)).setCell (p := ⟨w.heap.size + 1 + 1, 1, none⟩) (by simp; try omega) (.int .i64 (y - 1))).setCell (p := ⟨w.heap.size + 1 + 1, 2, none⟩) (by simp; try omega) (.slice A2 L.length c2)
        have HX2 := R3
        obtain ⟨r0, r1, r2, rf, rl⟩ := HX2
        obtain ⟨e0, e1, e2, -, -⟩ := ((R3.set0 (.int .i64 x)).set1 (.int .i64 (y - 1))).set2 (.slice A2 L.length c2)
        have He := Lib.hid (show _ ∧ _ ∧ _ from ⟨e0, e1, e2⟩)
        clear e0 e1 e2 q1
        go_wp2
        generalize ((((w6.setCell ⟨wC.heap.size, 2, none⟩ (.slice A2 L.length c2)).setCell ⟨w.heap.size + 1 + 1, 0, none⟩ (.int .i64 x)).setCell ⟨w.heap.size + 1 + 1, 1, none⟩ (.int .i64 (y - 1))).setCell ⟨w.heap.size + 1 + 1, 2, none⟩ (.slice A2 L.length c2)) = wF at *
        have e := He.out
        (try simp only [Exit.inBlock, Exit.then])
        refine bodyPost_ret (by simp [results, Try.results13, go_sem, e.1, e.2.1, e.2.2]; try rfl) rfl ?_
        rw [HF.out]
        exact ⟨A2, c2, rfl, of, hBf⟩
    · have HF := Lib.hid (show sd x y l e = (0, 0, [], false) by unfold sd; rw [if_neg (by rw [hi]; simp)])
      rw [hi]
      clear hi X0 I0
      have q1 : ∀ g, Value.ownBlock (.slice none 0 0) = some g → g ≠ w.heap.size + 1 + 1 := fun g hg => by simp [Value.ownBlock] at hg
      have of : Own ItemR.enc 2 32 (((w2.setCell ⟨w.heap.size + 1 + 1, 0, none⟩ (.int .i64 0)).setCell ⟨w.heap.size + 1 + 1, 1, none⟩ (.int .i64 0)).setCell ⟨w.heap.size + 1 + 1, 2, none⟩ (.slice none 0 0)) w.heap.size (.slice none 0 0) (([] : List ItemR)) :=
        ((((show Own ItemR.enc 2 32 w2 w.heap.size (.slice none 0 0) [] from ⟨by simp, World.ownsRow_nil _ _ _ _⟩)).set (p := ⟨w.heap.size + 1 + 1, 0, none⟩) q1 (.int .i64 0)).set (p := ⟨w.heap.size + 1 + 1, 1, none⟩) q1 (.int .i64 0)).set (p := ⟨w.heap.size + 1 + 1, 2, none⟩) q1 (.slice none 0 0)
      have hBf : Below w.heap.size w (((w2.setCell ⟨w.heap.size + 1 + 1, 0, none⟩ (.int .i64 0)).setCell ⟨w.heap.size + 1 + 1, 1, none⟩ (.int .i64 0)).setCell ⟨w.heap.size + 1 + 1, 2, none⟩ (.slice none 0 0)) :=
        (((B2).setCell (p := ⟨w.heap.size + 1 + 1, 0, none⟩) (by simp; try omega) (.int .i64 0)).setCell (p := ⟨w.heap.size + 1 + 1, 1, none⟩) (by simp; try omega) (.int .i64 0)).setCell (p := ⟨w.heap.size + 1 + 1, 2, none⟩) (by simp; try omega) (.slice none 0 0)
      have HX2 := R0
      obtain ⟨r0, r1, r2, rf, rl⟩ := HX2
      obtain ⟨e0, e1, e2, -, -⟩ := ((R0.set0 (.int .i64 0)).set1 (.int .i64 0)).set2 (.slice none 0 0)
      have He := Lib.hid (show _ ∧ _ ∧ _ from ⟨e0, e1, e2⟩)
      clear e0 e1 e2 q1
      go_wp2
      generalize (((w2.setCell ⟨w.heap.size + 1 + 1, 0, none⟩ (.int .i64 0)).setCell ⟨w.heap.size + 1 + 1, 1, none⟩ (.int .i64 0)).setCell ⟨w.heap.size + 1 + 1, 2, none⟩ (.slice none 0 0)) = wF at *
      have e := He.out
      (try simp only [Exit.inBlock, Exit.then])
      refine bodyPost_ret (by simp [results, Try.results13, go_sem, e.1, e.2.1, e.2.2]; try rfl) rfl ?_
      rw [HF.out]
      exact ⟨none, 0, rfl, of, hBf⟩
  · have HF := Lib.hid (show sd x y l e = (0, 0, [], false) by unfold sd; rw [if_neg (by rw [hv]; simp)])
    rw [hv]
    clear hv X0 I0
    have q1 : ∀ g, Value.ownBlock (.slice none 0 0) = some g → g ≠ w.heap.size + 1 + 1 := fun g hg => by simp [Value.ownBlock] at hg
    have of : Own ItemR.enc 2 32 (((w1.setCell ⟨w.heap.size + 1 + 1, 0, none⟩ (.int .i64 0)).setCell ⟨w.heap.size + 1 + 1, 1, none⟩ (.int .i64 0)).setCell ⟨w.heap.size + 1 + 1, 2, none⟩ (.slice none 0 0)) w.heap.size (.slice none 0 0) (([] : List ItemR)) :=
      ((((show Own ItemR.enc 2 32 w1 w.heap.size (.slice none 0 0) [] from ⟨by simp, World.ownsRow_nil _ _ _ _⟩)).set (p := ⟨w.heap.size + 1 + 1, 0, none⟩) q1 (.int .i64 0)).set (p := ⟨w.heap.size + 1 + 1, 1, none⟩) q1 (.int .i64 0)).set (p := ⟨w.heap.size + 1 + 1, 2, none⟩) q1 (.slice none 0 0)
    have hBf : Below w.heap.size w (((w1.setCell ⟨w.heap.size + 1 + 1, 0, none⟩ (.int .i64 0)).setCell ⟨w.heap.size + 1 + 1, 1, none⟩ (.int .i64 0)).setCell ⟨w.heap.size + 1 + 1, 2, none⟩ (.slice none 0 0)) :=
      (((B1).setCell (p := ⟨w.heap.size + 1 + 1, 0, none⟩) (by simp; try omega) (.int .i64 0)).setCell (p := ⟨w.heap.size + 1 + 1, 1, none⟩) (by simp; try omega) (.int .i64 0)).setCell (p := ⟨w.heap.size + 1 + 1, 2, none⟩) (by simp; try omega) (.slice none 0 0)
    have HX2 := R0
    obtain ⟨r0, r1, r2, rf, rl⟩ := HX2
    obtain ⟨e0, e1, e2, -, -⟩ := ((R0.set0 (.int .i64 0)).set1 (.int .i64 0)).set2 (.slice none 0 0)
    have He := Lib.hid (show _ ∧ _ ∧ _ from ⟨e0, e1, e2⟩)
    clear e0 e1 e2 q1
    go_wp2
    generalize (((w1.setCell ⟨w.heap.size + 1 + 1, 0, none⟩ (.int .i64 0)).setCell ⟨w.heap.size + 1 + 1, 1, none⟩ (.int .i64 0)).setCell ⟨w.heap.size + 1 + 1, 2, none⟩ (.slice none 0 0)) = wF at *
    have e := He.out
    (try simp only [Exit.inBlock, Exit.then])
    refine bodyPost_ret (by simp [results, Try.results13, go_sem, e.1, e.2.1, e.2.2]; try rfl) rfl ?_
    rw [HF.out]
    exact ⟨none, 0, rfl, of, hBf⟩
end Go.Proofs.Ytcpjidbinhfapab
