import Derived.Test.YtcpjidbinhfapabChI
import Derived.Deep.DeepCutAuto
namespace Go.Proofs.Ytcpjidbinhfapab
open Go.RowKit
theorem newd {W W' : World} {o : Obj} (b : Below (W.alloc o).drew.heap.size (W.alloc o).drew W') : W'.heap[W.heap.size]? = (W.alloc o).heap[W.heap.size]? := b.block _ (by simp)
set_option maxRecDepth 100000 in
set_option maxHeartbeats 16000000 in
theorem specSd_any (x y : Int) (A : Option Addr) (c : Nat) (l : List ItemR) (e : ItemR) (w : World) (ha : Row ItemR.enc 2 w A l) : Calls Try.prog 15 #[.agg #[.int .i64 x, .int .i64 y, .slice A l.length c], .agg #[.int .i64 e.a0, .int .i64 e.a1]] w (ChBPost w (sd x y l e).1 (sd x y l e).2.1 (sd x y l e).2.2.1 (sd x y l e).2.2.2) := by
  have hal := ha.1
  obtain ⟨i0, hi0, hz0, hz1, hz2⟩ := info_parts ItemR.zero_info
  have X0 := ((Bx.made w (.int .i64 x) (.int .i64 y) (.slice A l.length c) 26).keep ((Below.refl _ _).alloc (Nat.le_refl _) (.cells #[.int .i64 e.a0, .int .i64 e.a1] 32))).keep ((Below.refl _ _).alloc (Nat.le_refl _) (.cells #[.int .i64 0, .int .i64 0, .slice none 0 0] 26))
  have I0 := (Bo.made (w.alloc (.cells #[.int .i64 x, .int .i64 y, .slice A l.length c] 26)) #[.int .i64 e.a0, .int .i64 e.a1] 32).keep ((Below.refl _ _).alloc (Nat.le_refl _) (.cells #[.int .i64 0, .int .i64 0, .slice none 0 0] 26))
  have R0 := Bx.made ((w.alloc (.cells #[.int .i64 x, .int .i64 y, .slice A l.length c] 26)).alloc (.cells #[.int .i64 e.a0, .int .i64 e.a1] 32)) (.int .i64 0) (.int .i64 0) (.slice none 0 0) 26
  have hB : Below w.heap.size w (((w.alloc (.cells #[.int .i64 x, .int .i64 y, .slice A l.length c] 26)).alloc (.cells #[.int .i64 e.a0, .int .i64 e.a1] 32)).alloc (.cells #[.int .i64 0, .int .i64 0, .slice none 0 0] 26)) := (((Below.refl _ _).alloc (Nat.le_refl _) _).alloc (by simp) _).alloc (by simp; omega) _
  have hz : (((w.alloc (.cells #[.int .i64 x, .int .i64 y, .slice A l.length c] 26)).alloc (.cells #[.int .i64 e.a0, .int .i64 e.a1] 32)).alloc (.cells #[.int .i64 0, .int .i64 0, .slice none 0 0] 26)).heap.size = w.heap.size + 3 := by simp
  simp only [World.size_alloc] at R0 I0
  have hX0 := X0
  obtain ⟨p0, p1, p2, pf, pl⟩ := hX0
  go_enter Try.func15, Try.ntmps15
  go_wp2_with fail
  clear p0 p1 p2 pf pl
  generalize (((w.alloc (.cells #[.int .i64 x, .int .i64 y, .slice A l.length c] 26)).alloc (.cells #[.int .i64 e.a0, .int .i64 e.a1] 32)).alloc (.cells #[.int .i64 0, .int .i64 0, .slice none 0 0] 26)) = wA at *
  refine (specVC_any x y A c l _ (ha.keep hB)).mono ?_
  rintro e1 w1 ⟨rfl, b1⟩
  replace X0 := X0.keep b1
  replace R0 := R0.keep b1
  replace I0 := I0.keep b1
  have B1 := hB.trans (b1.mono hB.size)
  have z1 := b1.size
  clear b1 hB
  rcases Bool.eq_false_or_eq_true (chB x y l) with hv | hv
  · obtain ⟨h1a, h1b, h2a, h2b, -⟩ := chB_parts hv
    have Hv := Lib.hid hv
    have h8 := chB_len hv
    rw [hv]
    clear hv
    have ic0 := I0.1 0 _ rfl
    have ic1 := I0.1 1 _ rfl
    have icl := I0.2
    go_wp2_with fail
    clear ic0 ic1 icl
    refine (specItV_any e _).mono ?_
    rintro e1 w2 ⟨rfl, b2⟩
    replace X0 := X0.keep b2
    replace R0 := R0.keep b2
    replace I0 := I0.keep b2
    have B2 := B1.trans (b2.mono B1.size)
    have z2 := b2.size
    clear b2 B1
    rcases Bool.eq_false_or_eq_true (itB e) with hi | hi
    · have Hi := Lib.hid hi
      rw [hi]
      clear hi
      have hX0 := X0
      obtain ⟨p0, p1, p2, pf, pl⟩ := hX0
      go_wp2_with fail
      have zz : w2.heap.size ≤ w2.heap.size := Nat.le_refl _
      go_cut [6] (fun s6 wx => ∃ (G : Nat) (A1 : Option Addr) (c1 : Nat), s6 = .pointer (some ⟨G, 0, none⟩) ∧ Mid ItemR.enc 2 32 w2 wx G (.int .i64 x) (.int .i64 y) (.slice A1 l.length c1) l)
      case first =>
        go_region_held3 (fun w' => w'.cell? ⟨w.heap.size, 0, none⟩ = some (.int .i64 x) ∧ w'.cell? ⟨w.heap.size, 1, none⟩ = some (.int .i64 y) ∧ w'.cell? ⟨w.heap.size, 2, none⟩ = some (.slice A l.length c) ∧ w2.heap.size ≤ w'.heap.size ∧ Below w.heap.size w w') (((repeat' apply And.intro) <;> first | (with_reducible assumption) | (simp only [World.cell?_drew]; with_reducible assumption) | (simp only [World.size_drew]; assumption) | (exact Below.drew (by assumption)) | (go_keep; done) | (simp [go_sem, *]; done) | (simp [World.setCell]; omega) | ((repeat (refine Below.setCell ?_ (by first | (simp; done) | (simp; omega)) _)); assumption) | go_grown)) ((go_at_call 50; go_split_ands; refine (copyS_any A c l _ (ha.keep (by assumption))).mono ?_; rintro e wC ⟨A1, c1, rfl, o1, b3⟩; have z3 : w2.heap.size ≤ wC.heap.size := Nat.le_trans (by assumption) b3.size; have K3 : Below w.heap.size w wC := Below.trans (by assumption) (b3.mono (by first | omega | (simp; omega))); have k0 : wC.cell? ⟨w.heap.size, 0, none⟩ = some (.int .i64 x) := (b3.cell (by first | omega | (simp; omega))).trans (by assumption); have k1 : wC.cell? ⟨w.heap.size, 1, none⟩ = some (.int .i64 y) := (b3.cell (by first | omega | (simp; omega))).trans (by assumption); have k2 : wC.cell? ⟨w.heap.size, 2, none⟩ = some (.slice A l.length c) := (b3.cell (by first | omega | (simp; omega))).trans (by assumption); (first | ((first | have hN := made3d b3 | have hN := made3 b3); obtain ⟨n0, n1, n2, nf, nl⟩ := hN; (try simp only [World.size_drew] at n0 n1 n2 nf nl)) | skip)))
        all_goals
          go_wp2_with fail
          go_meet
          first
            | exact ⟨_, A1, c1, rfl, midA (.int .i64 x) (.int .i64 y) 26 b3 o1⟩
            | exact ⟨_, A1, c1, rfl, midB (.int .i64 x) (.int .i64 y) b3 o1⟩
      case rest =>
        obtain ⟨G, A1, c1, rfl, HM⟩ := hcut
        generalize wc = wM at *
        obtain ⟨bM, N0, zG, oM, qM⟩ := HM
        have zM := bM.size
        have B3 := B2.trans (bM.mono B2.size)
        have X1 := X0.keep bM
        have R1 := R0.keep bM
        have I1 := I0.keep bM
        have o2 := own_rebase (B := w.heap.size) oM (by omega)
        have q0 : ∀ g, Value.ownBlock (.slice A1 l.length c1) = some g → w.heap.size + 3 ≤ g ∧ g ≠ G := fun g hg => by have := qM g hg; exact ⟨by omega, this.2⟩
        clear oM qM bM
        clear p0 p1 p2 pf pl
        have hX1 := X1
        obtain ⟨p0, p1, p2, pf, pl⟩ := hX1
        have hq : (y == 0) = true ∨ (y == 0) = false := by cases (y == 0) <;> simp
        rcases hq with hq | hq
        · have HF := Lib.hid (show sd x y l e = (x, y, l, false) by unfold sd; rw [if_pos ⟨Hv.out, Hi.out⟩, if_pos (by simpa using hq)])
          obtain ⟨n0, n1, n2, nf, nl⟩ := N0
          have q1 : ∀ g, Value.ownBlock (.slice A1 l.length c1) = some g → g ≠ w.heap.size + 1 + 1 := fun g hg => by have := q0 g hg; omega
          have of : Own ItemR.enc 2 32 (((wM.setCell ⟨w.heap.size + 1 + 1, 0, none⟩ (.int .i64 x)).setCell ⟨w.heap.size + 1 + 1, 1, none⟩ (.int .i64 y)).setCell ⟨w.heap.size + 1 + 1, 2, none⟩ (.slice A1 l.length c1)) w.heap.size (.slice A1 l.length c1) (l) :=
            (((o2).set (p := ⟨w.heap.size + 1 + 1, 0, none⟩) q1 (.int .i64 x)).set (p := ⟨w.heap.size + 1 + 1, 1, none⟩) q1 (.int .i64 y)).set (p := ⟨w.heap.size + 1 + 1, 2, none⟩) q1 (.slice A1 l.length c1)
          have hBf : Below w.heap.size w (((wM.setCell ⟨w.heap.size + 1 + 1, 0, none⟩ (.int .i64 x)).setCell ⟨w.heap.size + 1 + 1, 1, none⟩ (.int .i64 y)).setCell ⟨w.heap.size + 1 + 1, 2, none⟩ (.slice A1 l.length c1)) :=
            (((B3).setCell (p := ⟨w.heap.size + 1 + 1, 0, none⟩) (by simp; try omega) (.int .i64 x)).setCell (p := ⟨w.heap.size + 1 + 1, 1, none⟩) (by simp; try omega) (.int .i64 y)).setCell (p := ⟨w.heap.size + 1 + 1, 2, none⟩) (by simp; try omega) (.slice A1 l.length c1)
          have HX2 := R1
          obtain ⟨r0, r1, r2, rf, rl⟩ := HX2
          obtain ⟨e0, e1, e2, -, -⟩ := ((R1.set0 (.int .i64 x)).set1 (.int .i64 y)).set2 (.slice A1 l.length c1)
          have He := Lib.hid (show _ ∧ _ ∧ _ from ⟨e0, e1, e2⟩)
          clear e0 e1 e2 q1
          go_wp2
          generalize (((wM.setCell ⟨w.heap.size + 1 + 1, 0, none⟩ (.int .i64 x)).setCell ⟨w.heap.size + 1 + 1, 1, none⟩ (.int .i64 y)).setCell ⟨w.heap.size + 1 + 1, 2, none⟩ (.slice A1 l.length c1)) = wF at *
          have e := He.out
          (try simp only [Exit.inBlock, Exit.then])
          refine bodyPost_ret (by simp [results, Try.results15, go_sem, e.1, e.2.1, e.2.2]; try rfl) rfl ?_
          rw [HF.out]
          exact ⟨A1, c1, rfl, of, hBf⟩
        · obtain ⟨L, hL⟩ : ∃ L, L = l ++ [e] := ⟨_, rfl⟩
          have HL := Lib.hid hL
          have HF := Lib.hid (show sd x y l e = (x, y - 1, L, true) by rw [hL]; unfold sd; rw [if_pos ⟨Hv.out, Hi.out⟩, if_neg (by simpa using hq)])
          clear hL o2 q0
          have ic0 := I1.1 0 _ rfl
          have ic1 := I1.1 1 _ rfl
          have icl := I1.2
          have h9 : l.length + 1 ≤ 1048576 := by omega
          have zz6 : wM.heap.size ≤ wM.heap.size := Nat.le_refl _
          have BM : Below wM.heap.size wM wM := Below.refl _ _
          have hGl : G < wM.heap.size := N0.2.2.2.2
          go_wp2_with fail
          go_cut [7] (fun s7 wx => Acc ItemR.enc 2 32 wM (l ++ [e]) s7 wx)
          case first =>
            go_region_held3 (fun w' => w'.cell? ⟨w.heap.size, 2, none⟩ = some (.slice A l.length c) ∧ w'.cell? ⟨w.heap.size + 1, 0, none⟩ = some (.int .i64 e.a0) ∧ w'.cell? ⟨w.heap.size + 1, 1, none⟩ = some (.int .i64 e.a1) ∧ wM.heap.size ≤ w'.heap.size ∧ Below wM.heap.size wM w') (((repeat' apply And.intro) <;> first | (with_reducible assumption) | (simp only [World.cell?_drew]; with_reducible assumption) | (simp only [World.size_drew]; assumption) | (exact Below.drew (by assumption)) | (exact (hacc6.2.cell pl).trans p2) | (exact (hacc6.2.cell icl).trans ic0) | (exact (hacc6.2.cell icl).trans ic1) | (exact hacc6.2) | (exact hacc6.2.size) | (go_keep; done) | (refine Below.alloc (by assumption) (by assumption) _) | (refine Below.drew (Below.alloc (by assumption) (by assumption) _)) | go_grown)) (first | (go_at_call 50; go_split_ands; refine (copyS_any A c l _ (ha.keep (B3.trans (Below.mono (by assumption) B3.size)))).mono ?_; rintro e1 wC ⟨A5, c5, rfl, o5, b5⟩; have z5 : wM.heap.size ≤ wC.heap.size := Nat.le_trans (by assumption) b5.size; have K5 : Below wM.heap.size wM wC := Below.trans (by assumption) (b5.mono (by assumption)); have k0 : wC.cell? ⟨w.heap.size, 2, none⟩ = some (.slice A l.length c) := (K5.cell pl).trans p2; have k1 : wC.cell? ⟨w.heap.size + 1, 0, none⟩ = some (.int .i64 e.a0) := (K5.cell icl).trans ic0; have k2 : wC.cell? ⟨w.heap.size + 1, 1, none⟩ = some (.int .i64 e.a1) := (K5.cell icl).trans ic1; have ac := own_acc (w := wM) o5 (by assumption) K5; (first | have nb := newd b5 | skip)) | (first | (refine step_append_acc (by rfl) _ _ 24 (by rfl) i0 _ 16 Try.underlying24 hi0 hz0 hz1 hz2 (by rfl) (by decide) (by decide) _ _ (by rfl) (acc_keep ac ((Below.refl _ _).alloc (Nat.le_refl _) _)) _ _ e (by rfl) (World.news_of_block (heap_alloc_new _ _)) rfl (by intro u hu; simp [ItemR.enc] at hu; rcases hu with rfl | rfl <;> rfl) h9 ?_; intro v' w6 hacc6 hg6 hat6) | (refine step_append_acc (by rfl) _ _ 24 (by rfl) i0 _ 16 Try.underlying24 hi0 hz0 hz1 hz2 (by rfl) (by decide) (by decide) _ _ (by rfl) ac _ _ e (by rfl) (World.news_of_block (nb.trans (heap_alloc_new _ _))) rfl (by intro u hu; simp [ItemR.enc] at hu; rcases hu with rfl | rfl <;> rfl) h9 ?_; intro v' w6 hacc6 hg6 hat6)))
            all_goals
              go_wp2_with fail
              go_meet
              exact hacc6
          case rest =>
            have hacc6 := hcut
            generalize wc = w6 at *
            clear hcut
            have N2 := N0.keep hacc6.2
            have R2 := R1.keep hacc6.2
            have B5 := B3.trans (hacc6.2.mono B3.size)
            have z6 := hacc6.2.size
            have o4' : Own ItemR.enc 2 32 w6 wM.heap.size u7 L := by rw [HL.out]; exact ⟨by simp; omega, hacc6.1⟩
            have q4 : ∀ g, Value.ownBlock u7 = some g → wM.heap.size ≤ g := fun g hg => (o4'.lt g hg).1
            have o4 := own_rebase (B := w.heap.size) o4' (by omega)
            obtain ⟨A2, c2, e2⟩ := o4.form
            subst e2
            have XE := X1.keep hacc6.2
            clear o4' p0 p1 p2 pf pl ic0 ic1 icl BM zz6
            have R3 := (R2.set_far (p := ⟨G, 2, none⟩) (by simp; omega) (.slice A2 L.length c2)).set_far (p := ⟨G, 1, none⟩) (by simp; omega) (.int .i64 (y - 1))
            have o5' := (o4.set (p := ⟨G, 2, none⟩) (fun g hg => by have := q4 g hg; simp; omega) (.slice A2 L.length c2)).set (p := ⟨G, 1, none⟩) (fun g hg => by have := q4 g hg; simp; omega) (.int .i64 (y - 1))
            have B6 := (B5.setCell (p := ⟨G, 2, none⟩) (by simp; omega) (.slice A2 L.length c2)).setCell (p := ⟨G, 1, none⟩) (by simp; omega) (.int .i64 (y - 1))
            clear hacc6 X1 I1 R1 N0 X0 R0 I0 ha
            obtain ⟨n0, n1, n2, nf, nl⟩ := N2
            obtain ⟨p0, p1, p2, pf, pl⟩ := XE
            clear p0 p2 pf
            have g1 : w.heap.size < G := by omega
            have g2 : w.heap.size + 1 + 1 < G := by omega
            have q1 : ∀ g, Value.ownBlock (.slice A2 L.length c2) = some g → g ≠ w.heap.size + 1 + 1 := fun g hg => by have := q4 g hg; omega
            have of : Own ItemR.enc 2 32 (((((w6.setCell ⟨G, 2, none⟩ (.slice A2 L.length c2)).setCell ⟨G, 1, none⟩ (.int .i64 (y - 1))).setCell ⟨w.heap.size + 1 + 1, 0, none⟩ (.int .i64 x)).setCell ⟨w.heap.size + 1 + 1, 1, none⟩ (.int .i64 (y - 1))).setCell ⟨w.heap.size + 1 + 1, 2, none⟩ (.slice A2 L.length c2)) w.heap.size (.slice A2 L.length c2) (L) :=
              (((o5').set (p := ⟨w.heap.size + 1 + 1, 0, none⟩) q1 (.int .i64 x)).set (p := ⟨w.heap.size + 1 + 1, 1, none⟩) q1 (.int .i64 (y - 1))).set (p := ⟨w.heap.size + 1 + 1, 2, none⟩) q1 (.slice A2 L.length c2)
            have hBf : Below w.heap.size w (((((w6.setCell ⟨G, 2, none⟩ (.slice A2 L.length c2)).setCell ⟨G, 1, none⟩ (.int .i64 (y - 1))).setCell ⟨w.heap.size + 1 + 1, 0, none⟩ (.int .i64 x)).setCell ⟨w.heap.size + 1 + 1, 1, none⟩ (.int .i64 (y - 1))).setCell ⟨w.heap.size + 1 + 1, 2, none⟩ (.slice A2 L.length c2)) :=
              (((B6).setCell (p := ⟨w.heap.size + 1 + 1, 0, none⟩) (by simp; try omega) (.int .i64 x)).setCell (p := ⟨w.heap.size + 1 + 1, 1, none⟩) (by simp; try omega) (.int .i64 (y - 1))).setCell (p := ⟨w.heap.size + 1 + 1, 2, none⟩) (by simp; try omega) (.slice A2 L.length c2)
            have HX2 := R2
            obtain ⟨r0, r1, r2, rf, rl⟩ := HX2
            obtain ⟨e0, e1, e2, -, -⟩ := ((R3.set0 (.int .i64 x)).set1 (.int .i64 (y - 1))).set2 (.slice A2 L.length c2)
            have He := Lib.hid (show _ ∧ _ ∧ _ from ⟨e0, e1, e2⟩)
            clear e0 e1 e2 q1
            go_wp2
            generalize (((((w6.setCell ⟨G, 2, none⟩ (.slice A2 L.length c2)).setCell ⟨G, 1, none⟩ (.int .i64 (y - 1))).setCell ⟨w.heap.size + 1 + 1, 0, none⟩ (.int .i64 x)).setCell ⟨w.heap.size + 1 + 1, 1, none⟩ (.int .i64 (y - 1))).setCell ⟨w.heap.size + 1 + 1, 2, none⟩ (.slice A2 L.length c2)) = wF at *
            have e := He.out
            (try simp only [Exit.inBlock, Exit.then])
            refine bodyPost_ret (by simp [results, Try.results15, go_sem, e.1, e.2.1, e.2.2]; try rfl) rfl ?_
            rw [HF.out]
            exact ⟨A2, c2, rfl, of, hBf⟩
    · have HF := Lib.hid (show sd x y l e = (0, 0, [], false) by unfold sd; rw [if_neg (by rw [hi]; simp)])
      rw [hi]
      clear hi X0 I0
      have q1 : ∀ g, Value.ownBlock (.slice none 0 0) = some g → g ≠ w.heap.size + 1 + 1 := fun g hg => by simp [Value.ownBlock] at hg
      have of : Own ItemR.enc 2 32 (((w2.setCell ⟨w.heap.size + 1 + 1, 0, none⟩ (.int .i64 0)).setCell ⟨w.heap.size + 1 + 1, 1, none⟩ (.int .i64 0)).setCell ⟨w.heap.size + 1 + 1, 2, none⟩ (.slice none 0 0)) w.heap.size (.slice none 0 0) (([] : List ItemR)) :=
        ((((show Own ItemR.enc 2 32 w2 w.heap.size (.slice none 0 0) [] from ⟨by simp, World.ownsRow_nil _ _ _ _⟩)).set (p := ⟨w.heap.size + 1 + 1, 0, none⟩) q1 (.int .i64 0)).set (p := ⟨w.heap.size + 1 + 1, 1, none⟩) q1 (.int .i64 0)).set (p := ⟨w.heap.size + 1 + 1, 2, none⟩) q1 (.slice none 0 0)
      have hBf : Below w.heap.size w (((w2.setCell ⟨w.heap.size + 1 + 1, 0, none⟩ (.int .i64 0)).setCell ⟨w.heap.size + 1 + 1, 1, none⟩ (.int .i64 0)).setCell ⟨w.heap.size + 1 + 1, 2, none⟩ (.slice none 0 0)) :=
        (((B2).setCell (p := ⟨w.heap.size + 1 + 1, 0, none⟩) (by simp; try omega) (.int .i64 0)).setCell (p := ⟨w.heap.size + 1 + 1, 1, none⟩) (by simp; try omega) (.int .i64 0)).setCell (p := ⟨w.heap.size + 1 + 1, 2, none⟩) (by simp; try omega) (.slice none 0 0)
      have HX2 := R0
      obtain ⟨r0, r1, r2, rf, rl⟩ := HX2
      obtain ⟨e0, e1, e2, -, -⟩ := ((R0.set0 (.int .i64 0)).set1 (.int .i64 0)).set2 (.slice none 0 0)
      have He := Lib.hid (show _ ∧ _ ∧ _ from ⟨e0, e1, e2⟩)
      clear e0 e1 e2 q1
      go_wp2
      generalize (((w2.setCell ⟨w.heap.size + 1 + 1, 0, none⟩ (.int .i64 0)).setCell ⟨w.heap.size + 1 + 1, 1, none⟩ (.int .i64 0)).setCell ⟨w.heap.size + 1 + 1, 2, none⟩ (.slice none 0 0)) = wF at *
      have e := He.out
      (try simp only [Exit.inBlock, Exit.then])
      refine bodyPost_ret (by simp [results, Try.results15, go_sem, e.1, e.2.1, e.2.2]; try rfl) rfl ?_
      rw [HF.out]
      exact ⟨none, 0, rfl, of, hBf⟩
  · have HF := Lib.hid (show sd x y l e = (0, 0, [], false) by unfold sd; rw [if_neg (by rw [hv]; simp)])
    rw [hv]
    clear hv X0 I0
    have q1 : ∀ g, Value.ownBlock (.slice none 0 0) = some g → g ≠ w.heap.size + 1 + 1 := fun g hg => by simp [Value.ownBlock] at hg
    have of : Own ItemR.enc 2 32 (((w1.setCell ⟨w.heap.size + 1 + 1, 0, none⟩ (.int .i64 0)).setCell ⟨w.heap.size + 1 + 1, 1, none⟩ (.int .i64 0)).setCell ⟨w.heap.size + 1 + 1, 2, none⟩ (.slice none 0 0)) w.heap.size (.slice none 0 0) (([] : List ItemR)) :=
      ((((show Own ItemR.enc 2 32 w1 w.heap.size (.slice none 0 0) [] from ⟨by simp, World.ownsRow_nil _ _ _ _⟩)).set (p := ⟨w.heap.size + 1 + 1, 0, none⟩) q1 (.int .i64 0)).set (p := ⟨w.heap.size + 1 + 1, 1, none⟩) q1 (.int .i64 0)).set (p := ⟨w.heap.size + 1 + 1, 2, none⟩) q1 (.slice none 0 0)
    have hBf : Below w.heap.size w (((w1.setCell ⟨w.heap.size + 1 + 1, 0, none⟩ (.int .i64 0)).setCell ⟨w.heap.size + 1 + 1, 1, none⟩ (.int .i64 0)).setCell ⟨w.heap.size + 1 + 1, 2, none⟩ (.slice none 0 0)) :=
      (((B1).setCell (p := ⟨w.heap.size + 1 + 1, 0, none⟩) (by simp; try omega) (.int .i64 0)).setCell (p := ⟨w.heap.size + 1 + 1, 1, none⟩) (by simp; try omega) (.int .i64 0)).setCell (p := ⟨w.heap.size + 1 + 1, 2, none⟩) (by simp; try omega) (.slice none 0 0)
    have HX2 := R0
    obtain ⟨r0, r1, r2, rf, rl⟩ := HX2
    obtain ⟨e0, e1, e2, -, -⟩ := ((R0.set0 (.int .i64 0)).set1 (.int .i64 0)).set2 (.slice none 0 0)
    have He := Lib.hid (show _ ∧ _ ∧ _ from ⟨e0, e1, e2⟩)
    clear e0 e1 e2 q1
    go_wp2
    generalize (((w1.setCell ⟨w.heap.size + 1 + 1, 0, none⟩ (.int .i64 0)).setCell ⟨w.heap.size + 1 + 1, 1, none⟩ (.int .i64 0)).setCell ⟨w.heap.size + 1 + 1, 2, none⟩ (.slice none 0 0)) = wF at *
    have e := He.out
    (try simp only [Exit.inBlock, Exit.then])
    refine bodyPost_ret (by simp [results, Try.results15, go_sem, e.1, e.2.1, e.2.2]; try rfl) rfl ?_
    rw [HF.out]
    exact ⟨none, 0, rfl, of, hBf⟩
end Go.Proofs.Ytcpjidbinhfapab
