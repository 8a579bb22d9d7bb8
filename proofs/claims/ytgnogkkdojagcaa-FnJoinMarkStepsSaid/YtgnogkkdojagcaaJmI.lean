import Derived.Test.YtgnogkkdojagcaaJmS2
import Derived.Deep.RegionHeld3
namespace Go.Proofs.Ytgnogkkdojagcaa
open Go.RowKit
/-- A box, whatever it holds. -/
def RB (w : World) (g : Nat) : Prop := ∃ a b c, Bx w g a b c
theorem RB.keep {w w' : World} {g : Nat} (h : RB w g) (hb : Below w.heap.size w w') : RB w' g := by
  obtain ⟨a, b, c, h⟩ := h
  exact ⟨a, b, c, h.keep hb⟩
set_option maxRecDepth 100000 in
set_option maxHeartbeats 4000000 in
theorem implUntil_any (A : Option Addr) (c : Nat) (l : List EventR) (mark more : Int) (w : World) (ha : Row EventR.enc 3 w A l) (hv : vEvs l = true) (v0 : -999 ≤ more) (v1 : more ≤ 999) :
    Calls Try.prog 44 #[.slice A l.length c, .int .i64 mark, .int .i64 more] w (OwnPost EventR.enc 3 42 w (l.filter (jmLp mark more))) := by
  have hal := ha.1
  have Hv := Lib.hid hv
  clear hv
  obtain ⟨i0, hi0, hz0, hz1, hz2⟩ := info_parts EventR.zero_info
  go_enter Try.func44, Try.ntmps44
  go_wp2
  go_loopw [7, 12] (fun v i wr => ∃ k : Nat, k ≤ l.length ∧ i = .int .i64 k ∧ Acc EventR.enc 3 42 w ((l.take k).filter (jmLp mark more)) v wr) (fun _ i _ => l.length - (intOf i).toNat)
  case atStart => exact ⟨0, Nat.zero_le _, rfl, by simpa using acc_none EventR.enc 3 42 (Below.refl w.heap.size w)⟩
  case round =>
    obtain ⟨k, hk, rfl, hacc⟩ := hrel
    have Hacc := Lib.hid hacc
    have hbw := hacc.2
    clear hacc
    by_cases hlt : k < l.length
    · obtain ⟨b, off, rfl, hb0, q0, q1, q2⟩ := (ha.keep hbw).atEvent hlt
      have hx := List.getElem?_eq_getElem hlt
      have hbd := ev_bd Hv.out hx
      have hl40 := ev_len Hv.out
      obtain ⟨x0, x1, -, -, -, -⟩ := hbd
      generalize l[k] = x at *
      have Hx := Lib.hid hx
      have hl1 := filter_len (jmLp mark more) l k
      have hzz := hbw.size
      have i0' : (0 : Int) ≤ (k : Int) := by omega
      have i1' : (k : Int) < (l.length : Int) := by omega
      have hbv : Below wr.heap.size wr (wr.alloc (.cells #[.int .i64 x.a0, .int .i64 x.a1, .int .i64 x.a2] 42)) := (Below.refl _ _).alloc (Nat.le_refl _) _
      have v0' : (wr.alloc (.cells #[.int .i64 x.a0, .int .i64 x.a1, .int .i64 x.a2] 42)).cell? ⟨wr.heap.size, 0, none⟩ = some (.int .i64 x.a0) := by simp [go_sem]
      have v1' : (wr.alloc (.cells #[.int .i64 x.a0, .int .i64 x.a1, .int .i64 x.a2] 42)).cell? ⟨wr.heap.size, 1, none⟩ = some (.int .i64 x.a1) := by simp [go_sem]
      have v2' : (wr.alloc (.cells #[.int .i64 x.a0, .int .i64 x.a1, .int .i64 x.a2] 42)).cell? ⟨wr.heap.size, 2, none⟩ = some (.int .i64 x.a2) := by simp [go_sem]
      have hzv : wr.heap.size < (wr.alloc (.cells #[.int .i64 x.a0, .int .i64 x.a1, .int .i64 x.a2] 42)).heap.size := by simp
      clear hx
      by_cases hp : mark < x.a0 + more
      · have Hn1 := Lib.hid (filter_next (p := jmLp mark more) (l := l) Hx.out (decide_eq_true hp))
        have hacc4 := acc_keep Hacc.out hbv
        have hown := hacc4.1
        have hz4 := hacc4.2.size
        have Hacc4 := Lib.hid hacc4
        clear hacc4
        go_wp2_with (first | (at_builtin; refine wpList_append_own _ rfl _ _ 34 rfl w.heap.size 42 i0 _ 3 24 Try.underlying34 hi0 hz0 hz1 hz2 rfl (by decide) _ _ _ rfl (hown.alloc _) ⟨wr.heap.size + 1, 0, none⟩ 1 1 (EventR.enc x) rfl rfl ?c1 ?c2 ?c3 ?c4 ?c5 ?_) | go_in)
        case c1 =>
          intro j u hu
          rcases j with _ | _ | _ | j <;> simp [EventR.enc] at hu <;> subst hu <;> simp [Addr.add, go_sem, *]
        case c2 => intro u hu; simp [EventR.enc] at hu; rcases hu with rfl | rfl | rfl <;> rfl
        case c3 => unfold maxLen; omega
        case c4 => omega
        case c5 => first | omega | (simp; done) | (simp; omega)
        intro v' w6 hown' hg' _
        have hnext := acc_push Hacc4.out ((Below.refl _ _).alloc (Nat.le_refl _) _) hown' hg'
        rw [← Hn1.out] at hnext
        have Hn := Lib.hid hnext
        clear hnext hown' hg' hown Hacc Hacc4 Hn1
        go_wp2
        go_roundw
        case rel => exact ⟨k + 1, by omega, by go_num, Hn.out⟩
        case measure => simp [intOf]; omega
      · have Hn1 := Lib.hid (filter_skip (p := jmLp mark more) (l := l) Hx.out (decide_eq_false hp))
        have hnext := acc_keep Hacc.out hbv
        rw [← Hn1.out] at hnext
        have Hn := Lib.hid hnext
        clear hnext Hacc Hn1
        go_wp2
        go_roundw
        case rel => exact ⟨k + 1, by omega, by go_num, Hn.out⟩
        case measure => simp [intOf]; omega
    · have hkl : l.take k = l := List.take_of_length_le (by omega)
      have hfin := Hacc.out
      rw [hkl] at hfin
      have hl1 := List.length_filter_le (jmLp mark more) l
      have Hfin := Lib.hid hfin
      clear hfin hkl Hacc
      go_wp2
      all_goals go_returns
      all_goals exact acc_post Hfin.out (by omega)
set_option maxRecDepth 100000 in
set_option maxHeartbeats 8000000 in
theorem implJm_any (A : Option Addr) (c : Nat) (l : List EventR) (B : Option Addr) (d : Nat) (r : List EventR) (m : Int) (mark low high : Int) (w : World) (ha : Row EventR.enc 3 w A l) (hr : Row EventR.enc 3 w B r) :
    Calls Try.prog 19 #[.agg #[.slice A l.length c, .slice B r.length d, .int .i64 m], .int .i64 mark, .int .i64 low, .int .i64 high] w (JsBPost w (jmL l r m mark low high) (jmR l r m mark low high) (jmM l r m mark low high) (jmK l r m mark low high)) := by
  have hal := ha.1
  have hrl := hr.1
  have x0 := ((Bx.made w (.slice A l.length c) (.slice B r.length d) (.int .i64 m) 46).keep ((Below.refl _ _).alloc (Nat.le_refl _) (.cells #[.slice none 0 0, .slice none 0 0, .int .i64 0] 46))).keep (Below.alloc (Below.refl _ _) (Nat.le_refl _) (.cells #[.int .i64 low, .int .i64 high] 66))
  have x1 := (Bx.made (w.alloc (.cells #[.slice A l.length c, .slice B r.length d, .int .i64 m] 46)) (.slice none 0 0) (.slice none 0 0) (.int .i64 0) 46).keep (Below.alloc (Below.refl _ _) (Nat.le_refl _) (.cells #[.int .i64 low, .int .i64 high] 66))
  have hB : Below w.heap.size w (((w.alloc (.cells #[.slice A l.length c, .slice B r.length d, .int .i64 m] 46)).alloc (.cells #[.slice none 0 0, .slice none 0 0, .int .i64 0] 46)).alloc (.cells #[.int .i64 low, .int .i64 high] 66)) := (((Below.refl _ _).alloc (Nat.le_refl _) _).alloc (by simp) _).alloc (by simp; omega) _
  simp only [World.size_alloc] at x1
  have hzA : w.heap.size + 3 ≤ (((w.alloc (.cells #[.slice A l.length c, .slice B r.length d, .int .i64 m] 46)).alloc (.cells #[.slice none 0 0, .slice none 0 0, .int .i64 0] 46)).alloc (.cells #[.int .i64 low, .int .i64 high] 66)).heap.size := by simp
  have n0 : (((w.alloc (.cells #[.slice A l.length c, .slice B r.length d, .int .i64 m] 46)).alloc (.cells #[.slice none 0 0, .slice none 0 0, .int .i64 0] 46)).alloc (.cells #[.int .i64 low, .int .i64 high] 66)).cell? ⟨w.heap.size + 2, 0, none⟩ = some (.int .i64 low) := by simp [go_sem]
  have n1 : (((w.alloc (.cells #[.slice A l.length c, .slice B r.length d, .int .i64 m] 46)).alloc (.cells #[.slice none 0 0, .slice none 0 0, .int .i64 0] 46)).alloc (.cells #[.int .i64 low, .int .i64 high] 66)).cell? ⟨w.heap.size + 2, 1, none⟩ = some (.int .i64 high) := by simp [go_sem]
  have y0 := x0
  obtain ⟨p00, p01, p02, pf0, pl0⟩ := x0
  go_enter Try.func19, Try.ntmps19
  go_wp2_with fail
  clear p00 p01 p02
  generalize (((w.alloc (.cells #[.slice A l.length c, .slice B r.length d, .int .i64 m] 46)).alloc (.cells #[.slice none 0 0, .slice none 0 0, .int .i64 0] 46)).alloc (.cells #[.int .i64 low, .int .i64 high] 66)) = wA at *
  refine (implVJ_any A c l B d r m _ (ha.keep hB) (hr.keep hB)).mono ?_
  rintro e w1 ⟨rfl, b1⟩
  obtain ⟨p00, p01, p02, pf0', pl0'⟩ := y0.keep b1
  have y0' := y0.keep b1
  have x1' := x1.keep b1
  have m0 := (b1.cell (p := ⟨w.heap.size + 2, 0, none⟩) (by simp; omega)).trans n0
  have m1 := (b1.cell (p := ⟨w.heap.size + 2, 1, none⟩) (by simp; omega)).trans n1
  have B1 := hB.trans (b1.mono hB.size)
  have z1 := b1.size
  clear pf0 pf0' pl0 y0 x1 b1 hB n0 n1
  rcases Bool.eq_false_or_eq_true (vjB l r m) with h0 | h0
  · rw [h0]
    go_wp2_with fail
    refine (implVR_any low high _).mono ?_
    rintro e w2 ⟨rfl, b2⟩
    have y0'' := y0'.keep b2
    obtain ⟨s00, s01, s02, sf0, sl0⟩ := y0'.keep b2
    have x1'' := x1'.keep b2
    have k0 := (b2.cell (p := ⟨w.heap.size + 2, 0, none⟩) (by simp; omega)).trans m0
    have k1 := (b2.cell (p := ⟨w.heap.size + 2, 1, none⟩) (by simp; omega)).trans m1
    have B2 := B1.trans (b2.mono B1.size)
    have z2 := b2.size
    clear b2 B1 p00 p01 p02 pl0' m0 m1 y0' x1' sf0
    rcases Bool.eq_false_or_eq_true (vrB low high) with h2 | h2
    · rw [h2]
      have H0 := Lib.hid h0
      have H2 := Lib.hid h2
      go_wp2_with fail
      refine (implIR_any mark m 3000 _).mono ?_
      rintro e w3 ⟨rfl, rfl⟩
      by_cases h1 : m ≤ mark ∧ mark ≤ 3000
      · have hir : decide (m ≤ mark ∧ mark ≤ 3000) = true := decide_eq_true h1
        rw [hir]
        have HF := Lib.hid (show jmL l r m mark low high = l.filter (jmLp mark high) ∧ jmR l r m mark low high = r.filter (jmLp mark (-low)) ∧ jmM l r m mark low high = mark ∧ jmK l r m mark low high = true by
          have hn : jmP l r m mark low high := ⟨h0, h1, h2⟩
          unfold jmL jmR jmM jmK
          exact ⟨if_pos hn, if_pos hn, if_pos hn, decide_eq_true hn⟩)
        obtain ⟨v1, v2, -, -⟩ := vjB_parts H0.out
        obtain ⟨b0, b1, b2, b3⟩ := vrB_bd H2.out
        have Hv1 := Lib.hid v1
        have Hv2 := Lib.hid v2
        clear hir h0 h2 h1 v1 v2
        go_wp2_with fail
        have hwn : IntKind.i64.wrap (-low) = -low := IntWalk.i64_in _ (by omega)
        have yA : wA.heap.size ≤ w2.heap.size := by omega
        go_region_held3 (fun w' => w'.cell? ⟨w.heap.size, 0, none⟩ = some (.slice A l.length c) ∧ w'.cell? ⟨w.heap.size, 1, none⟩ = some (.slice B r.length d) ∧ w'.cell? ⟨w.heap.size + 2, 0, none⟩ = some (.int .i64 low) ∧ w'.cell? ⟨w.heap.size + 2, 1, none⟩ = some (.int .i64 high) ∧ wA.heap.size ≤ w'.heap.size ∧ RB w' (w.heap.size + 1) ∧ Below w.heap.size w w') (((repeat' apply And.intro) <;> first | assumption | (exact ⟨_, _, _, x1''.keep (Below.refl _ _).drew⟩) | (exact ⟨_, _, _, ((t5.set0 _).set1 _).set2 _⟩) | (simp only [World.cell?_drew]; assumption) | (simp only [World.size_drew]; assumption) | (exact Below.drew (by assumption)) | (rw [World.cell?_setCell_far _ _ _ _ (by first | (simp; done) | (simp; omega))]; assumption) | (rw [World.cell?_setCell_far _ _ _ _ (by first | (simp; done) | (simp; omega)), World.cell?_setCell_far _ _ _ _ (by first | (simp; done) | (simp; omega))]; assumption) | (rw [World.cell?_setCell_far _ _ _ _ (by first | (simp; done) | (simp; omega)), World.cell?_setCell_far _ _ _ _ (by first | (simp; done) | (simp; omega)), World.cell?_setCell_far _ _ _ _ (by first | (simp; done) | (simp; omega))]; assumption) | (simp [World.setCell]; omega) | ((repeat (refine Below.setCell ?_ (by first | (simp; done) | (simp; omega)) _)); assumption))) (first | (have _t := z4; go_at_call 44; go_split_ands; (try rw [hwn]); refine (implUntil_any B d r mark (-low) _ (hr.keep (by assumption)) Hv2.out (by omega) (by omega)).mono ?_; rintro e w5 ⟨A2, c2, rfl, o2, b5⟩; have z5 := b5.size; (try simp only [World.size_drew] at z5); have K5 : Below w.heap.size w w5 := Below.trans (by assumption) (b5.mono (by first | omega | (simp; omega))); have HK5 := Lib.hid K5; have g5a : w5.cell? ⟨w.heap.size, 0, none⟩ = some (.slice A l.length c) := (b5.cell (by first | omega | (simp; omega))).trans (by assumption); have g5b : w5.cell? ⟨w.heap.size, 1, none⟩ = some (.slice B r.length d) := (b5.cell (by first | omega | (simp; omega))).trans (by assumption); have g5c : w5.cell? ⟨w.heap.size + 2, 0, none⟩ = some (.int .i64 low) := (b5.cell (by first | omega | (simp; omega))).trans (by assumption); have g5d : w5.cell? ⟨w.heap.size + 2, 1, none⟩ = some (.int .i64 high) := (b5.cell (by first | omega | (simp; omega))).trans (by assumption); have y5 : wA.heap.size ≤ w5.heap.size := (by omega); obtain ⟨ra, rb, rc, t4'⟩ := t4; have t5 := t4'.keep b5; have t5e : RB w5 (w.heap.size + 1) := ⟨ra, rb, rc, t5⟩; have Hx5 := Lib.hid t5; have p10 := t5.1; have p11 := t5.2.1; have p12 := t5.2.2.1; have pf1 := t5.2.2.2.1; have pl1 := t5.2.2.2.2) | (go_at_call 44; go_split_ands; refine (implUntil_any A c l mark high _ (ha.keep (by assumption)) Hv1.out b2 b3).mono ?_; rintro e w4 ⟨A1, c1, rfl, o1, b4⟩; have z4 := b4.size; (try simp only [World.size_drew] at z4); have K4 : Below w.heap.size w w4 := Below.trans (by assumption) (b4.mono (by first | omega | (simp; omega))); have HK4 := Lib.hid K4; have g4a : w4.cell? ⟨w.heap.size, 0, none⟩ = some (.slice A l.length c) := (b4.cell (by first | omega | (simp; omega))).trans (by assumption); have g4b : w4.cell? ⟨w.heap.size, 1, none⟩ = some (.slice B r.length d) := (b4.cell (by first | omega | (simp; omega))).trans (by assumption); have g4c : w4.cell? ⟨w.heap.size + 2, 0, none⟩ = some (.int .i64 low) := (b4.cell (by first | omega | (simp; omega))).trans (by assumption); have g4d : w4.cell? ⟨w.heap.size + 2, 1, none⟩ = some (.int .i64 high) := (b4.cell (by first | omega | (simp; omega))).trans (by assumption); have y4 : wA.heap.size ≤ w4.heap.size := (by omega); have t4 : RB w4 (w.heap.size + 1) := RB.keep (by assumption) b4))
        have HX5 := Hx5.out
        have lo1 : ∀ g, Value.ownBlock (.slice A1 (l.filter (jmLp mark high)).length c1) = some g → w.heap.size + 3 ≤ g := fun g hg => by have := (o1.lt g hg).1; simp at this; omega
        have lo2 : ∀ g, Value.ownBlock (.slice A2 (r.filter (jmLp mark (-low))).length c2) = some g → w.heap.size + 3 ≤ g := fun g hg => by have := (o2.lt g hg).1; omega
        have hd0 := own_dis o1 o2
        have o1r := own_rebase (B := w.heap.size) (o1.keep b5) (by simp; omega)
        have o2r := own_rebase (B := w.heap.size) o2 (by omega)
        have K5 : Below w.heap.size w w5 := HK5.out
        clear o1 o2 s00 s01 s02 k0 k1 x1'' y0'' b4 b5
        have q1 : ∀ g, Value.ownBlock (.slice A1 (l.filter (jmLp mark high)).length c1) = some g → w.heap.size + 2 ≤ g := fun g hg => by have := lo1 g hg; omega
        have q2 : ∀ g, Value.ownBlock (.slice A2 (r.filter (jmLp mark (-low))).length c2) = some g → w.heap.size + 2 ≤ g := fun g hg => by have := lo2 g hg; omega
        have hd : ∀ g g', Value.ownBlock (.slice A1 (l.filter (jmLp mark high)).length c1) = some g → Value.ownBlock (.slice A2 (r.filter (jmLp mark (-low))).length c2) = some g' → g ≠ g' := hd0
        have o1f : Own EventR.enc 3 42 (((w5.setCell ⟨w.heap.size + 1, 0, none⟩ (.slice A1 (l.filter (jmLp mark high)).length c1)).setCell ⟨w.heap.size + 1, 1, none⟩ (.slice A2 (r.filter (jmLp mark (-low))).length c2)).setCell ⟨w.heap.size + 1, 2, none⟩ (.int .i64 mark)) w.heap.size (.slice A1 (l.filter (jmLp mark high)).length c1) (l.filter (jmLp mark high)) := by
          repeat (refine Own.set ?_ (fun g hg => by have := q1 g hg; simp; omega) _)
          exact o1r
        have o2f : Own EventR.enc 3 42 (((w5.setCell ⟨w.heap.size + 1, 0, none⟩ (.slice A1 (l.filter (jmLp mark high)).length c1)).setCell ⟨w.heap.size + 1, 1, none⟩ (.slice A2 (r.filter (jmLp mark (-low))).length c2)).setCell ⟨w.heap.size + 1, 2, none⟩ (.int .i64 mark)) w.heap.size (.slice A2 (r.filter (jmLp mark (-low))).length c2) (r.filter (jmLp mark (-low))) := by
          repeat (refine Own.set ?_ (fun g hg => by have := q2 g hg; simp; omega) _)
          exact o2r
        have hBf : Below w.heap.size w (((w5.setCell ⟨w.heap.size + 1, 0, none⟩ (.slice A1 (l.filter (jmLp mark high)).length c1)).setCell ⟨w.heap.size + 1, 1, none⟩ (.slice A2 (r.filter (jmLp mark (-low))).length c2)).setCell ⟨w.heap.size + 1, 2, none⟩ (.int .i64 mark)) := by
          repeat (refine Below.setCell ?_ (by simp; try omega) _)
          exact K5
        have HX1 := HX5
        have HX2 := HX5
        obtain ⟨p10, p11, p12, pf1, pl1⟩ := HX2
        obtain ⟨e0, e1, e2, -, -⟩ := ((HX1.set0 (.slice A1 (l.filter (jmLp mark high)).length c1)).set1 (.slice A2 (r.filter (jmLp mark (-low))).length c2)).set2 (.int .i64 mark)
        have He := Lib.hid (show _ ∧ _ ∧ _ from ⟨e0, e1, e2⟩)
        clear e0 e1 e2 HX1 q1 q2
        go_wp2
        generalize (((w5.setCell ⟨w.heap.size + 1, 0, none⟩ (.slice A1 (l.filter (jmLp mark high)).length c1)).setCell ⟨w.heap.size + 1, 1, none⟩ (.slice A2 (r.filter (jmLp mark (-low))).length c2)).setCell ⟨w.heap.size + 1, 2, none⟩ (.int .i64 mark)) = wF at *
        have e := He.out
        (try simp only [Exit.inBlock, Exit.then])
        refine bodyPost_ret (by simp [results, Try.results19, go_sem, e.1, e.2.1, e.2.2]; try rfl) rfl ?_
        rw [HF.out.1, HF.out.2.1, HF.out.2.2.1, HF.out.2.2.2]
        exact ⟨A1, c1, A2, c2, rfl, o1f, o2f, hd, hBf⟩
      · have hir : decide (m ≤ mark ∧ mark ≤ 3000) = false := decide_eq_false h1
        have HF := Lib.hid (show jmL l r m mark low high = [] ∧ jmR l r m mark low high = [] ∧ jmM l r m mark low high = 0 ∧ jmK l r m mark low high = false by
          have hn : ¬ jmP l r m mark low high := fun h => h1 h.2.1
          unfold jmL jmR jmM jmK
          exact ⟨if_neg hn, if_neg hn, if_neg hn, decide_eq_false hn⟩)
        rw [hir]
        clear h0 h1 h2 hir y0'' s00 s01 s02 sl0 k0 k1
        have q1 : ∀ g, Value.ownBlock (.slice none 0 0) = some g → w.heap.size + 2 ≤ g := fun g hg => by simp [Value.ownBlock] at hg
        have q2 : ∀ g, Value.ownBlock (.slice none 0 0) = some g → w.heap.size + 2 ≤ g := fun g hg => by simp [Value.ownBlock] at hg
        have hd : ∀ g g', Value.ownBlock (.slice none 0 0) = some g → Value.ownBlock (.slice none 0 0) = some g' → g ≠ g' := fun g g' hg _ => by simp [Value.ownBlock] at hg
        have o1f : Own EventR.enc 3 42 (((w2.setCell ⟨w.heap.size + 1, 0, none⟩ (.slice none 0 0)).setCell ⟨w.heap.size + 1, 1, none⟩ (.slice none 0 0)).setCell ⟨w.heap.size + 1, 2, none⟩ (.int .i64 0)) w.heap.size (.slice none 0 0) ([]) := by
          repeat (refine Own.set ?_ (fun g hg => by have := q1 g hg; simp; omega) _)
          exact ⟨by simp, World.ownsRow_nil _ _ _ _⟩
        have o2f : Own EventR.enc 3 42 (((w2.setCell ⟨w.heap.size + 1, 0, none⟩ (.slice none 0 0)).setCell ⟨w.heap.size + 1, 1, none⟩ (.slice none 0 0)).setCell ⟨w.heap.size + 1, 2, none⟩ (.int .i64 0)) w.heap.size (.slice none 0 0) ([]) := by
          repeat (refine Own.set ?_ (fun g hg => by have := q2 g hg; simp; omega) _)
          exact ⟨by simp, World.ownsRow_nil _ _ _ _⟩
        have hBf : Below w.heap.size w (((w2.setCell ⟨w.heap.size + 1, 0, none⟩ (.slice none 0 0)).setCell ⟨w.heap.size + 1, 1, none⟩ (.slice none 0 0)).setCell ⟨w.heap.size + 1, 2, none⟩ (.int .i64 0)) := by
          repeat (refine Below.setCell ?_ (by simp; try omega) _)
          exact B2
        have HX1 := x1''
        have HX2 := x1''
        obtain ⟨p10, p11, p12, pf1, pl1⟩ := HX2
        obtain ⟨e0, e1, e2, -, -⟩ := ((HX1.set0 (.slice none 0 0)).set1 (.slice none 0 0)).set2 (.int .i64 0)
        have He := Lib.hid (show _ ∧ _ ∧ _ from ⟨e0, e1, e2⟩)
        clear e0 e1 e2 HX1 q1 q2
        go_wp2
        generalize (((w2.setCell ⟨w.heap.size + 1, 0, none⟩ (.slice none 0 0)).setCell ⟨w.heap.size + 1, 1, none⟩ (.slice none 0 0)).setCell ⟨w.heap.size + 1, 2, none⟩ (.int .i64 0)) = wF at *
        have e := He.out
        (try simp only [Exit.inBlock, Exit.then])
        refine bodyPost_ret (by simp [results, Try.results19, go_sem, e.1, e.2.1, e.2.2]; try rfl) rfl ?_
        rw [HF.out.1, HF.out.2.1, HF.out.2.2.1, HF.out.2.2.2]
        exact ⟨none, 0, none, 0, rfl, o1f, o2f, hd, hBf⟩
    · have _t := trivial
      have HF := Lib.hid (show jmL l r m mark low high = [] ∧ jmR l r m mark low high = [] ∧ jmM l r m mark low high = 0 ∧ jmK l r m mark low high = false by
        have hn : ¬ jmP l r m mark low high := fun h => by have := h.2.2; rw [h2] at this; cases this
        unfold jmL jmR jmM jmK
        exact ⟨if_neg hn, if_neg hn, if_neg hn, decide_eq_false hn⟩)
      rw [h2]
      clear h0 h2 y0'' s00 s01 s02 sl0 k0 k1
      have q1 : ∀ g, Value.ownBlock (.slice none 0 0) = some g → w.heap.size + 2 ≤ g := fun g hg => by simp [Value.ownBlock] at hg
      have q2 : ∀ g, Value.ownBlock (.slice none 0 0) = some g → w.heap.size + 2 ≤ g := fun g hg => by simp [Value.ownBlock] at hg
      have hd : ∀ g g', Value.ownBlock (.slice none 0 0) = some g → Value.ownBlock (.slice none 0 0) = some g' → g ≠ g' := fun g g' hg _ => by simp [Value.ownBlock] at hg
      have o1f : Own EventR.enc 3 42 (((w2.setCell ⟨w.heap.size + 1, 0, none⟩ (.slice none 0 0)).setCell ⟨w.heap.size + 1, 1, none⟩ (.slice none 0 0)).setCell ⟨w.heap.size + 1, 2, none⟩ (.int .i64 0)) w.heap.size (.slice none 0 0) ([]) := by
        repeat (refine Own.set ?_ (fun g hg => by have := q1 g hg; simp; omega) _)
        exact ⟨by simp, World.ownsRow_nil _ _ _ _⟩
      have o2f : Own EventR.enc 3 42 (((w2.setCell ⟨w.heap.size + 1, 0, none⟩ (.slice none 0 0)).setCell ⟨w.heap.size + 1, 1, none⟩ (.slice none 0 0)).setCell ⟨w.heap.size + 1, 2, none⟩ (.int .i64 0)) w.heap.size (.slice none 0 0) ([]) := by
        repeat (refine Own.set ?_ (fun g hg => by have := q2 g hg; simp; omega) _)
        exact ⟨by simp, World.ownsRow_nil _ _ _ _⟩
      have hBf : Below w.heap.size w (((w2.setCell ⟨w.heap.size + 1, 0, none⟩ (.slice none 0 0)).setCell ⟨w.heap.size + 1, 1, none⟩ (.slice none 0 0)).setCell ⟨w.heap.size + 1, 2, none⟩ (.int .i64 0)) := by
        repeat (refine Below.setCell ?_ (by simp; try omega) _)
        exact B2
      have HX1 := x1''
      have HX2 := x1''
      obtain ⟨p10, p11, p12, pf1, pl1⟩ := HX2
      obtain ⟨e0, e1, e2, -, -⟩ := ((HX1.set0 (.slice none 0 0)).set1 (.slice none 0 0)).set2 (.int .i64 0)
      have He := Lib.hid (show _ ∧ _ ∧ _ from ⟨e0, e1, e2⟩)
      clear e0 e1 e2 HX1 q1 q2
      go_wp2
      generalize (((w2.setCell ⟨w.heap.size + 1, 0, none⟩ (.slice none 0 0)).setCell ⟨w.heap.size + 1, 1, none⟩ (.slice none 0 0)).setCell ⟨w.heap.size + 1, 2, none⟩ (.int .i64 0)) = wF at *
      have e := He.out
      (try simp only [Exit.inBlock, Exit.then])
      refine bodyPost_ret (by simp [results, Try.results19, go_sem, e.1, e.2.1, e.2.2]; try rfl) rfl ?_
      rw [HF.out.1, HF.out.2.1, HF.out.2.2.1, HF.out.2.2.2]
      exact ⟨none, 0, none, 0, rfl, o1f, o2f, hd, hBf⟩
  · have _t := trivial
    have HF := Lib.hid (show jmL l r m mark low high = [] ∧ jmR l r m mark low high = [] ∧ jmM l r m mark low high = 0 ∧ jmK l r m mark low high = false by
      have hn : ¬ jmP l r m mark low high := fun h => by have := h.1; rw [h0] at this; cases this
      unfold jmL jmR jmM jmK
      exact ⟨if_neg hn, if_neg hn, if_neg hn, decide_eq_false hn⟩)
    rw [h0]
    clear h0 y0' m0 m1 p00 p01 p02 pl0'
    have q1 : ∀ g, Value.ownBlock (.slice none 0 0) = some g → w.heap.size + 2 ≤ g := fun g hg => by simp [Value.ownBlock] at hg
    have q2 : ∀ g, Value.ownBlock (.slice none 0 0) = some g → w.heap.size + 2 ≤ g := fun g hg => by simp [Value.ownBlock] at hg
    have hd : ∀ g g', Value.ownBlock (.slice none 0 0) = some g → Value.ownBlock (.slice none 0 0) = some g' → g ≠ g' := fun g g' hg _ => by simp [Value.ownBlock] at hg
    have o1f : Own EventR.enc 3 42 (((w1.setCell ⟨w.heap.size + 1, 0, none⟩ (.slice none 0 0)).setCell ⟨w.heap.size + 1, 1, none⟩ (.slice none 0 0)).setCell ⟨w.heap.size + 1, 2, none⟩ (.int .i64 0)) w.heap.size (.slice none 0 0) ([]) := by
      repeat (refine Own.set ?_ (fun g hg => by have := q1 g hg; simp; omega) _)
      exact ⟨by simp, World.ownsRow_nil _ _ _ _⟩
    have o2f : Own EventR.enc 3 42 (((w1.setCell ⟨w.heap.size + 1, 0, none⟩ (.slice none 0 0)).setCell ⟨w.heap.size + 1, 1, none⟩ (.slice none 0 0)).setCell ⟨w.heap.size + 1, 2, none⟩ (.int .i64 0)) w.heap.size (.slice none 0 0) ([]) := by
      repeat (refine Own.set ?_ (fun g hg => by have := q2 g hg; simp; omega) _)
      exact ⟨by simp, World.ownsRow_nil _ _ _ _⟩
    have hBf : Below w.heap.size w (((w1.setCell ⟨w.heap.size + 1, 0, none⟩ (.slice none 0 0)).setCell ⟨w.heap.size + 1, 1, none⟩ (.slice none 0 0)).setCell ⟨w.heap.size + 1, 2, none⟩ (.int .i64 0)) := by
      repeat (refine Below.setCell ?_ (by simp; try omega) _)
      exact B1
    have HX1 := x1'
    have HX2 := x1'
    obtain ⟨p10, p11, p12, pf1, pl1⟩ := HX2
    obtain ⟨e0, e1, e2, -, -⟩ := ((HX1.set0 (.slice none 0 0)).set1 (.slice none 0 0)).set2 (.int .i64 0)
    have He := Lib.hid (show _ ∧ _ ∧ _ from ⟨e0, e1, e2⟩)
    clear e0 e1 e2 HX1 q1 q2
    go_wp2
    generalize (((w1.setCell ⟨w.heap.size + 1, 0, none⟩ (.slice none 0 0)).setCell ⟨w.heap.size + 1, 1, none⟩ (.slice none 0 0)).setCell ⟨w.heap.size + 1, 2, none⟩ (.int .i64 0)) = wF at *
    have e := He.out
    (try simp only [Exit.inBlock, Exit.then])
    refine bodyPost_ret (by simp [results, Try.results19, go_sem, e.1, e.2.1, e.2.2]; try rfl) rfl ?_
    rw [HF.out.1, HF.out.2.1, HF.out.2.2.1, HF.out.2.2.2]
    exact ⟨none, 0, none, 0, rfl, o1f, o2f, hd, hBf⟩
end Go.Proofs.Ytgnogkkdojagcaa
