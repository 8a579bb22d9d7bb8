import Derived.Test.YtcpjidbinhfapabChG
namespace Go.Proofs.Ytcpjidbinhfapab
open Go.RowKit
theorem made3 {W W' : World} {a b c : Value} {T : Nat} (hb : Below (W.alloc (.cells #[a, b, c] T)).heap.size (W.alloc (.cells #[a, b, c] T)) W') : Bx W' W.heap.size a b c := (Bx.made W a b c T).keep hb
theorem made3d {W W' : World} {a b c : Value} {T : Nat} (hb : Below (W.alloc (.cells #[a, b, c] T)).drew.heap.size (W.alloc (.cells #[a, b, c] T)).drew W') : Bx W' W.heap.size a b c := ((Bx.made W a b c T).keep (Below.refl _ _).drew).keep hb
/-- Behind a region that made a box of three cells, one of them a fresh slice. -/
def Mid {α : Type} (enc : α → List Value) (k T : Nat) (w1 wM : World) (G : Nat) (a b s : Value) (l : List α) : Prop :=
  Below w1.heap.size w1 wM ∧ Bx wM G a b s ∧ w1.heap.size ≤ G ∧ Own enc k T wM w1.heap.size s l ∧ (∀ g, s.ownBlock = some g → w1.heap.size ≤ g ∧ g ≠ G)
theorem midA {α : Type} {enc : α → List Value} {k T : Nat} {w1 wC : World} {s : Value} {l : List α} (a b : Value) (T' : Nat) (b3 : Below w1.drew.heap.size w1.drew wC) (o1 : Own enc k T wC w1.drew.heap.size s l) :
    Mid enc k T w1 (wC.alloc (.cells #[a, b, s] T')) wC.heap.size a b s l := by
  have hb : Below w1.heap.size w1 wC := (Below.refl w1.heap.size w1).drew.trans b3
  have hz := b3.size
  have hN : Below wC.heap.size wC (wC.alloc (.cells #[a, b, s] T')) := (Below.refl _ _).alloc (Nat.le_refl _) _
  exact ⟨hb.trans (hN.mono hb.size), Bx.made _ _ _ _ _, hz, o1.keep hN, fun g hg => ⟨(o1.lt g hg).1, Nat.ne_of_lt (o1.lt g hg).2⟩⟩
theorem midB {α : Type} {enc : α → List Value} {k T : Nat} {w1 wC : World} {s : Value} {l : List α} {z0 z1 z2 : Value} {T' : Nat} (a b : Value)
    (b3 : Below (w1.alloc (.cells #[z0, z1, z2] T')).drew.heap.size (w1.alloc (.cells #[z0, z1, z2] T')).drew wC) (o1 : Own enc k T wC (w1.alloc (.cells #[z0, z1, z2] T')).drew.heap.size s l) :
    Mid enc k T w1 (((wC.setCell ⟨w1.heap.size, 0, none⟩ a).setCell ⟨w1.heap.size, 1, none⟩ b).setCell ⟨w1.heap.size, 2, none⟩ s) w1.heap.size a b s l := by
  have hx := made3d b3
  have hz := b3.size
  simp at hz
  have hb0 : Below w1.heap.size w1 wC := (((Below.refl w1.heap.size w1).alloc (Nat.le_refl _) _).drew).trans (b3.mono (by simp))
  have ho : ∀ g, s.ownBlock = some g → w1.heap.size + 1 ≤ g := fun g hg => by have := (o1.lt g hg).1; simpa using this
  refine ⟨?_, ?_, Nat.le_refl _, ?_, fun g hg => by have := ho g hg; omega⟩
  · exact ((hb0.setCell (p := ⟨w1.heap.size, 0, none⟩) (Nat.le_refl _) a).setCell (p := ⟨w1.heap.size, 1, none⟩) (Nat.le_refl _) b).setCell (p := ⟨w1.heap.size, 2, none⟩) (Nat.le_refl _) s
  · exact ((hx.set0 a).set1 b).set2 s
  · have ob := own_rebase (B := w1.heap.size) o1 (by simp)
    repeat (first | exact ob | refine Own.set ?_ (fun g hg => by have := ho g hg; simp; omega) _)
set_option maxRecDepth 100000 in
set_option maxHeartbeats 8000000 in
theorem specGc_any (x y : Int) (A : Option Addr) (c : Nat) (l : List ItemR) (w : World) (ha : Row ItemR.enc 2 w A l) : Calls Try.prog 22 #[.agg #[.int .i64 x, .int .i64 y, .slice A l.length c]] w (ChBPost w (gc x y l).1 (gc x y l).2.1 (gc x y l).2.2.1 (gc x y l).2.2.2) := by
  have hal := ha.1
  have X0 := (Bx.made w (.int .i64 x) (.int .i64 y) (.slice A l.length c) 26).keep ((Below.refl _ _).alloc (Nat.le_refl _) (.cells #[.int .i64 0, .int .i64 0, .slice none 0 0] 26))
  have R0 := Bx.made (w.alloc (.cells #[.int .i64 x, .int .i64 y, .slice A l.length c] 26)) (.int .i64 0) (.int .i64 0) (.slice none 0 0) 26
  have hB : Below w.heap.size w ((w.alloc (.cells #[.int .i64 x, .int .i64 y, .slice A l.length c] 26)).alloc (.cells #[.int .i64 0, .int .i64 0, .slice none 0 0] 26)) := ((Below.refl _ _).alloc (Nat.le_refl _) _).alloc (by simp) _
  have hz : ((w.alloc (.cells #[.int .i64 x, .int .i64 y, .slice A l.length c] 26)).alloc (.cells #[.int .i64 0, .int .i64 0, .slice none 0 0] 26)).heap.size = w.heap.size + 2 := by simp
  simp only [World.size_alloc] at R0
  have hX0 := X0
  obtain ⟨p0, p1, p2, pf, pl⟩ := hX0
  go_enter Try.func22, Try.ntmps22
  go_wp2_with fail
  clear p0 p1 p2 pf pl
  generalize ((w.alloc (.cells #[.int .i64 x, .int .i64 y, .slice A l.length c] 26)).alloc (.cells #[.int .i64 0, .int .i64 0, .slice none 0 0] 26)) = wA at *
  refine (specVC_any x y A c l _ (ha.keep hB)).mono ?_
  rintro e w1 ⟨rfl, b1⟩
  replace X0 := X0.keep b1
  replace R0 := R0.keep b1
  have B1 := hB.trans (b1.mono hB.size)
  have z1 := b1.size
  clear b1 hB
  rcases Bool.eq_false_or_eq_true (chB x y l) with hv | hv
  · obtain ⟨h1a, h1b, h2a, h2b, -⟩ := chB_parts hv
    have Hv := Lib.hid hv
    rw [hv]
    clear hv
    have hX0 := X0
    obtain ⟨p0, p1, p2, pf, pl⟩ := hX0
    go_wp2_with fail
    have zz : w1.heap.size ≤ w1.heap.size := Nat.le_refl _
    go_region_held3 (fun w' => w'.cell? ⟨w.heap.size, 0, none⟩ = some (.int .i64 x) ∧ w'.cell? ⟨w.heap.size, 1, none⟩ = some (.int .i64 y) ∧ w'.cell? ⟨w.heap.size, 2, none⟩ = some (.slice A l.length c) ∧ w1.heap.size ≤ w'.heap.size ∧ Below w.heap.size w w') (((repeat' apply And.intro) <;> first | (with_reducible assumption) | (simp only [World.cell?_drew]; with_reducible assumption) | (simp only [World.size_drew]; assumption) | (exact Below.drew (by assumption)) | (go_keep; done) | (simp [go_sem, *]; done) | (simp [World.setCell]; omega) | ((repeat (refine Below.setCell ?_ (by first | (simp; done) | (simp; omega)) _)); assumption) | go_grown)) ((go_at_call 50; go_split_ands; refine (copyS_any A c l _ (ha.keep (by assumption))).mono ?_; rintro e wC ⟨A1, c1, rfl, o1, b3⟩; have z3 : w1.heap.size ≤ wC.heap.size := Nat.le_trans (by assumption) b3.size; have K3 : Below w.heap.size w wC := Below.trans (by assumption) (b3.mono (by first | omega | (simp; omega))); have k0 : wC.cell? ⟨w.heap.size, 0, none⟩ = some (.int .i64 x) := (b3.cell (by first | omega | (simp; omega))).trans (by assumption); have k1 : wC.cell? ⟨w.heap.size, 1, none⟩ = some (.int .i64 y) := (b3.cell (by first | omega | (simp; omega))).trans (by assumption); have k2 : wC.cell? ⟨w.heap.size, 2, none⟩ = some (.slice A l.length c) := (b3.cell (by first | omega | (simp; omega))).trans (by assumption); (first | ((first | have hN := made3d b3 | have hN := made3 b3); obtain ⟨n0, n1, n2, nf, nl⟩ := hN; (try simp only [World.size_drew] at n0 n1 n2 nf nl)) | skip)))
    all_goals
      first
        | (have HM := midA (.int .i64 x) (.int .i64 y) 26 b3 o1; (first | generalize (wC.alloc (.cells #[.int .i64 x, .int .i64 y, .slice A1 l.length c1] 26)) = wM at HM ⊢); have HM2 := (show ∃ G, G = wC.heap.size ∧ Mid ItemR.enc 2 32 w1 wM G (.int .i64 x) (.int .i64 y) (.slice A1 l.length c1) l from ⟨_, rfl, HM⟩); obtain ⟨G, hG, HM⟩ := HM2; rw [← hG]; clear hG)
        | (have HM := midB (.int .i64 x) (.int .i64 y) b3 o1; (first | generalize (((wC.setCell ⟨w1.heap.size, 0, none⟩ (.int .i64 x)).setCell ⟨w1.heap.size, 1, none⟩ (.int .i64 y)).setCell ⟨w1.heap.size, 2, none⟩ (.slice A1 l.length c1)) = wM at HM ⊢); have HM2 := (show ∃ G, G = w1.heap.size ∧ Mid ItemR.enc 2 32 w1 wM G (.int .i64 x) (.int .i64 y) (.slice A1 l.length c1) l from ⟨_, rfl, HM⟩); obtain ⟨G, hG, HM⟩ := HM2; rw [← hG]; clear hG)
      clear b3 o1
      obtain ⟨bM, N0, zG, oM, qM⟩ := HM
      have zM := bM.size
      have B2 := B1.trans (bM.mono B1.size)
      have X1 := X0.keep bM
      have R1 := R0.keep bM
      have o2 := own_rebase (B := w.heap.size) oM (by omega)
      have q0 : ∀ g, Value.ownBlock (.slice A1 l.length c1) = some g → w.heap.size + 2 ≤ g ∧ g ≠ G := fun g hg => by have := qM g hg; exact ⟨by omega, this.2⟩
      clear oM qM bM
      clear p0 p1 p2 pf pl
      have hX1 := X1
      obtain ⟨p0, p1, p2, pf, pl⟩ := hX1
      have hq : (y + (l.length : Int) == x) = true ∨ (y + (l.length : Int) == x) = false := by cases (y + (l.length : Int) == x) <;> simp
      rcases hq with hq | hq
      · have HF := Lib.hid (show gc x y l = (x, y, l, false) by unfold gc; rw [if_pos Hv.out, if_pos (by simpa using hq)])
        obtain ⟨n0, n1, n2, nf, nl⟩ := N0
        have q1 : ∀ g, Value.ownBlock (.slice A1 l.length c1) = some g → g ≠ w.heap.size + 1 := fun g hg => by have := q0 g hg; omega
        have of : Own ItemR.enc 2 32 (((wM.setCell ⟨w.heap.size + 1, 0, none⟩ (.int .i64 x)).setCell ⟨w.heap.size + 1, 1, none⟩ (.int .i64 y)).setCell ⟨w.heap.size + 1, 2, none⟩ (.slice A1 l.length c1)) w.heap.size (.slice A1 l.length c1) (l) :=
          (((o2).set (p := ⟨w.heap.size + 1, 0, none⟩) q1 (.int .i64 x)).set (p := ⟨w.heap.size + 1, 1, none⟩) q1 (.int .i64 y)).set (p := ⟨w.heap.size + 1, 2, none⟩) q1 (.slice A1 l.length c1)
        have hBf : Below w.heap.size w (((wM.setCell ⟨w.heap.size + 1, 0, none⟩ (.int .i64 x)).setCell ⟨w.heap.size + 1, 1, none⟩ (.int .i64 y)).setCell ⟨w.heap.size + 1, 2, none⟩ (.slice A1 l.length c1)) :=
          (((B2).setCell (p := ⟨w.heap.size + 1, 0, none⟩) (by simp; try omega) (.int .i64 x)).setCell (p := ⟨w.heap.size + 1, 1, none⟩) (by simp; try omega) (.int .i64 y)).setCell (p := ⟨w.heap.size + 1, 2, none⟩) (by simp; try omega) (.slice A1 l.length c1)
        have HX2 := R1
        obtain ⟨r0, r1, r2, rf, rl⟩ := HX2
        obtain ⟨e0, e1, e2, -, -⟩ := ((R1.set0 (.int .i64 x)).set1 (.int .i64 y)).set2 (.slice A1 l.length c1)
        have He := Lib.hid (show _ ∧ _ ∧ _ from ⟨e0, e1, e2⟩)
        clear e0 e1 e2 q1
        go_wp2
        generalize (((wM.setCell ⟨w.heap.size + 1, 0, none⟩ (.int .i64 x)).setCell ⟨w.heap.size + 1, 1, none⟩ (.int .i64 y)).setCell ⟨w.heap.size + 1, 2, none⟩ (.slice A1 l.length c1)) = wF at *
        have e := He.out
        (try simp only [Exit.inBlock, Exit.then])
        refine bodyPost_ret (by simp [results, Try.results22, go_sem, e.1, e.2.1, e.2.2]; try rfl) rfl ?_
        rw [HF.out]
        exact ⟨A1, c1, rfl, of, hBf⟩
      · have HF := Lib.hid (show gc x y l = (x, y + 1, l, true) by unfold gc; rw [if_pos Hv.out, if_neg (by simpa using hq)])
        have N1 := N0.set1 (.int .i64 (y + 1))
        replace R1 := R1.set_far (p := ⟨G, 1, none⟩) (by simp; omega) (.int .i64 (y + 1))
        replace o2 := o2.set (p := ⟨G, 1, none⟩) (fun g hg => by have := q0 g hg; simp; omega) (.int .i64 (y + 1))
        have B4 := B2.setCell (p := ⟨G, 1, none⟩) (by simp; omega) (.int .i64 (y + 1))
        obtain ⟨n0, n1, n2, nf, nl⟩ := N0
        obtain ⟨m0, m1, m2, mf, ml⟩ := N1
        have q1 : ∀ g, Value.ownBlock (.slice A1 l.length c1) = some g → g ≠ w.heap.size + 1 := fun g hg => by have := q0 g hg; omega
        have of : Own ItemR.enc 2 32 ((((wM.setCell ⟨G, 1, none⟩ (.int .i64 (y + 1))).setCell ⟨w.heap.size + 1, 0, none⟩ (.int .i64 x)).setCell ⟨w.heap.size + 1, 1, none⟩ (.int .i64 (y + 1))).setCell ⟨w.heap.size + 1, 2, none⟩ (.slice A1 l.length c1)) w.heap.size (.slice A1 l.length c1) (l) :=
          (((o2).set (p := ⟨w.heap.size + 1, 0, none⟩) q1 (.int .i64 x)).set (p := ⟨w.heap.size + 1, 1, none⟩) q1 (.int .i64 (y + 1))).set (p := ⟨w.heap.size + 1, 2, none⟩) q1 (.slice A1 l.length c1)
        have hBf : Below w.heap.size w ((((wM.setCell ⟨G, 1, none⟩ (.int .i64 (y + 1))).setCell ⟨w.heap.size + 1, 0, none⟩ (.int .i64 x)).setCell ⟨w.heap.size + 1, 1, none⟩ (.int .i64 (y + 1))).setCell ⟨w.heap.size + 1, 2, none⟩ (.slice A1 l.length c1)) :=
          (((B4).setCell (p := ⟨w.heap.size + 1, 0, none⟩) (by simp; try omega) (.int .i64 x)).setCell (p := ⟨w.heap.size + 1, 1, none⟩) (by simp; try omega) (.int .i64 (y + 1))).setCell (p := ⟨w.heap.size + 1, 2, none⟩) (by simp; try omega) (.slice A1 l.length c1)
        have HX2 := R1
        obtain ⟨r0, r1, r2, rf, rl⟩ := HX2
        obtain ⟨e0, e1, e2, -, -⟩ := ((R1.set0 (.int .i64 x)).set1 (.int .i64 (y + 1))).set2 (.slice A1 l.length c1)
        have He := Lib.hid (show _ ∧ _ ∧ _ from ⟨e0, e1, e2⟩)
        clear e0 e1 e2 q1
        go_wp2
        generalize ((((wM.setCell ⟨G, 1, none⟩ (.int .i64 (y + 1))).setCell ⟨w.heap.size + 1, 0, none⟩ (.int .i64 x)).setCell ⟨w.heap.size + 1, 1, none⟩ (.int .i64 (y + 1))).setCell ⟨w.heap.size + 1, 2, none⟩ (.slice A1 l.length c1)) = wF at *
        have e := He.out
        (try simp only [Exit.inBlock, Exit.then])
        refine bodyPost_ret (by simp [results, Try.results22, go_sem, e.1, e.2.1, e.2.2]; try rfl) rfl ?_
        rw [HF.out]
        exact ⟨A1, c1, rfl, of, hBf⟩
  · have HF := Lib.hid (show gc x y l = (0, 0, [], false) by unfold gc; rw [if_neg (by rw [hv]; simp)])
    rw [hv]
    clear hv X0
    have q1 : ∀ g, Value.ownBlock (.slice none 0 0) = some g → g ≠ w.heap.size + 1 := fun g hg => by simp [Value.ownBlock] at hg
    have of : Own ItemR.enc 2 32 (((w1.setCell ⟨w.heap.size + 1, 0, none⟩ (.int .i64 0)).setCell ⟨w.heap.size + 1, 1, none⟩ (.int .i64 0)).setCell ⟨w.heap.size + 1, 2, none⟩ (.slice none 0 0)) w.heap.size (.slice none 0 0) (([] : List ItemR)) :=
      ((((show Own ItemR.enc 2 32 w1 w.heap.size (.slice none 0 0) [] from ⟨by simp, World.ownsRow_nil _ _ _ _⟩)).set (p := ⟨w.heap.size + 1, 0, none⟩) q1 (.int .i64 0)).set (p := ⟨w.heap.size + 1, 1, none⟩) q1 (.int .i64 0)).set (p := ⟨w.heap.size + 1, 2, none⟩) q1 (.slice none 0 0)
    have hBf : Below w.heap.size w (((w1.setCell ⟨w.heap.size + 1, 0, none⟩ (.int .i64 0)).setCell ⟨w.heap.size + 1, 1, none⟩ (.int .i64 0)).setCell ⟨w.heap.size + 1, 2, none⟩ (.slice none 0 0)) :=
      (((B1).setCell (p := ⟨w.heap.size + 1, 0, none⟩) (by simp; try omega) (.int .i64 0)).setCell (p := ⟨w.heap.size + 1, 1, none⟩) (by simp; try omega) (.int .i64 0)).setCell (p := ⟨w.heap.size + 1, 2, none⟩) (by simp; try omega) (.slice none 0 0)
    have HX2 := R0
    obtain ⟨r0, r1, r2, rf, rl⟩ := HX2
    obtain ⟨e0, e1, e2, -, -⟩ := ((R0.set0 (.int .i64 0)).set1 (.int .i64 0)).set2 (.slice none 0 0)
    have He := Lib.hid (show _ ∧ _ ∧ _ from ⟨e0, e1, e2⟩)
    clear e0 e1 e2 q1
    go_wp2
    generalize (((w1.setCell ⟨w.heap.size + 1, 0, none⟩ (.int .i64 0)).setCell ⟨w.heap.size + 1, 1, none⟩ (.int .i64 0)).setCell ⟨w.heap.size + 1, 2, none⟩ (.slice none 0 0)) = wF at *
    have e := He.out
    (try simp only [Exit.inBlock, Exit.then])
    refine bodyPost_ret (by simp [results, Try.results22, go_sem, e.1, e.2.1, e.2.2]; try rfl) rfl ?_
    rw [HF.out]
    exact ⟨none, 0, rfl, of, hBf⟩
end Go.Proofs.Ytcpjidbinhfapab
