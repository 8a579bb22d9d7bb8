import Derived.Test.YtcpjidbinhfapabChT0
import Derived.Deep.DeepCutAuto
namespace Go.Proofs.Ytcpjidbinhfapab
open Go.RowKit
theorem copyD_any (A : Option Addr) (c : Nat) (l : List ItemR) (w : World) (ha : Row ItemR.enc 2 w A l) (hc : l.length ≤ c) :
    Calls Try.prog 50 #[.slice (dropA A c 1 2) (l.length - 1) (c - 1)] w (OwnPost ItemR.enc 2 32 w l.tail) := by
  have h := copyS_any (dropA A c 1 2) (c - 1) (l.drop 1) w (ha.dropIf hc)
  rw [List.length_drop, List.drop_one] at h
  exact h
theorem ownB {B : Nat} {s : Value} (h : s = .slice none 0 0) : ∀ g, s.ownBlock = some g → B ≤ g := by subst h; intro g hg; simp [Value.ownBlock] at hg
set_option maxRecDepth 100000 in
set_option maxHeartbeats 8000000 in
theorem specTk_any (x y : Int) (A : Option Addr) (c : Nat) (l : List ItemR) (w : World) (ha : Row ItemR.enc 2 w A l) (hc : l.length ≤ c) : Calls Try.prog 19 #[.agg #[.int .i64 x, .int .i64 y, .slice A l.length c]] w (ChIBPost w (tkX x y l) (tkY x y l) (tkL x y l) (tkI x y l) (tkK x y l)) := by
  have hal := ha.1
  have X0 := ((Bx.made w (.int .i64 x) (.int .i64 y) (.slice A l.length c) 26).keep ((Below.refl _ _).alloc (Nat.le_refl _) (.cells #[.int .i64 0, .int .i64 0, .slice none 0 0] 26))).keep ((Below.refl _ _).alloc (Nat.le_refl _) (.cells #[.int .i64 0, .int .i64 0] 32))
  have R0 := (Bx.made (w.alloc (.cells #[.int .i64 x, .int .i64 y, .slice A l.length c] 26)) (.int .i64 0) (.int .i64 0) (.slice none 0 0) 26).keep ((Below.refl _ _).alloc (Nat.le_refl _) (.cells #[.int .i64 0, .int .i64 0] 32))
  have J0 := B2x.made ((w.alloc (.cells #[.int .i64 x, .int .i64 y, .slice A l.length c] 26)).alloc (.cells #[.int .i64 0, .int .i64 0, .slice none 0 0] 26)) (.int .i64 0) (.int .i64 0) 32
  have hB : Below w.heap.size w (((w.alloc (.cells #[.int .i64 x, .int .i64 y, .slice A l.length c] 26)).alloc (.cells #[.int .i64 0, .int .i64 0, .slice none 0 0] 26)).alloc (.cells #[.int .i64 0, .int .i64 0] 32)) := (((Below.refl _ _).alloc (Nat.le_refl _) _).alloc (by simp) _).alloc (by simp; omega) _
  have hz : (((w.alloc (.cells #[.int .i64 x, .int .i64 y, .slice A l.length c] 26)).alloc (.cells #[.int .i64 0, .int .i64 0, .slice none 0 0] 26)).alloc (.cells #[.int .i64 0, .int .i64 0] 32)).heap.size = w.heap.size + 3 := by simp
  simp only [World.size_alloc] at R0 J0
  have hX0 := X0
  obtain ⟨p0, p1, p2, pf, pl⟩ := hX0
  go_enter Try.func19, Try.ntmps19
  go_wp2_with fail
  clear p0 p1 p2 pf pl
  generalize (((w.alloc (.cells #[.int .i64 x, .int .i64 y, .slice A l.length c] 26)).alloc (.cells #[.int .i64 0, .int .i64 0, .slice none 0 0] 26)).alloc (.cells #[.int .i64 0, .int .i64 0] 32)) = wA at *
  refine (specVC_any x y A c l _ (ha.keep hB)).mono ?_
  rintro e w1 ⟨rfl, b1⟩
  replace X0 := X0.keep b1
  replace R0 := R0.keep b1
  replace J0 := J0.keep b1
  have B1 := hB.trans (b1.mono hB.size)
  have z1 := b1.size
  clear b1 hB
  rcases Bool.eq_false_or_eq_true (chB x y l) with hv | hv
  · have h8 := chB_len hv
    have HF := Lib.hid (show tkX x y l = x ∧ tkY x y l = y ∧ tkL x y l = l.tail ∧ tkI x y l = l.headD ⟨0, 0⟩ ∧ tkK x y l = !l.isEmpty by unfold tkX tkY tkL tkI tkK; rw [hv]; simp)
    rw [hv]
    clear hv
    have hX0 := X0
    obtain ⟨p0, p1, p2, pf, pl⟩ := hX0
    go_wp2_with fail
    have zz : w1.heap.size ≤ w1.heap.size := Nat.le_refl _
    go_cut [5] (fun s6 wx => ∃ (G : Nat) (A1 : Option Addr) (c1 : Nat), s6 = .pointer (some ⟨G, 0, none⟩) ∧ Mid ItemR.enc 2 32 w1 wx G (.int .i64 x) (.int .i64 y) (.slice A1 l.length c1) l)
    case first =>
      go_region_held3 (fun w' => w'.cell? ⟨w.heap.size, 0, none⟩ = some (.int .i64 x) ∧ w'.cell? ⟨w.heap.size, 1, none⟩ = some (.int .i64 y) ∧ w'.cell? ⟨w.heap.size, 2, none⟩ = some (.slice A l.length c) ∧ w1.heap.size ≤ w'.heap.size ∧ Below w.heap.size w w') (((repeat' apply And.intro) <;> first | (with_reducible assumption) | (simp only [World.cell?_drew]; with_reducible assumption) | (simp only [World.size_drew]; assumption) | (exact Below.drew (by assumption)) | (go_keep; done) | (simp [go_sem, *]; done) | (simp [World.setCell]; omega) | ((repeat (refine Below.setCell ?_ (by first | (simp; done) | (simp; omega)) _)); assumption) | go_grown)) ((go_at_call 50; go_split_ands; refine (copyS_any A c l _ (ha.keep (by assumption))).mono ?_; rintro e wC ⟨A1, c1, rfl, o1, b3⟩; have z3 : w1.heap.size ≤ wC.heap.size := Nat.le_trans (by assumption) b3.size; have K3 : Below w.heap.size w wC := Below.trans (by assumption) (b3.mono (by first | omega | (simp; omega))); have k0 : wC.cell? ⟨w.heap.size, 0, none⟩ = some (.int .i64 x) := (b3.cell (by first | omega | (simp; omega))).trans (by assumption); have k1 : wC.cell? ⟨w.heap.size, 1, none⟩ = some (.int .i64 y) := (b3.cell (by first | omega | (simp; omega))).trans (by assumption); have k2 : wC.cell? ⟨w.heap.size, 2, none⟩ = some (.slice A l.length c) := (b3.cell (by first | omega | (simp; omega))).trans (by assumption); (first | ((first | have hN := made3d b3 | have hN := made3 b3); obtain ⟨n0, n1, n2, nf, nl⟩ := hN; (try simp only [World.size_drew] at n0 n1 n2 nf nl)) | skip)))
      all_goals
        go_wp2_with fail
        go_meet
        first
          | exact ⟨_, A1, c1, rfl, midA (.int .i64 x) (.int .i64 y) 26 b3 o1⟩
          | exact ⟨_, A1, c1, rfl, midB (.int .i64 x) (.int .i64 y) b3 o1⟩
    case rest =>
      obtain ⟨G, A1, c1, rfl, HM⟩ := hcut
      generalize wc = wM at *
      obtain ⟨bM, N0, zG, oM, qM⟩ := HM
      have zM := bM.size
      have B3 := B1.trans (bM.mono B1.size)
      have X1 := X0.keep bM
      have R1 := R0.keep bM
      have J1 := J0.keep bM
      have o2 := own_rebase (B := w.heap.size) oM (by omega)
      have q0 : ∀ g, Value.ownBlock (.slice A1 l.length c1) = some g → w.heap.size + 3 ≤ g := fun g hg => by have := qM g hg; omega
      have hGl : G < wM.heap.size := N0.2.2.2.2
      clear oM qM bM p0 p1 p2 pf pl X0 R0 J0
      have hX1 := X1
      obtain ⟨p0, p1, p2, pf, pl⟩ := hX1
      by_cases hl : l = []
      · have hT : l.tail = l := by rw [hl]; rfl
        have hI : l.headD ⟨0, 0⟩ = ⟨0, 0⟩ := by rw [hl]; rfl
        have hE : (!l.isEmpty) = false := by rw [hl]; rfl
        have HG := Lib.hid (show tkX x y l = x ∧ tkY x y l = y ∧ tkL x y l = l ∧ tkI x y l = ⟨0, 0⟩ ∧ tkK x y l = false from ⟨HF.out.1, HF.out.2.1, HF.out.2.2.1.trans hT, HF.out.2.2.2.1.trans hI, HF.out.2.2.2.2.trans hE⟩)
        have hl0 : ((l.length : Int) == 0) = true := by rw [hl]; rfl
        clear hl hT hI hE
        obtain ⟨n0, n1, n2, nf, nl⟩ := N0
        have q1 : ∀ g, Value.ownBlock (.slice A1 l.length c1) = some g → g ≠ w.heap.size + 1 := fun g hg => by have := q0 g hg; omega
        have q2 : ∀ g, Value.ownBlock (.slice A1 l.length c1) = some g → g ≠ w.heap.size + 1 + 1 := fun g hg => by have := q0 g hg; omega
        have of : Own ItemR.enc 2 32 (((((wM.setCell ⟨w.heap.size + 1, 0, none⟩ (.int .i64 x)).setCell ⟨w.heap.size + 1, 1, none⟩ (.int .i64 y)).setCell ⟨w.heap.size + 1, 2, none⟩ (.slice A1 l.length c1)).setCell ⟨w.heap.size + 1 + 1, 0, none⟩ (.int .i64 0)).setCell ⟨w.heap.size + 1 + 1, 1, none⟩ (.int .i64 0)) w.heap.size (.slice A1 l.length c1) (l) :=
          ((((o2.set (p := ⟨w.heap.size + 1, 0, none⟩) q1 (.int .i64 x)).set (p := ⟨w.heap.size + 1, 1, none⟩) q1 (.int .i64 y)).set (p := ⟨w.heap.size + 1, 2, none⟩) q1 (.slice A1 l.length c1)).set (p := ⟨w.heap.size + 1 + 1, 0, none⟩) q2 (.int .i64 0)).set (p := ⟨w.heap.size + 1 + 1, 1, none⟩) q2 (.int .i64 0)
        have hBf : Below w.heap.size w (((((wM.setCell ⟨w.heap.size + 1, 0, none⟩ (.int .i64 x)).setCell ⟨w.heap.size + 1, 1, none⟩ (.int .i64 y)).setCell ⟨w.heap.size + 1, 2, none⟩ (.slice A1 l.length c1)).setCell ⟨w.heap.size + 1 + 1, 0, none⟩ (.int .i64 0)).setCell ⟨w.heap.size + 1 + 1, 1, none⟩ (.int .i64 0)) :=
          (((((B3).setCell (p := ⟨w.heap.size + 1, 0, none⟩) (by simp; try omega) (.int .i64 x)).setCell (p := ⟨w.heap.size + 1, 1, none⟩) (by simp; try omega) (.int .i64 y)).setCell (p := ⟨w.heap.size + 1, 2, none⟩) (by simp; try omega) (.slice A1 l.length c1)).setCell (p := ⟨w.heap.size + 1 + 1, 0, none⟩) (by simp; try omega) (.int .i64 0)).setCell (p := ⟨w.heap.size + 1 + 1, 1, none⟩) (by simp; try omega) (.int .i64 0)
        have HX2 := R1
        obtain ⟨r0, r1, r2, rf, rl⟩ := HX2
        have HJ2 := J1
        obtain ⟨j0, j1, jf, jl⟩ := HJ2
        obtain ⟨e0, e1, e2, -, -⟩ := ((((R1.set0 (.int .i64 x)).set1 (.int .i64 y)).set2 (.slice A1 l.length c1)).set_far (p := ⟨w.heap.size + 1 + 1, 0, none⟩) (by simp; try omega) (.int .i64 0)).set_far (p := ⟨w.heap.size + 1 + 1, 1, none⟩) (by simp; try omega) (.int .i64 0)
        obtain ⟨f0, f1, -, -⟩ := (((J1.set_far (p := ⟨w.heap.size + 1, 0, none⟩) (by simp; try omega) (.int .i64 x)).set_far (p := ⟨w.heap.size + 1, 1, none⟩) (by simp; try omega) (.int .i64 y)).set_far (p := ⟨w.heap.size + 1, 2, none⟩) (by simp; try omega) (.slice A1 l.length c1)).set0 (.int .i64 0) (.int .i64 0)
        have He := Lib.hid (show _ ∧ _ ∧ _ ∧ _ ∧ _ from ⟨e0, e1, e2, f0, f1⟩)
        clear e0 e1 e2 f0 f1 q1 q2
        go_wp2
        generalize (((((wM.setCell ⟨w.heap.size + 1, 0, none⟩ (.int .i64 x)).setCell ⟨w.heap.size + 1, 1, none⟩ (.int .i64 y)).setCell ⟨w.heap.size + 1, 2, none⟩ (.slice A1 l.length c1)).setCell ⟨w.heap.size + 1 + 1, 0, none⟩ (.int .i64 0)).setCell ⟨w.heap.size + 1 + 1, 1, none⟩ (.int .i64 0)) = wF at *
        have e := He.out
        (try simp only [Exit.inBlock, Exit.then])
        refine bodyPost_ret (by simp [results, Try.results19, go_sem, e.1, e.2.1, e.2.2.1, e.2.2.2.1, e.2.2.2.2]; try rfl) rfl ?_
        rw [HG.out.1, HG.out.2.1, HG.out.2.2.1, HG.out.2.2.2.1, HG.out.2.2.2.2]
        first | exact ⟨_, _, rfl, of, hBf⟩ | exact ⟨_, _, rfl, of.keep (Below.refl _ _).drew, hBf.drew⟩
      · have hpos : 0 < l.length := List.length_pos_iff.2 hl
        have hl0 : ((l.length : Int) == 0) = false := by simp; omega
        have hi1 : (1 : Int) ≤ (l.length : Int) := by omega
        have hi0 : (0 : Int) < (l.length : Int) := by omega
        have hi2 : (1 : Int) ≤ (c : Int) := by omega
        obtain ⟨b, off, hA, hb, q0', q1'⟩ := ha.atItem hpos
        have hI : l.headD ⟨0, 0⟩ = l[0] := by
          rcases l with _ | ⟨h, tl⟩
          · simp at hpos
          · rfl
        have hE : (!l.isEmpty) = true := by
          rcases l with _ | ⟨h, tl⟩
          · simp at hpos
          · rfl
        generalize l[0] = h at *
        have HG := Lib.hid (show tkX x y l = x ∧ tkY x y l = y ∧ tkL x y l = l.tail ∧ tkI x y l = h ∧ tkK x y l = true from ⟨HF.out.1, HF.out.2.1, HF.out.2.2.1, HF.out.2.2.2.1.trans hI, HF.out.2.2.2.2.trans hE⟩)
        clear hI hE hl
        obtain ⟨T, hT⟩ : ∃ T, T = l.tail := ⟨_, rfl⟩
        rw [← hT] at HG
        have hTl : T.length ≤ 8 := by rw [hT]; simp; omega
        have hrow := ha.keep B3
        have hC := copyD_any A c l wM hrow hc
        rw [← hT] at hC
        clear hT
        subst hA
        have hb' : b < wM.heap.size := Nat.lt_of_lt_of_le hb B3.size
        have a0 := (B3.cell (p := ⟨b, off + 0 * 2, none⟩) hb).trans q0'
        have a1 := (B3.cell (p := ⟨b, off + 0 * 2 + 1, none⟩) hb).trans q1'
        simp only [Nat.zero_mul, Nat.add_zero] at a0 a1
        clear q0' q1' hrow o2
        by_cases hc1 : c = 1
        · have hD : dropA (some ⟨b, off, none⟩) c 1 2 = some ⟨b, off, none⟩ := by unfold dropA; rw [if_pos hc1]
          rw [hD] at hC
          clear hD
          have e0 : c - 1 = 0 := by omega
          rw [e0] at hC
          clear e0
          go_wp2_with fail
          refine hC.mono ?_
          rintro e w6 ⟨A2, c2, rfl, o6, b6⟩
          clear hC
          have N1 := N0.keep b6
          have R2 := R1.keep b6
          have J2 := J1.keep b6
          have X2 := X1.keep b6
          have B6 := B3.trans (b6.mono B3.size)
          have q6 : ∀ g, Value.ownBlock (.slice A2 T.length c2) = some g → wM.heap.size ≤ g := fun g hg => (o6.lt g hg).1
          have z6 := b6.size
          have o7 := (own_rebase (B := w.heap.size) o6 (by omega)).set (p := ⟨G, 2, none⟩) (fun g hg => by have := q6 g hg; simp; omega) (.slice A2 T.length c2)
          have N2 := N1.set2 (.slice A2 T.length c2)
          have R3 := R2.set_far (p := ⟨G, 2, none⟩) (by simp; omega) (.slice A2 T.length c2)
          have J3 := J2.set_far (p := ⟨G, 2, none⟩) (by simp; omega) (.slice A2 T.length c2)
          have X3 := X2.set_far (p := ⟨G, 2, none⟩) (by simp; omega) (.slice A2 T.length c2)
          have B7 := B6.setCell (p := ⟨G, 2, none⟩) (by simp; omega) (.slice A2 T.length c2)
          have d0 := (World.cell?_setCell_other w6 ⟨G, 2, none⟩ ⟨b, off, none⟩ (.slice A2 T.length c2) (by intro e; injection e with e1; omega)).trans ((b6.cell (p := ⟨b, off, none⟩) hb').trans a0)
          have d1 := (World.cell?_setCell_other w6 ⟨G, 2, none⟩ ⟨b, off + 1, none⟩ (.slice A2 T.length c2) (by intro e; injection e with e1; omega)).trans ((b6.cell (p := ⟨b, off + 1, none⟩) hb').trans a1)
          obtain ⟨n0, n1, n2, nf, nl⟩ := N1
          clear p0 p1 p2 pf pl
          go_wp2_with fail
          generalize (w6.setCell ⟨G, 2, none⟩ (.slice A2 T.length c2)) = w7 at *
          clear N0 X1 X2 R1 R2 J1 J2 b6 n0 n1 n2 nf nl a0 a1 o6
          have q8 : ∀ g, Value.ownBlock (.slice A2 T.length c2) = some g → w.heap.size + 3 ≤ g := fun g hg => by have := q6 g hg; omega
          obtain ⟨n0, n1, n2, nf, nl⟩ := N2
          obtain ⟨p0, p1, p2, pf, pl⟩ := X3
          have hR := R3
          obtain ⟨r0, r1, r2, rf, rl⟩ := hR
          have hJ := J3
          obtain ⟨j0, j1, jf, jl⟩ := hJ
          have zz7 : w7.heap.size ≤ w7.heap.size := Nat.le_refl _
          have i3 : (0 : Int) ≤ 0 := by omega
          go_region_held3 (fun w' => w'.cell? ⟨G, 0, none⟩ = some (.int .i64 x) ∧ w'.cell? ⟨G, 1, none⟩ = some (.int .i64 y) ∧ w'.cell? ⟨G, 2, none⟩ = some (.slice A2 T.length c2) ∧ w'.cell? ⟨w.heap.size, 2, none⟩ = some (.slice (some ⟨b, off, none⟩) l.length c) ∧ w'.cell? ⟨b, off, none⟩ = some (.int .i64 h.a0) ∧ w'.cell? ⟨b, off + 1, none⟩ = some (.int .i64 h.a1)) (((repeat' apply And.intro) <;> first | (with_reducible assumption) | (simp only [World.cell?_drew]; with_reducible assumption) | (simp [go_sem, *]; done) | (go_keep; done))) (fail)
          rename_i hHeld
          clear hHeld
          have q1 : ∀ g, Value.ownBlock (.slice A2 T.length c2) = some g → g ≠ w.heap.size + 1 := fun g hg => by have := q8 g hg; omega
          have q2 : ∀ g, Value.ownBlock (.slice A2 T.length c2) = some g → g ≠ w.heap.size + 1 + 1 := fun g hg => by have := q8 g hg; omega
          have of : Own ItemR.enc 2 32 (((((w7.setCell ⟨w.heap.size + 1, 0, none⟩ (.int .i64 x)).setCell ⟨w.heap.size + 1, 1, none⟩ (.int .i64 y)).setCell ⟨w.heap.size + 1, 2, none⟩ (.slice A2 T.length c2)).setCell ⟨w.heap.size + 1 + 1, 0, none⟩ (.int .i64 h.a0)).setCell ⟨w.heap.size + 1 + 1, 1, none⟩ (.int .i64 h.a1)) w.heap.size (.slice A2 T.length c2) (T) :=
            ((((o7.set (p := ⟨w.heap.size + 1, 0, none⟩) q1 (.int .i64 x)).set (p := ⟨w.heap.size + 1, 1, none⟩) q1 (.int .i64 y)).set (p := ⟨w.heap.size + 1, 2, none⟩) q1 (.slice A2 T.length c2)).set (p := ⟨w.heap.size + 1 + 1, 0, none⟩) q2 (.int .i64 h.a0)).set (p := ⟨w.heap.size + 1 + 1, 1, none⟩) q2 (.int .i64 h.a1)
          have hBf : Below w.heap.size w (((((w7.setCell ⟨w.heap.size + 1, 0, none⟩ (.int .i64 x)).setCell ⟨w.heap.size + 1, 1, none⟩ (.int .i64 y)).setCell ⟨w.heap.size + 1, 2, none⟩ (.slice A2 T.length c2)).setCell ⟨w.heap.size + 1 + 1, 0, none⟩ (.int .i64 h.a0)).setCell ⟨w.heap.size + 1 + 1, 1, none⟩ (.int .i64 h.a1)) :=
            (((((B7).setCell (p := ⟨w.heap.size + 1, 0, none⟩) (by simp; try omega) (.int .i64 x)).setCell (p := ⟨w.heap.size + 1, 1, none⟩) (by simp; try omega) (.int .i64 y)).setCell (p := ⟨w.heap.size + 1, 2, none⟩) (by simp; try omega) (.slice A2 T.length c2)).setCell (p := ⟨w.heap.size + 1 + 1, 0, none⟩) (by simp; try omega) (.int .i64 h.a0)).setCell (p := ⟨w.heap.size + 1 + 1, 1, none⟩) (by simp; try omega) (.int .i64 h.a1)
          have HX2 := R3
          obtain ⟨r0, r1, r2, rf, rl⟩ := HX2
          have HJ2 := J3
          obtain ⟨j0, j1, jf, jl⟩ := HJ2
          obtain ⟨e0, e1, e2, -, -⟩ := ((((R3.set0 (.int .i64 x)).set1 (.int .i64 y)).set2 (.slice A2 T.length c2)).set_far (p := ⟨w.heap.size + 1 + 1, 0, none⟩) (by simp; try omega) (.int .i64 h.a0)).set_far (p := ⟨w.heap.size + 1 + 1, 1, none⟩) (by simp; try omega) (.int .i64 h.a1)
          obtain ⟨f0, f1, -, -⟩ := (((J3.set_far (p := ⟨w.heap.size + 1, 0, none⟩) (by simp; try omega) (.int .i64 x)).set_far (p := ⟨w.heap.size + 1, 1, none⟩) (by simp; try omega) (.int .i64 y)).set_far (p := ⟨w.heap.size + 1, 2, none⟩) (by simp; try omega) (.slice A2 T.length c2)).set0 (.int .i64 h.a0) (.int .i64 h.a1)
          have He := Lib.hid (show _ ∧ _ ∧ _ ∧ _ ∧ _ from ⟨e0, e1, e2, f0, f1⟩)
          clear e0 e1 e2 f0 f1 q1 q2
          go_wp2
          generalize (((((w7.setCell ⟨w.heap.size + 1, 0, none⟩ (.int .i64 x)).setCell ⟨w.heap.size + 1, 1, none⟩ (.int .i64 y)).setCell ⟨w.heap.size + 1, 2, none⟩ (.slice A2 T.length c2)).setCell ⟨w.heap.size + 1 + 1, 0, none⟩ (.int .i64 h.a0)).setCell ⟨w.heap.size + 1 + 1, 1, none⟩ (.int .i64 h.a1)) = wF at *
          have e := He.out
          (try simp only [Exit.inBlock, Exit.then])
          refine bodyPost_ret (by simp [results, Try.results19, go_sem, e.1, e.2.1, e.2.2.1, e.2.2.2.1, e.2.2.2.2]; try rfl) rfl ?_
          rw [HG.out.1, HG.out.2.1, HG.out.2.2.1, HG.out.2.2.2.1, HG.out.2.2.2.2]
          first | exact ⟨_, _, rfl, of, hBf⟩ | exact ⟨_, _, rfl, of.keep (Below.refl _ _).drew, hBf.drew⟩
        · have hD : dropA (some ⟨b, off, none⟩) c 1 2 = some ⟨b, off + 2, none⟩ := by unfold dropA; rw [if_neg hc1]; simp [Addr.add]
          rw [hD] at hC
          clear hD
          go_wp2_with fail
          refine hC.mono ?_
          rintro e w6 ⟨A2, c2, rfl, o6, b6⟩
          clear hC
          have N1 := N0.keep b6
          have R2 := R1.keep b6
          have J2 := J1.keep b6
          have X2 := X1.keep b6
          have B6 := B3.trans (b6.mono B3.size)
          have q6 : ∀ g, Value.ownBlock (.slice A2 T.length c2) = some g → wM.heap.size ≤ g := fun g hg => (o6.lt g hg).1
          have z6 := b6.size
          have o7 := (own_rebase (B := w.heap.size) o6 (by omega)).set (p := ⟨G, 2, none⟩) (fun g hg => by have := q6 g hg; simp; omega) (.slice A2 T.length c2)
          have N2 := N1.set2 (.slice A2 T.length c2)
          have R3 := R2.set_far (p := ⟨G, 2, none⟩) (by simp; omega) (.slice A2 T.length c2)
          have J3 := J2.set_far (p := ⟨G, 2, none⟩) (by simp; omega) (.slice A2 T.length c2)
          have X3 := X2.set_far (p := ⟨G, 2, none⟩) (by simp; omega) (.slice A2 T.length c2)
          have B7 := B6.setCell (p := ⟨G, 2, none⟩) (by simp; omega) (.slice A2 T.length c2)
          have d0 := (World.cell?_setCell_other w6 ⟨G, 2, none⟩ ⟨b, off, none⟩ (.slice A2 T.length c2) (by intro e; injection e with e1; omega)).trans ((b6.cell (p := ⟨b, off, none⟩) hb').trans a0)
          have d1 := (World.cell?_setCell_other w6 ⟨G, 2, none⟩ ⟨b, off + 1, none⟩ (.slice A2 T.length c2) (by intro e; injection e with e1; omega)).trans ((b6.cell (p := ⟨b, off + 1, none⟩) hb').trans a1)
          obtain ⟨n0, n1, n2, nf, nl⟩ := N1
          clear p0 p1 p2 pf pl
          go_wp2_with fail
          generalize (w6.setCell ⟨G, 2, none⟩ (.slice A2 T.length c2)) = w7 at *
          clear N0 X1 X2 R1 R2 J1 J2 b6 n0 n1 n2 nf nl a0 a1 o6
          have q8 : ∀ g, Value.ownBlock (.slice A2 T.length c2) = some g → w.heap.size + 3 ≤ g := fun g hg => by have := q6 g hg; omega
          obtain ⟨n0, n1, n2, nf, nl⟩ := N2
          obtain ⟨p0, p1, p2, pf, pl⟩ := X3
          have hR := R3
          obtain ⟨r0, r1, r2, rf, rl⟩ := hR
          have hJ := J3
          obtain ⟨j0, j1, jf, jl⟩ := hJ
          have zz7 : w7.heap.size ≤ w7.heap.size := Nat.le_refl _
          have i3 : (0 : Int) ≤ 0 := by omega
          go_region_held3 (fun w' => w'.cell? ⟨G, 0, none⟩ = some (.int .i64 x) ∧ w'.cell? ⟨G, 1, none⟩ = some (.int .i64 y) ∧ w'.cell? ⟨G, 2, none⟩ = some (.slice A2 T.length c2) ∧ w'.cell? ⟨w.heap.size, 2, none⟩ = some (.slice (some ⟨b, off, none⟩) l.length c) ∧ w'.cell? ⟨b, off, none⟩ = some (.int .i64 h.a0) ∧ w'.cell? ⟨b, off + 1, none⟩ = some (.int .i64 h.a1)) (((repeat' apply And.intro) <;> first | (with_reducible assumption) | (simp only [World.cell?_drew]; with_reducible assumption) | (simp [go_sem, *]; done) | (go_keep; done))) (fail)
          rename_i hHeld
          clear hHeld
          have q1 : ∀ g, Value.ownBlock (.slice A2 T.length c2) = some g → g ≠ w.heap.size + 1 := fun g hg => by have := q8 g hg; omega
          have q2 : ∀ g, Value.ownBlock (.slice A2 T.length c2) = some g → g ≠ w.heap.size + 1 + 1 := fun g hg => by have := q8 g hg; omega
          have of : Own ItemR.enc 2 32 (((((w7.setCell ⟨w.heap.size + 1, 0, none⟩ (.int .i64 x)).setCell ⟨w.heap.size + 1, 1, none⟩ (.int .i64 y)).setCell ⟨w.heap.size + 1, 2, none⟩ (.slice A2 T.length c2)).setCell ⟨w.heap.size + 1 + 1, 0, none⟩ (.int .i64 h.a0)).setCell ⟨w.heap.size + 1 + 1, 1, none⟩ (.int .i64 h.a1)) w.heap.size (.slice A2 T.length c2) (T) :=
            ((((o7.set (p := ⟨w.heap.size + 1, 0, none⟩) q1 (.int .i64 x)).set (p := ⟨w.heap.size + 1, 1, none⟩) q1 (.int .i64 y)).set (p := ⟨w.heap.size + 1, 2, none⟩) q1 (.slice A2 T.length c2)).set (p := ⟨w.heap.size + 1 + 1, 0, none⟩) q2 (.int .i64 h.a0)).set (p := ⟨w.heap.size + 1 + 1, 1, none⟩) q2 (.int .i64 h.a1)
          have hBf : Below w.heap.size w (((((w7.setCell ⟨w.heap.size + 1, 0, none⟩ (.int .i64 x)).setCell ⟨w.heap.size + 1, 1, none⟩ (.int .i64 y)).setCell ⟨w.heap.size + 1, 2, none⟩ (.slice A2 T.length c2)).setCell ⟨w.heap.size + 1 + 1, 0, none⟩ (.int .i64 h.a0)).setCell ⟨w.heap.size + 1 + 1, 1, none⟩ (.int .i64 h.a1)) :=
            (((((B7).setCell (p := ⟨w.heap.size + 1, 0, none⟩) (by simp; try omega) (.int .i64 x)).setCell (p := ⟨w.heap.size + 1, 1, none⟩) (by simp; try omega) (.int .i64 y)).setCell (p := ⟨w.heap.size + 1, 2, none⟩) (by simp; try omega) (.slice A2 T.length c2)).setCell (p := ⟨w.heap.size + 1 + 1, 0, none⟩) (by simp; try omega) (.int .i64 h.a0)).setCell (p := ⟨w.heap.size + 1 + 1, 1, none⟩) (by simp; try omega) (.int .i64 h.a1)
          have HX2 := R3
          obtain ⟨r0, r1, r2, rf, rl⟩ := HX2
          have HJ2 := J3
          obtain ⟨j0, j1, jf, jl⟩ := HJ2
          obtain ⟨e0, e1, e2, -, -⟩ := ((((R3.set0 (.int .i64 x)).set1 (.int .i64 y)).set2 (.slice A2 T.length c2)).set_far (p := ⟨w.heap.size + 1 + 1, 0, none⟩) (by simp; try omega) (.int .i64 h.a0)).set_far (p := ⟨w.heap.size + 1 + 1, 1, none⟩) (by simp; try omega) (.int .i64 h.a1)
          obtain ⟨f0, f1, -, -⟩ := (((J3.set_far (p := ⟨w.heap.size + 1, 0, none⟩) (by simp; try omega) (.int .i64 x)).set_far (p := ⟨w.heap.size + 1, 1, none⟩) (by simp; try omega) (.int .i64 y)).set_far (p := ⟨w.heap.size + 1, 2, none⟩) (by simp; try omega) (.slice A2 T.length c2)).set0 (.int .i64 h.a0) (.int .i64 h.a1)
          have He := Lib.hid (show _ ∧ _ ∧ _ ∧ _ ∧ _ from ⟨e0, e1, e2, f0, f1⟩)
          clear e0 e1 e2 f0 f1 q1 q2
          go_wp2
          generalize (((((w7.setCell ⟨w.heap.size + 1, 0, none⟩ (.int .i64 x)).setCell ⟨w.heap.size + 1, 1, none⟩ (.int .i64 y)).setCell ⟨w.heap.size + 1, 2, none⟩ (.slice A2 T.length c2)).setCell ⟨w.heap.size + 1 + 1, 0, none⟩ (.int .i64 h.a0)).setCell ⟨w.heap.size + 1 + 1, 1, none⟩ (.int .i64 h.a1)) = wF at *
          have e := He.out
          (try simp only [Exit.inBlock, Exit.then])
          refine bodyPost_ret (by simp [results, Try.results19, go_sem, e.1, e.2.1, e.2.2.1, e.2.2.2.1, e.2.2.2.2]; try rfl) rfl ?_
          rw [HG.out.1, HG.out.2.1, HG.out.2.2.1, HG.out.2.2.2.1, HG.out.2.2.2.2]
          first | exact ⟨_, _, rfl, of, hBf⟩ | exact ⟨_, _, rfl, of.keep (Below.refl _ _).drew, hBf.drew⟩
  · have HF := Lib.hid (show tkX x y l = 0 ∧ tkY x y l = 0 ∧ tkL x y l = [] ∧ tkI x y l = ⟨0, 0⟩ ∧ tkK x y l = false by unfold tkX tkY tkL tkI tkK; rw [hv]; simp)
    rw [hv]
    clear hv X0
    have qn : ∀ g, Value.ownBlock (.slice none 0 0) = some g → w.heap.size + 3 ≤ g := ownB rfl
    have on : Own ItemR.enc 2 32 w1 w.heap.size (.slice none 0 0) [] := ⟨by simp, World.ownsRow_nil _ _ _ _⟩
    have q1 : ∀ g, Value.ownBlock (.slice none 0 0) = some g → g ≠ w.heap.size + 1 := fun g hg => by have := qn g hg; omega
    have q2 : ∀ g, Value.ownBlock (.slice none 0 0) = some g → g ≠ w.heap.size + 1 + 1 := fun g hg => by have := qn g hg; omega
    have of : Own ItemR.enc 2 32 (((((w1.setCell ⟨w.heap.size + 1, 0, none⟩ (.int .i64 0)).setCell ⟨w.heap.size + 1, 1, none⟩ (.int .i64 0)).setCell ⟨w.heap.size + 1, 2, none⟩ (.slice none 0 0)).setCell ⟨w.heap.size + 1 + 1, 0, none⟩ (.int .i64 0)).setCell ⟨w.heap.size + 1 + 1, 1, none⟩ (.int .i64 0)) w.heap.size (.slice none 0 0) (([] : List ItemR)) :=
      ((((on.set (p := ⟨w.heap.size + 1, 0, none⟩) q1 (.int .i64 0)).set (p := ⟨w.heap.size + 1, 1, none⟩) q1 (.int .i64 0)).set (p := ⟨w.heap.size + 1, 2, none⟩) q1 (.slice none 0 0)).set (p := ⟨w.heap.size + 1 + 1, 0, none⟩) q2 (.int .i64 0)).set (p := ⟨w.heap.size + 1 + 1, 1, none⟩) q2 (.int .i64 0)
    have hBf : Below w.heap.size w (((((w1.setCell ⟨w.heap.size + 1, 0, none⟩ (.int .i64 0)).setCell ⟨w.heap.size + 1, 1, none⟩ (.int .i64 0)).setCell ⟨w.heap.size + 1, 2, none⟩ (.slice none 0 0)).setCell ⟨w.heap.size + 1 + 1, 0, none⟩ (.int .i64 0)).setCell ⟨w.heap.size + 1 + 1, 1, none⟩ (.int .i64 0)) :=
      (((((B1).setCell (p := ⟨w.heap.size + 1, 0, none⟩) (by simp; try omega) (.int .i64 0)).setCell (p := ⟨w.heap.size + 1, 1, none⟩) (by simp; try omega) (.int .i64 0)).setCell (p := ⟨w.heap.size + 1, 2, none⟩) (by simp; try omega) (.slice none 0 0)).setCell (p := ⟨w.heap.size + 1 + 1, 0, none⟩) (by simp; try omega) (.int .i64 0)).setCell (p := ⟨w.heap.size + 1 + 1, 1, none⟩) (by simp; try omega) (.int .i64 0)
    have HX2 := R0
    obtain ⟨r0, r1, r2, rf, rl⟩ := HX2
    have HJ2 := J0
    obtain ⟨j0, j1, jf, jl⟩ := HJ2
    obtain ⟨e0, e1, e2, -, -⟩ := ((((R0.set0 (.int .i64 0)).set1 (.int .i64 0)).set2 (.slice none 0 0)).set_far (p := ⟨w.heap.size + 1 + 1, 0, none⟩) (by simp; try omega) (.int .i64 0)).set_far (p := ⟨w.heap.size + 1 + 1, 1, none⟩) (by simp; try omega) (.int .i64 0)
    obtain ⟨f0, f1, -, -⟩ := (((J0.set_far (p := ⟨w.heap.size + 1, 0, none⟩) (by simp; try omega) (.int .i64 0)).set_far (p := ⟨w.heap.size + 1, 1, none⟩) (by simp; try omega) (.int .i64 0)).set_far (p := ⟨w.heap.size + 1, 2, none⟩) (by simp; try omega) (.slice none 0 0)).set0 (.int .i64 0) (.int .i64 0)
    have He := Lib.hid (show _ ∧ _ ∧ _ ∧ _ ∧ _ from ⟨e0, e1, e2, f0, f1⟩)
    clear e0 e1 e2 f0 f1 q1 q2
    go_wp2
    generalize (((((w1.setCell ⟨w.heap.size + 1, 0, none⟩ (.int .i64 0)).setCell ⟨w.heap.size + 1, 1, none⟩ (.int .i64 0)).setCell ⟨w.heap.size + 1, 2, none⟩ (.slice none 0 0)).setCell ⟨w.heap.size + 1 + 1, 0, none⟩ (.int .i64 0)).setCell ⟨w.heap.size + 1 + 1, 1, none⟩ (.int .i64 0)) = wF at *
    have e := He.out
    (try simp only [Exit.inBlock, Exit.then])
    refine bodyPost_ret (by simp [results, Try.results19, go_sem, e.1, e.2.1, e.2.2.1, e.2.2.2.1, e.2.2.2.2]; try rfl) rfl ?_
    rw [HF.out.1, HF.out.2.1, HF.out.2.2.1, HF.out.2.2.2.1, HF.out.2.2.2.2]
    first | exact ⟨_, _, rfl, of, hBf⟩ | exact ⟨_, _, rfl, of.keep (Below.refl _ _).drew, hBf.drew⟩
end Go.Proofs.Ytcpjidbinhfapab
