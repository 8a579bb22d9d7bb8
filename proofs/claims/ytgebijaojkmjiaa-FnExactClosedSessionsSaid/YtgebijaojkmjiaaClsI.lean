import Derived.Test.YtgebijaojkmjiaaClsS
namespace Go.Proofs.Ytgebijaojkmjiaa
open Go.RowKit
theorem window_any (x : SessionR) (w : World) : Calls Try.prog 116 #[.agg #[.int .i64 x.a0, .int .i64 x.a1, .int .i64 x.a2, .int .i64 x.a3]] w fun e w' => e = .returned (.agg #[.int .i64 x.a0, .int .i64 x.a1]) ∧ Below w.heap.size w w' := by
  go_enter Try.func116, Try.ntmps116
  go_wp2
  all_goals go_returns
  all_goals exact ⟨rfl, by go_grown⟩
theorem closedAt_any (a b mark : Int) (w : World) (h0 : -2000 ≤ b) (h1 : b ≤ 2000) : Calls Try.prog 117 #[.agg #[.int .i64 a, .int .i64 b], .int .i64 mark] w fun e w' => e = .returned (.bool (decide (b - 1 ≤ mark))) ∧ Below w.heap.size w w' := by
  go_enter Try.func117, Try.ntmps117
  go_wp2
  all_goals go_returns
  all_goals refine ⟨ret_bool ?_, by go_grown⟩
  all_goals first | rfl | (rw [Bool.eq_iff_iff]; simp; done) | (rw [Bool.eq_iff_iff]; simp; omega)
set_option maxRecDepth 100000 in
set_option maxHeartbeats 1000000 in
theorem clsC_any (A : Option Addr) (c : Nat) (l : List SessionR) (mark : Int) (i : Nat) (x : SessionR) (m1 m2 : Nat) (w : World) (ha : Row SessionR.enc 4 w A l) (hx : l[i]? = some x) (hv : vSes l = true)
    (h1 : w.cell? ⟨m1, 0, none⟩ = some (.slice A l.length c)) (h2 : w.cell? ⟨m2, 0, none⟩ = some (.int .i64 mark)) :
    Calls Try.prog 115 #[.int .i64 i, .pointer (some ⟨m1, 0, none⟩), .pointer (some ⟨m2, 0, none⟩)] w fun e w' => e = .returned (.bool (!clsP mark x)) ∧ Below w.heap.size w w' := by
  have hal := ha.1
  have hi : i < l.length := (List.getElem?_eq_some_iff.1 hx).1
  obtain ⟨x0, x1, x2, x3, -, -, -, -⟩ := ses_bd hv hx
  obtain ⟨b, off, rfl, hb, q0, q1, q2, q3⟩ := ha.atSession hi
  have hx' : l[i] = x := (List.getElem?_eq_some_iff.1 hx).2
  rw [hx'] at q0 q1 q2 q3
  have R0 := Bw.cellOf hb q0
  have R1 := Bw.cellOf hb q1
  have R2 := Bw.cellOf hb q2
  have R3 := Bw.cellOf hb q3
  have S1 := Bw.cellOf (cell_lt h1) h1
  have S2 := Bw.cellOf (cell_lt h2) h2
  have i0 : (0 : Int) ≤ (i : Int) := by omega
  have i1 : (i : Int) < (l.length : Int) := by omega
  have HP := Lib.hid (show clsP mark x = decide (x.a1 - 1 ≤ mark) from rfl)
  have hw2 := fun W => window_any x W
  clear hx hx' ha hv
  rcases Bool.eq_false_or_eq_true (decide (x.a1 - 1 ≤ mark)) with hd | hd
  all_goals
    have Hd := Lib.hid hd
    have hcl := fun W => closedAt_any x.a0 x.a1 mark W (by omega) (by omega)
    rw [hd] at hcl
    have Hcl := Lib.hid hcl
    clear hd hcl
    go_enter Try.func115, Try.ntmps115
    go_wp2
    refine wp_region_quiet_below (by kernel_rfl) (by kernel_rfl) ?_
    repeat (any_goals (go_big_quiet_step (first | (go_at_call 116; refine Calls.below_of (window_any x _)) | (go_at_call 117; refine Calls.below_of (Hcl.out _)))))
    refine wpQuiet_nil ?_
    intro w1 hb1
    go_wp2
    all_goals go_returns
    all_goals exact ⟨ret_bool (by rw [HP.out, Hd.out]; rfl), hb1⟩
theorem cloneSe_take (A : Option Addr) (c : Nat) (l : List SessionR) (k : Nat) (w : World) (ha : Row SessionR.enc 4 w A l) (hk : k ≤ l.length) :
    Calls Try.prog 118 #[.slice A k c] w (OwnPost SessionR.enc 4 133 w (l.take k)) := by
  have h := cloneSe_any A c (l.take k) w (ha.take k)
  have e : (l.take k).length = k := by rw [List.length_take]; omega
  rw [e] at h
  exact h
theorem cloneSe_drop (A : Option Addr) (c : Nat) (l : List SessionR) (k : Nat) (w : World) (ha : Row SessionR.enc 4 w A l) (hc : l.length ≤ c) :
    Calls Try.prog 118 #[.slice (dropA A c k 4) (l.length - k) (c - k)] w (OwnPost SessionR.enc 4 133 w (l.drop k)) := by
  have h := cloneSe_any _ (c - k) (l.drop k) w (ha.dropIf (p := k) hc)
  rw [List.length_drop] at h
  exact h
theorem cls_mono {l : List SessionR} (hv : vSes l = true) (mark : Int) : ∀ (i j : Nat) (x y : SessionR), i ≤ j → l[i]? = some x → l[j]? = some y → clsP mark y = true → clsP mark x = true := by
  have hp : l.Pairwise (fun x y => cmpSe x y < 0 ∧ x.a1 < y.a1) := by
    rw [List.pairwise_iff_getElem]
    intro i j hi hj hij
    have key : ∀ d (i j : Nat) (x y : SessionR), j = i + 1 + d → l[i]? = some x → l[j]? = some y → x.a1 ≤ y.a0 := by
      intro d
      induction d with
      | zero =>
        intro i j x y hj hx hy
        subst hj
        have hv' := hv
        unfold vSes at hv'
        rw [Bool.and_eq_true] at hv'
        exact (cmpSe_neg x y).1 ((asc_iff cmpSe l).1 hv'.2 i x y hx hy)
      | succ d ih =>
        intro i j x y hj hx hy
        have hjl := (List.getElem?_eq_some_iff.1 hy).1
        have hz : l[i + 1 + d]? = some l[i + 1 + d] := List.getElem?_eq_getElem (by omega)
        have h1 := ih i (i + 1 + d) x _ rfl hx hz
        have h2 : (l[i + 1 + d]).a1 ≤ y.a0 := by
          have hv' := hv
          unfold vSes at hv'
          rw [Bool.and_eq_true] at hv'
          exact (cmpSe_neg _ y).1 ((asc_iff cmpSe l).1 hv'.2 (i + 1 + d) _ y hz (by rw [show i + 1 + d + 1 = j by omega]; exact hy))
        have h3 := ses_bd hv hz
        omega
    have h := key (j - i - 1) i j _ _ (by omega) (List.getElem?_eq_getElem hi) (List.getElem?_eq_getElem hj)
    have hb := ses_bd hv (List.getElem?_eq_getElem hj)
    exact ⟨(cmpSe_neg _ _).2 h, by omega⟩
  intro i j x y hij hx hy h
  unfold clsP at h ⊢
  rw [decide_eq_true_eq] at h ⊢
  rcases Nat.lt_or_eq_of_le hij with hlt | rfl
  · have := (pw_get hp hlt hx hy).2
    omega
  · rw [hx] at hy
    injection hy with hy
    subst hy
    exact h
def clsN (l : List SessionR) (mark : Int) (i : Nat) : Bool := match l[i]? with | some x => !clsP mark x | none => true
theorem wmark_t (m : Int) (w : World) (h0 : -1 ≤ m) (h1 : m ≤ 1998) : Calls Try.prog 114 #[.int .i64 m] w fun e w' => e = .returned (.bool true) ∧ w = w' := by
  go_enter Try.func114, Try.ntmps114
  go_wp2_with (go_at_call 109; refine (inRI_t _ _ _ _ (by omega) (by omega)).mono ?_; rintro e w' ⟨rfl, rfl⟩)
  all_goals go_returns
  all_goals exact ⟨rfl, rfl⟩
theorem wmark_f (m : Int) (w : World) (h : ¬ (-1 ≤ m ∧ m ≤ 1998)) : Calls Try.prog 114 #[.int .i64 m] w fun e w' => e = .returned (.bool false) ∧ w = w' := by
  have H := Lib.hid h
  clear h
  go_enter Try.func114, Try.ntmps114
  go_wp2_with (go_at_call 109; refine (inRI_f _ _ _ _ H.out).mono ?_; rintro e w' ⟨rfl, rfl⟩)
  all_goals go_returns
  all_goals exact ⟨rfl, rfl⟩
set_option maxRecDepth 100000 in
set_option maxHeartbeats 4000000 in
theorem implCls_any (A : Option Addr) (c : Nat) (l : List SessionR) (mark : Int) (w : World) (ha : Row SessionR.enc 4 w A l) (hc : l.length ≤ c) :
    Calls Try.prog 66 #[.slice A l.length c, .int .i64 mark] w (Own2Post SessionR.enc 4 133 SessionR.enc 4 133 w (clsA l mark) (clsB l mark)) := by
  have hal := ha.1
  have hB : Below w.heap.size w ((w.alloc (.cells #[.slice A l.length c] 89)).alloc (.cells #[.int .i64 mark] 3)) := ((Below.refl _ _).alloc (Nat.le_refl _) _).alloc (by simp) _
  go_enter Try.func66, Try.ntmps66
  go_wp2_with fail
  refine (implSes_any A c l _ (ha.keep hB)).mono ?_
  rintro e w1 ⟨rfl, hb1⟩
  have c1 : w1.cell? ⟨w.heap.size, 0, none⟩ = some (.slice A l.length c) := (hb1.cell (by simp; omega)).trans (by simp [go_sem])
  have c2 : w1.cell? ⟨w.heap.size + 1, 0, none⟩ = some (.int .i64 mark) := (hb1.cell (by simp)).trans (by simp [go_sem])
  have hz : w.heap.size + 1 < w1.heap.size := by have := hb1.size; simp at this; omega
  have hbw := hB.trans (hb1.mono hB.size)
  clear hB hb1
  by_cases hv0 : clsV l mark
  · have hv := hv0.1
    have hmono := cls_mono hv mark
    have hfc := filter_cut hmono
    have HF := Lib.hid (show clsA l mark = l.take (cutN (clsP mark) l) ∧ clsB l mark = l.drop (cutN (clsP mark) l) by unfold clsA clsB; rw [if_pos hv0, if_pos hv0]; exact hfc)
    obtain ⟨-, m0, m1⟩ := hv0
    have hk := cutN_le (clsP mark) l
    have h0 : ∀ i, i < cutN (clsP mark) l → clsN l mark i = false := by
      intro i hi
      have hx : l[i]? = some l[i] := List.getElem?_eq_getElem (by omega)
      have := cutN_lt hi hx
      unfold clsN
      rw [hx]
      simp [this]
    have h1 : ∀ i, cutN (clsP mark) l ≤ i → i < l.length → clsN l mark i = true := by
      intro i hi hil
      have hx : l[i]? = some l[i] := List.getElem?_eq_getElem hil
      have := cutN_ge hmono hi hx
      unfold clsN
      rw [hx]
      simp [this]
    have hS := search_any 115 #[.pointer (some ⟨w.heap.size, 0, none⟩), .pointer (some ⟨w.heap.size + 1, 0, none⟩)] l.length (cutN (clsP mark) l) (clsN l mark) w1 (Go.Proofs.enters_of Try.func115 (by kernel_rfl) rfl) hal hk
      (fun i wr hi hb => by
        have hx : l[i]? = some l[i] := List.getElem?_eq_getElem hi
        have h := clsC_any A c l mark i l[i] w.heap.size (w.heap.size + 1) wr ((ha.keep hbw).keep hb) hx hv ((hb.cell (by show w.heap.size < w1.heap.size; omega)).trans c1) ((hb.cell hz).trans c2)
        have e : clsN l mark i = !clsP mark l[i] := by unfold clsN; rw [hx]
        rw [e]
        exact h) h0 h1
    have HS := Lib.hid hS
    rw [hv]
    generalize cutN (clsP mark) l = k at *
    clear hv hmono hfc h0 h1 hS
    go_wp2_with fail
    refine (wmark_t mark _ (by omega) (by omega)).mono ?_
    rintro e w' ⟨rfl, rfl⟩
    go_wp2_with fail
    refine HS.out.mono ?_
    rintro e w2 ⟨rfl, hb2⟩
    have c1' : w2.cell? ⟨w.heap.size, 0, none⟩ = some (.slice A l.length c) := (hb2.cell (by show w.heap.size < w1.heap.size; omega)).trans c1
    have hbw2 := hbw.trans (hb2.mono hbw.size)
    have hz2 : w.heap.size < w2.heap.size := by have := hb2.size; omega
    clear HS c1 c2 hb2 hbw hz
    have ha2 := Lib.hid (ha.keep hbw2)
    clear ha
    go_wp2_with fail
    have hD : (if c = k then A else Option.map (fun x => x.add (k * 4)) A) = dropA A c k 4 := rfl
    have i0 : (0 : Int) ≤ (k : Int) := by omega
    have i1 : (k : Int) ≤ (l.length : Int) := by omega
    have i2 : (k : Int) ≤ (c : Int) := by omega
    go_region_held3 (fun w' => w'.cell? ⟨w.heap.size, 0, none⟩ = some (.slice A l.length c) ∧ w2.heap.size + 0 ≤ w'.heap.size ∧ Below w2.heap.size w2 w') ((go_split_ands; (try have hz0 := b2.size); (try have hz1 := b1.size); (repeat' apply And.intro) <;> first | assumption | (simp only [World.cell?_drew]; assumption) | (simp only [World.size_drew]; omega) | omega | exact Below.drew (Below.refl _ _) | (refine (b2.cell (by first | omega | (simp; done) | (simp; omega))).trans ?_; first | assumption | (simp only [World.cell?_drew]; assumption)) | (refine Below.trans ?_ (b2.mono (by first | omega | (simp; done) | (simp; omega) | (exact Below.size (by assumption)))); first | assumption | exact Below.drew (Below.refl _ _)) | (refine (b1.cell (by first | omega | (simp; done) | (simp; omega))).trans ?_; first | assumption | (simp only [World.cell?_drew]; assumption)) | (refine Below.trans ?_ (b1.mono (by first | omega | (simp; done) | (simp; omega) | (exact Below.size (by assumption)))); first | assumption | exact Below.drew (Below.refl _ _)) | (go_keep; done))) (first | ((go_at_call 118; go_split_ands; refine (cloneSe_take A c l k _ (ha2.out.keep (by assumption)) hk).mono ?_; rintro e w3 ⟨A1, d1, rfl, o1, b1⟩)) | ((go_at_call 118; go_split_ands; refine (cloneSe_drop A c l k _ (ha2.out.keep (by assumption)) hc).mono ?_; rintro e w4 ⟨A2, d2, rfl, o2, b2⟩)))
    have ek : (l.take k).length = k := by rw [List.length_take]; omega
    have ed : (l.drop k).length = l.length - k := List.length_drop
    have hd := own_dis o1 o2
    rw [ek] at o1 hd
    rw [ed] at o2 hd
    have hb4 : Below w.heap.size w w4 := hbw2.trans ((‹_ ∧ _ ∧ Below w2.heap.size w2 w4›).2.2.mono hbw2.size)
    have A1' := own_acc (w := w) (o1.keep b2) (by have := hbw2.size; simp; omega) hb4
    have A2' := own_acc (w := w) o2 (by have := hbw2.size; omega) hb4
    have Hfin := Lib.hid (show _ ∧ _ ∧ _ from ⟨A1', A2', hd⟩)
    clear o1 o2 b1 b2 hd A1' A2' hb4 hD ek ed
    go_wp2
    all_goals go_returns
    all_goals (rw [HF.out.1, HF.out.2]; exact acc2 Hfin.out.1 Hfin.out.2.1 (by simp; omega) (by simp; omega) Hfin.out.2.2)
  · have HF := Lib.hid (show clsA l mark = [] ∧ clsB l mark = [] by unfold clsA clsB; rw [if_neg hv0, if_neg hv0]; exact ⟨rfl, rfl⟩)
    rcases Bool.eq_false_or_eq_true (vSes l) with h1 | h1
    · have Hm := Lib.hid (show ¬ (-1 ≤ mark ∧ mark ≤ 1998) from fun h => hv0 ⟨h1, h.1, h.2⟩)
      rw [h1]
      clear hv0 h1
      go_wp2_with fail
      refine (wmark_f mark _ Hm.out).mono ?_
      rintro e w' ⟨rfl, rfl⟩
      go_wp2
      all_goals go_returns
      all_goals (rw [HF.out.1, HF.out.2]; exact acc2 (acc_none _ _ _ hbw) (acc_none _ _ _ hbw) (by simp) (by simp) (fun g g' h _ => by simp [Value.ownBlock] at h))
    · rw [h1]
      clear hv0 h1
      go_wp2
      all_goals go_returns
      all_goals (rw [HF.out.1, HF.out.2]; exact acc2 (acc_none _ _ _ hbw) (acc_none _ _ _ hbw) (by simp) (by simp) (fun g g' h _ => by simp [Value.ownBlock] at h))
end Go.Proofs.Ytgebijaojkmjiaa
