import Derived.Test.YtjjjlpnbniofjaaDrF
namespace Go.Proofs.Ytjjjlpnbniofjaa
open Go.RowKit
set_option maxRecDepth 100000 in
set_option maxHeartbeats 4000000 in
theorem anyFiles_any (w : World) (R p : Nat) (h : Rd w R p) (hp : p + 20 ≤ 1000000000) : Calls Try.prog 70 #[.pointer (some ⟨R, 0, none⟩)] w (SpPost 101 20 w R p) := by
  have hR := rd_lt h
  obtain ⟨j0, hj0, hy0, hy1, hy2⟩ := info_parts IntR.zero_info
  have oe : Own IntR.enc 1 3 (w.alloc (.cells #[] 3)) w.heap.size (.slice (some ⟨w.heap.size, 0, none⟩) 0 0) [] := ⟨by simp, (acc_made IntR.enc 1 3 (Below.refl w.heap.size w)).1⟩
  have h0 := rd_alloc h (.cells #[] 3)
  have g0 := gr_alloc (gr_refl w R) (.cells #[] 3)
  go_enter Try.func70, Try.ntmps70
  go_wp2_with fail
  refine (pick_any 5 _ R p h0 (by omega) (by omega)).mono ?_
  rintro e w1 ⟨n, rfl, n0, n1, -, hr1, hg1, -⟩
  have n2 := n1 (by omega)
  obtain ⟨N, rfl⟩ := Int.eq_ofNat_of_zero_le n0
  have hN : N ≤ 4 := by omega
  have Ho := Lib.hid (show _ ∧ _ ∧ _ from ⟨hr1, gr_trans g0 hg1, own_gr oe hg1 hR⟩)
  clear h0 g0 oe hr1 hg1 n0 n1 n2
  go_wp2
  go_loopw [3, 4, 5] (fun v at_ n wr => ∃ (m p' : Nat) (a : Int) (A : Option Addr) (c : Nat) (l : List Int), m ≤ 4 ∧ n = .int .i64 m ∧ at_ = .int .i64 a ∧ 0 ≤ a ∧ a + 2 * m ≤ 8 ∧ v = .slice A l.length c ∧ p' + m ≤ p + 5 ∧ l.length + m ≤ 4 ∧ (∀ x ∈ l, -1 ≤ x ∧ x ≤ 100) ∧ Rd wr R p' ∧ Gr w wr R ∧ Own IntR.enc 1 3 wr w.heap.size (.slice A l.length c) l) (fun _ _ n _ => (intOf n).toNat)
  case atStart => exact ⟨N, p + 1, 0, _, _, [], hN, rfl, rfl, by omega, by omega, rfl, by omega, by simp; omega, by simp, Ho.out.1, Ho.out.2.1, Ho.out.2.2⟩
  case round =>
    obtain ⟨m, p', a, A, c, l, hm, rfl, rfl, ha0, ha8, rfl, hp', hl, hb, hr, hg, ho⟩ := hrel
    clear Ho
    have zw := hg.size
    have Hb := Lib.hid hb
    clear hb
    rcases m with _ | m
    · go_wp2_with fail
      refine (spoil_any _ R p' hr (by omega) A c l (ho.row IntR.enc_len) (by omega) Hb.out).mono ?_
      rintro e w4 ⟨A4, c4, l4, p4, rfl, r4, f4, n4, b4, hp4, hr4, hg4⟩
      have Hp := Lib.hid (show _ ∧ _ ∧ _ ∧ _ ∧ _ from ⟨r4, fr_mono f4 zw, b4, hr4, gr_trans hg hg4⟩)
      clear r4 f4 b4 hr4 hg4 hg hr ho
      go_wp2
      all_goals go_returns
      all_goals exact ⟨A4, c4, l4, p4, rfl, Hp.out.1, Hp.out.2.1, n4, Hp.out.2.2.1, by omega, Hp.out.2.2.2.1, Hp.out.2.2.2.2⟩
    · go_wp2_with fail
      refine (pick_any 3 _ R p' hr (by omega) (by omega)).mono ?_
      rintro e w4 ⟨q, rfl, q0, q1, -, hr4, hg4, -⟩
      have q2 := q1 (by omega)
      have o4 := own_gr ho hg4 hR
      have g4 := gr_trans hg hg4
      clear hr hg4 hg ho q1
      have hwr : IntKind.i64.wrap (a + q) = a + q := IntWalk.i64_in _ (by omega)
      have hbb : 0 ≤ a + q ∧ a + q ≤ 8 ∧ a + q + 2 * m ≤ 8 := by omega
      rcases l with _ | ⟨y0, l0⟩
      · have hown := o4.2
        have zw4 := g4.size
        go_wp2_with (first | (at_builtin; refine wpList_append_own _ rfl _ _ 29 rfl w.heap.size 3 j0 _ 1 8 Try.underlying29 hj0 hy0 hy1 hy2 rfl (by decide) _ _ _ rfl (hown.alloc _) ⟨w4.heap.size, 0, none⟩ 1 1 (IntR.enc (a + q)) rfl rfl ?c1 ?c2 ?c3 ?c4 ?c5 ?_) | fail)
        case c1 =>
          intro j u hu
          rcases j with _ | j <;> simp [IntR.enc] at hu <;> subst hu <;> simp [Addr.add, go_sem]
        case c2 => intro u hu; simp [IntR.enc] at hu; subst hu; rfl
        case c3 => unfold maxLen; omega
        case c4 => omega
        case c5 => simp; omega
        intro v' w5 hown' hg' _
        have bA : Below w4.heap.size w4 (w4.alloc (.cells #[.int .i64 (a + q)] 3)) := (Below.refl _ _).alloc (Nat.le_refl _) _
        have o5 : Own IntR.enc 1 3 w5 w.heap.size v' (([] : List Int) ++ [a + q]) := ⟨by first | (simp; done) | (simp; omega), by simpa using hown'⟩
        obtain ⟨A5, c5, rfl⟩ := o5.form
        have hlow := fun g hg => (hown.lt g hg).1
        have hr5 := rd_row hr4 bA hg' hlow hR
        have g5 := gr_row g4 bA hg' hlow
        have Hn := Lib.hid (show _ ∧ _ ∧ _ from ⟨hr5, g5, o5⟩)
        clear hr5 g5 o5 hown hown' hg' hlow hr4 g4 o4
        go_wp2
        go_roundw
        case rel => exact ⟨m, p' + 1, a + q, A5, c5, ([] : List Int) ++ [a + q], by omega, by go_num, rfl, by omega, by omega, by simp, by omega, by first | (simp; done) | (simp; omega) | (simp at hl ⊢; omega), (fun x hx => by rcases List.mem_append.1 hx with h | h; exact Hb.out x h; simp at h; omega), Hn.out.1, Hn.out.2.1, Hn.out.2.2⟩
        case measure => first | (simp [intOf]; done) | (simp [intOf]; omega)
      · obtain ⟨L, hL⟩ : ∃ L, L = y0 :: l0 := ⟨_, rfl⟩
        have hpos : 0 < L.length := by rw [hL]; simp
        rw [← hL] at o4 hl Hb ⊢
        clear hL
        have hz0 : ((L.length : Int) == 0) = false := by rw [beq_eq_false_iff_ne]; omega
        obtain ⟨bk, off, rfl, hblt, q0c⟩ := (o4.row IntR.enc_len).atInt (i := L.length - 1) (by omega)
        have hi : IntKind.i64.wrap ((L.length : Int) - 1) = ((L.length - 1 : Nat) : Int) := (IntWalk.i64_in _ (by omega)).trans (by omega)
        generalize L[L.length - 1] = y at *
        have i0 : (0 : Int) ≤ ((L.length - 1 : Nat) : Int) := by omega
        have i1 : ((L.length - 1 : Nat) : Int) < (L.length : Int) := by omega
        have i2 : ((L.length - 1 : Nat) : Int).toNat = L.length - 1 := by omega
        have zw4 := g4.size
        by_cases hc : y < a + q
        · have hown := o4.2
          go_wp2_with (first | (at_builtin; refine wpList_append_own _ rfl _ _ 29 rfl w.heap.size 3 j0 _ 1 8 Try.underlying29 hj0 hy0 hy1 hy2 rfl (by decide) _ _ _ rfl (hown.alloc _) ⟨w4.heap.size, 0, none⟩ 1 1 (IntR.enc (a + q)) rfl rfl ?c1 ?c2 ?c3 ?c4 ?c5 ?_) | fail)
          case c1 =>
            intro j u hu
            rcases j with _ | j <;> simp [IntR.enc] at hu <;> subst hu <;> simp [Addr.add, go_sem]
          case c2 => intro u hu; simp [IntR.enc] at hu; subst hu; rfl
          case c3 => unfold maxLen; omega
          case c4 => omega
          case c5 => simp; omega
          intro v' w5 hown' hg' _
          have bA : Below w4.heap.size w4 (w4.alloc (.cells #[.int .i64 (a + q)] 3)) := (Below.refl _ _).alloc (Nat.le_refl _) _
          have o5 : Own IntR.enc 1 3 w5 w.heap.size v' (L ++ [a + q]) := ⟨by first | (simp; done) | (simp; omega), by simpa using hown'⟩
          obtain ⟨A5, c5, rfl⟩ := o5.form
          have hlow := fun g hg => (hown.lt g hg).1
          have hr5 := rd_row hr4 bA hg' hlow hR
          have g5 := gr_row g4 bA hg' hlow
          have Hn := Lib.hid (show _ ∧ _ ∧ _ from ⟨hr5, g5, o5⟩)
          clear hr5 g5 o5 hown hown' hg' hlow hr4 g4 o4
          go_wp2
          go_roundw
          case rel => exact ⟨m, p' + 1, a + q, A5, c5, L ++ [a + q], by omega, by go_num, rfl, by omega, by omega, by simp, by omega, by first | (simp; done) | (simp; omega) | (simp at hl ⊢; omega), (fun x hx => by rcases List.mem_append.1 hx with h | h; exact Hb.out x h; simp at h; omega), Hn.out.1, Hn.out.2.1, Hn.out.2.2⟩
          case measure => first | (simp [intOf]; done) | (simp [intOf]; omega)
        · have Hn := Lib.hid (show _ ∧ _ ∧ _ from ⟨hr4, g4, o4⟩)
          clear hr4 g4 o4
          go_wp2
          go_roundw
          case rel => exact ⟨m, p' + 1, a + q, _, c, L, by omega, by go_num, rfl, by omega, by omega, rfl, by omega, by omega, Hb.out, Hn.out.1, Hn.out.2.1, Hn.out.2.2⟩
          case measure => first | (simp [intOf]; done) | (simp [intOf]; omega)
theorem flat_set2 (x : FileRefR) : ∀ (l : List FileRefR), 0 < l.length → ((l.flatMap FileRefR.enc).set 0 (.int .i64 x.a0)).set 1 (.int .i64 x.a1) = (l.set 0 x).flatMap FileRefR.enc
  | [], h => by simp at h
  | y :: l, _ => by rw [List.flatMap_cons, List.set_cons_zero, List.flatMap_cons]; rfl
theorem own_put2 {T B : Nat} {w : World} {g c : Nat} {l : List FileRefR} (h : Own FileRefR.enc 2 T w B (.slice (some ⟨g, 0, none⟩) l.length c) l) (hl : 0 < l.length) (x : FileRefR) :
    Own FileRefR.enc 2 T ((w.setCell ⟨g, 0, none⟩ (.int .i64 x.a0)).setCell ⟨g, 1, none⟩ (.int .i64 x.a1)) B (.slice (some ⟨g, 0, none⟩) (l.set 0 x).length c) (l.set 0 x) := by
  obtain ⟨h1, h2⟩ := h
  obtain ⟨s1, -⟩ := h2.stored 0 (.int .i64 x.a0)
  obtain ⟨s2, -⟩ := s1.stored 1 (.int .i64 x.a1)
  rw [flat_set2 x l hl] at s2
  exact ⟨by simpa using h1, by simpa using s2⟩
def RfPost (w : World) (R p : Nat) (e : Ending) (w' : World) : Prop :=
  ∃ (A : Option Addr) (c : Nat) (l : List FileRefR) (p' : Nat), e = .returned (.slice A l.length c) ∧ Own FileRefR.enc 2 67 w' w.heap.size (.slice A l.length c) l ∧ l.length ≤ 100 ∧ (∀ x ∈ l, -1 ≤ x.a0 ∧ x.a0 ≤ 100) ∧ p' ≤ p + 120 ∧ Rd w' R p' ∧ Gr w w' R
theorem rgF_len (l : List FileRefR) (fs : List Int) : (rgF l fs).length ≤ 100 := by
  unfold rgF; split
  · exact cntU_len _ _
  · simp
theorem rgF_bd {l : List FileRefR} {fs : List Int} {x : FileRefR} (h : x ∈ rgF l fs) : -1 ≤ x.a0 ∧ x.a0 ≤ 100 := by
  unfold rgF at h; split at h
  · have := mem_cnt.1 h; omega
  · simp at h
set_option maxRecDepth 100000 in
set_option maxHeartbeats 4000000 in
theorem anyRefs_any (w : World) (R p : Nat) (h : Rd w R p) (hp : p + 120 ≤ 1000000000) : Calls Try.prog 67 #[.pointer (some ⟨R, 0, none⟩)] w (RfPost w R p) := by
  have hR := rd_lt h
  have oe : Own FileRefR.enc 2 67 (w.alloc (.cells #[] 67)) w.heap.size (.slice (some ⟨w.heap.size, 0, none⟩) 0 0) [] := ⟨by simp, (acc_made FileRefR.enc 2 67 (Below.refl w.heap.size w)).1⟩
  have h0 := rd_alloc h (.cells #[] 67)
  have g0 := gr_alloc (gr_refl w R) (.cells #[] 67)
  go_enter Try.func67, Try.ntmps67
  go_wp2_with fail
  refine (pick_any 5 _ R p h0 (by omega) (by omega)).mono ?_
  rintro e w1 ⟨n, rfl, n0, n1, -, hr1, hg1, -⟩
  have n2 := n1 (by omega)
  obtain ⟨N, rfl⟩ := Int.eq_ofNat_of_zero_le n0
  have hN : N ≤ 4 := by omega
  have Ho := Lib.hid (show _ ∧ _ ∧ _ from ⟨hr1, gr_trans g0 hg1, own_gr oe hg1 hR⟩)
  clear h0 g0 oe hr1 hg1 n0 n1 n2
  go_wp2
  go_loopw [3, 4] (fun v n wr => ∃ (m p' : Nat) (A : Option Addr) (c : Nat) (l : List FileRefR), m ≤ 4 ∧ n = .int .i64 m ∧ v = .slice A l.length c ∧ p' + 21 * m ≤ p + 100 ∧ l.length ≤ 100 ∧ (∀ x ∈ l, -1 ≤ x.a0 ∧ x.a0 ≤ 100) ∧ Rd wr R p' ∧ Gr w wr R ∧ Own FileRefR.enc 2 67 wr w.heap.size (.slice A l.length c) l) (fun _ n _ => (intOf n).toNat)
  case atStart => exact ⟨N, p + 1, _, _, [], hN, rfl, rfl, by omega, by simp, by simp, Ho.out.1, Ho.out.2.1, Ho.out.2.2⟩
  case round =>
    obtain ⟨m, p', A, c, l, hm, rfl, rfl, hp', hl, hb, hr, hg, ho⟩ := hrel
    clear Ho
    have zw := hg.size
    have Hb := Lib.hid hb
    clear hb
    rcases m with _ | m
    · rcases l with _ | ⟨y0, l0⟩
      · have Hp := Lib.hid (show _ ∧ _ ∧ _ from ⟨hr, hg, ho⟩)
        clear hr hg ho
        go_wp2
        all_goals go_returns
        all_goals exact ⟨A, c, [], p', rfl, Hp.out.2.2, by simp, by simp, by omega, Hp.out.1, Hp.out.2.1⟩
      · obtain ⟨L, hL⟩ : ∃ L, L = y0 :: l0 := ⟨_, rfl⟩
        have hpos : 0 < L.length := by rw [hL]; simp
        rw [← hL] at ho hl Hb ⊢
        clear hL
        have hpos2 : decide ((0 : Int) < (L.length : Int)) = true := by rw [decide_eq_true_eq]; omega
        go_wp2_with fail
        refine (pick_any 16 _ R p' hr (by omega) (by omega)).mono ?_
        rintro e w4 ⟨v, rfl, v0, v1, -, hr4, hg4, -⟩
        have o4 := own_gr ho hg4 hR
        have g4 := gr_trans hg hg4
        have zw4 := g4.size
        clear hr hg4 ho hg
        rcases (show v = 0 ∨ v ≠ 0 by omega) with hv | hv
        · subst hv
          have o5 := o4.keep (alloc_below w4 (.cells #[.int .i64 (-1), .int .i64 0, .int .i64 99, .int .i64 100] 3))
          have g5 := gr_alloc g4 (.cells #[.int .i64 (-1), .int .i64 0, .int .i64 99, .int .i64 100] 3)
          have hr5 := rd_alloc hr4 (.cells #[.int .i64 (-1), .int .i64 0, .int .i64 99, .int .i64 100] 3)
          have bl := heap_alloc_new w4 (.cells #[.int .i64 (-1), .int .i64 0, .int .i64 99, .int .i64 100] 3)
          have hRw4 := rd_lt hr4
          clear o4 g4 hr4
          go_wp2_with fail
          refine (oneL_any [-1, 0, 99, 100] _ R (p' + 1) 4 hr5 (by omega) (w4.heap.size) _ bl rfl rfl (by omega) (by omega) (by omega)).mono ?_
          rintro e w6 ⟨q, q_m, rfl, hr6, hg6⟩
          have q_b : -1 ≤ q ∧ q ≤ 100 := by simp at q_m; omega
          have o6 := own_gr o5 hg6 hR
          have g6 := gr_trans g5 hg6
          clear o5 g5 hr5 bl hg6 q_m
          have o7 := o6.keep (alloc_below w6 (.cells #[.int .i64 0, .int .i64 1, .int .i64 999, .int .i64 1000] 3))
          have g7 := gr_alloc g6 (.cells #[.int .i64 0, .int .i64 1, .int .i64 999, .int .i64 1000] 3)
          have hr7 := rd_alloc hr6 (.cells #[.int .i64 0, .int .i64 1, .int .i64 999, .int .i64 1000] 3)
          have bl := heap_alloc_new w6 (.cells #[.int .i64 0, .int .i64 1, .int .i64 999, .int .i64 1000] 3)
          have hRw6 := rd_lt hr6
          clear o6 g6 hr6
          go_wp2_with fail
          refine (oneL_any [0, 1, 999, 1000] _ R (p' + 1 + 1) 4 hr7 (by omega) (w6.heap.size) _ bl rfl rfl (by omega) (by omega) (by omega)).mono ?_
          rintro e w8 ⟨r, r_m, rfl, hr8, hg8⟩
          have o8 := own_gr o7 hg8 hR
          have g8 := gr_trans g7 hg8
          clear o7 g7 hr7 bl hg8 r_m
          obtain ⟨g, cap, hv, hgb, hglt⟩ := o8.2.form (by omega)
          injection hv with hA _ hc
          subst hA hc
          have ho1 := o8.2
          have hfl := flat_len FileRefR.enc_len L
          have c0 : w8.cell? ⟨g, 0, none⟩ = some ((L.flatMap FileRefR.enc)[0]'(by omega)) := by rw [ho1.cellAt 0 (by omega)]; exact List.getElem?_eq_getElem _
          have f0 := ho1.frozenAt 0
          have c1 : w8.cell? ⟨g, 1, none⟩ = some ((L.flatMap FileRefR.enc)[1]'(by omega)) := by rw [ho1.cellAt 1 (by omega)]; exact List.getElem?_eq_getElem _
          have f1 := ho1.frozenAt 1
          have hgR : R < g := by omega
          have o9 := own_put2 o8 hpos ⟨q, r⟩
          have Hp := Lib.hid (show _ ∧ _ ∧ _ from ⟨rd_setCell (a := ⟨g, 1, none⟩) (rd_setCell (a := ⟨g, 0, none⟩) hr8 hgR (.int .i64 q)) hgR (.int .i64 r), gr_setCell (p := ⟨g, 1, none⟩) (gr_setCell (p := ⟨g, 0, none⟩) g8 hgb (.int .i64 q)) hgb (.int .i64 r), o9⟩)
          clear ho1 hr8 g8 o8 o9
          go_wp2
          all_goals go_returns
          all_goals exact ⟨some ⟨g, 0, none⟩, c, L.set 0 ⟨q, r⟩, p' + 1 + 1 + 1, by simp, Hp.out.2.2, by simpa using hl, (fun x hx => by rcases List.mem_or_eq_of_mem_set hx with h | h; exact Hb.out x h; rw [h]; exact q_b), by omega, Hp.out.1, Hp.out.2.1⟩
        · have e0 : (v == 0) = false := by simp [hv]
          have Hp := Lib.hid (show _ ∧ _ ∧ _ from ⟨hr4, g4, o4⟩)
          clear hr4 g4 o4
          go_wp2
          all_goals go_returns
          all_goals exact ⟨A, c, L, p' + 1, rfl, Hp.out.2.2, hl, Hb.out, by omega, Hp.out.1, Hp.out.2.1⟩
    · go_wp2_with fail
      refine (anyFiles_any _ R p' hr (by omega)).mono ?_
      rintro e w4 ⟨A4, c4, fs, p2, rfl, r4, f4, n4, b4, hp2, hr4, hg4⟩
      have o4 := own_gr ho hg4 hR
      have g4 := gr_trans hg hg4
      clear hr hg4 ho hg
      go_wp2_with fail
      refine (specRg_any A c l A4 c4 fs _ (o4.row FileRefR.enc_len) r4).mono ?_
      rintro e w5 ⟨A5, c5, rfl, o5, b5⟩
      have hr5 := rd_below hr4 b5
      have g5 := gr_below g4 b5
      have o6 := o4.keep b5
      have o7 := own_rebase (B := w.heap.size) o5 g4.size
      clear hr4 g4 o4 o5 b5 r4 f4 b4
      rcases Bool.eq_false_or_eq_true (rgK l fs) with hk | hk
      · have Hn := Lib.hid (show _ ∧ _ ∧ _ from ⟨hr5, g5, o7⟩)
        have hlen := rgF_len l fs
        rw [hk]
        clear hk hr5 g5 o6 o7
        go_wp2
        go_roundw
        case rel => exact ⟨m, p2, A5, c5, _, by omega, by go_num, rfl, by omega, hlen, fun x hx => rgF_bd hx, Hn.out.1, Hn.out.2.1, Hn.out.2.2⟩
        case measure => first | (simp [intOf]; done) | (simp [intOf]; omega)
      · have Hn := Lib.hid (show _ ∧ _ ∧ _ from ⟨hr5, g5, o6⟩)
        rw [hk]
        clear hk hr5 g5 o6 o7
        go_wp2
        go_roundw
        case rel => exact ⟨m, p2, A, c, l, by omega, by go_num, rfl, by omega, hl, Hb.out, Hn.out.1, Hn.out.2.1, Hn.out.2.2⟩
        case measure => first | (simp [intOf]; done) | (simp [intOf]; omega)
end Go.Proofs.Ytjjjlpnbniofjaa
