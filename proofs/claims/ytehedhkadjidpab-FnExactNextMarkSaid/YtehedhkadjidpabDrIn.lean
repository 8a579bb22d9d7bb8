import Derived.Test.YtehedhkadjidpabTyInput
import Derived.Test.YtehedhkadjidpabDrL
import Derived.Test.YtehedhkadjidpabApp
import Derived.IntWalk
import Derived.Laws.OwnMore
namespace Go.Proofs.Ytehedhkadjidpab
open Go.RowKit
theorem gr_row {a w w1 w' : World} {R : Nat} {row : Option Nat} (h : Gr a w R) (hb : Below w.heap.size w w1) (hg : w1.grownBy w' row) (hr : ∀ g, row = some g → a.heap.size ≤ g) : Gr a w' R := by
  have h1 := gr_below h hb
  exact ⟨hg.os.trans h1.os, hg.tape.trans h1.tape, hg.output.trans h1.output, Nat.le_trans h1.size hg.size, fun i hi hne => (hg.block i (Nat.lt_of_lt_of_le hi h1.size) (fun e => by have := hr i e.symm; omega)).trans (h1.block i hi hne)⟩
theorem rd_row {a w w1 w' : World} {R p : Nat} {row : Option Nat} (h : Rd w R p) (hb : Below w.heap.size w w1) (hg : w1.grownBy w' row) (hr : ∀ g, row = some g → a.heap.size ≤ g) (hR : R < a.heap.size) : Rd w' R p := by
  have h1 := rd_below h hb
  have hlt := rd_lt h1
  exact rd_keep h1 (fun k hk => hg.block k (by omega) (fun e => by have := hr k e.symm; omega))
theorem flat_set2 {α : Type} {enc : α → List Value} (hk : ∀ x, (enc x).length = 2) {x : α} {u0 u1 : Value} (he : enc x = [u0, u1]) : ∀ (l : List α), 0 < l.length →
    ((l.flatMap enc).set 0 u0).set 1 u1 = (l.set 0 x).flatMap enc
  | [], hi => by simp at hi
  | y :: l, _ => by
    have h3 := hk y
    rcases hy : enc y with _ | ⟨a, _ | ⟨b, _ | ⟨c, m⟩⟩⟩ <;> rw [hy] at h3 <;> simp at h3
    rw [List.flatMap_cons, hy, List.set_cons_zero, List.flatMap_cons, he]
    simp
theorem own_put2 {α : Type} {enc : α → List Value} (hk : ∀ x, (enc x).length = 2) {T B : Nat} {w : World} {g c : Nat} {l : List α} (h : Own enc 2 T w B (.slice (some ⟨g, 0, none⟩) l.length c) l) (hi : 0 < l.length) {x : α} {u0 u1 : Value} (he : enc x = [u0, u1]) :
    Own enc 2 T ((w.setCell ⟨g, 0, none⟩ u0).setCell ⟨g, 1, none⟩ u1) B (.slice (some ⟨g, 0, none⟩) (l.set 0 x).length c) (l.set 0 x) := by
  obtain ⟨h1, h2⟩ := h
  obtain ⟨s1, -⟩ := h2.stored 0 u0
  obtain ⟨s2, -⟩ := s1.stored 1 u1
  rw [flat_set2 hk he l hi] at s2
  exact ⟨by simpa using h1, by simpa using s2⟩
set_option maxRecDepth 100000 in
set_option maxHeartbeats 4000000 in
theorem anyInputs_any (w : World) (R p : Nat) (h : Rd w R p) (hp : p + 16 ≤ 1000000000) : Calls Try.prog 45 #[.pointer (some ⟨R, 0, none⟩)] w (ListPost InputR.enc 2 33 5 16 w R p) := by
  obtain ⟨i0, hi0, hz0, hz1, hz2⟩ := info_parts InputR.zero_info
  have hR := rd_lt h
  have g1 := gr_refl w R
  have hr2 := h
  have oe : Own InputR.enc 2 33 (w.alloc (.cells #[] 33)) w.heap.size (.slice (some ⟨w.heap.size, 0, none⟩) 0 0) [] := ⟨by simp, (acc_made InputR.enc 2 33 (Below.refl w.heap.size w)).1⟩
  have b3 := heap_alloc_new w (.cells #[] 33)
  have hr4 := rd_alloc hr2 (.cells #[] 33)
  have g5 := gr_alloc g1 (.cells #[] 33)
  clear hr2 g1
  go_enter Try.func45, Try.ntmps45
  have o6 := oe.keep (alloc_below _ (.cells #[.int .i64 2, .int .i64 3, .int .i64 1, .int .i64 4, .int .i64 2, .int .i64 0, .int .i64 5] 3))
  clear oe
  have b7 := alloc_blk (.cells #[.int .i64 2, .int .i64 3, .int .i64 1, .int .i64 4, .int .i64 2, .int .i64 0, .int .i64 5] 3) b3
  have b8 := heap_alloc_new (w.alloc (.cells #[] 33)) (.cells #[.int .i64 2, .int .i64 3, .int .i64 1, .int .i64 4, .int .i64 2, .int .i64 0, .int .i64 5] 3)
  have z9 : (w.alloc (.cells #[] 33)).heap.size = w.heap.size + 1 := by simp
  rw [z9] at b8
  have hr10 := rd_alloc hr4 (.cells #[.int .i64 2, .int .i64 3, .int .i64 1, .int .i64 4, .int .i64 2, .int .i64 0, .int .i64 5] 3)
  have g11 := gr_alloc g5 (.cells #[.int .i64 2, .int .i64 3, .int .i64 1, .int .i64 4, .int .i64 2, .int .i64 0, .int .i64 5] 3)
  clear b3 z9 hr4 g5
  go_wp2_with fail
  refine (oneL_any [2, 3, 1, 4, 2, 0, 5] _ R (p) 7 hr10 (by omega) (w.heap.size + 1) _ b8 rfl rfl (by omega) (by omega) (by omega)).mono ?_
  rintro e w1 ⟨n, n_m, rfl, hr12, hg13⟩
  have zs_w1 := hg13.size
  have o18 := own_gr o6 hg13 (by omega)
  clear o6
  have b14 := gr_blk hg13 b7 (by omega)
  have g15 := gr_trans g11 hg13
  have lt16 := rd_lt hr12
  have lt17 := blk_lt b14
  clear hg13 hr10 g11 b7
  have n_b : 0 ≤ n ∧ n ≤ 5 := by simp at n_m; omega
  clear n_m
  clear b8
  have Ho := Lib.hid (show _ ∧ _ ∧ _ from ⟨hr12, g15, o18⟩)
  clear hr12 g15 o18 b14
  obtain ⟨N, rfl⟩ := Int.eq_ofNat_of_zero_le n_b.1
  have hN : N ≤ 5 := by omega
  go_wp2
  go_loopw [3, 4] (fun v n wr => ∃ (m p' : Nat) (A : Option Addr) (c : Nat) (l : List InputR), m ≤ 5 ∧ n = .int .i64 m ∧ v = .slice A l.length c ∧ p' + 2 * m ≤ p + 11 ∧ l.length + m ≤ 5 ∧ Rd wr R p' ∧ Gr w wr R ∧ Own InputR.enc 2 33 wr w.heap.size (.slice A l.length c) l) (fun _ n _ => (intOf n).toNat)
  case atStart => exact ⟨N, p + 1, _, _, [], hN, rfl, rfl, by omega, by simp; omega, Ho.out.1, Ho.out.2.1, Ho.out.2.2⟩
  case round =>
    obtain ⟨m, p', A, c, l, hm, rfl, rfl, hp', hl, hr, hg, ho⟩ := hrel
    clear Ho
    have zw := hg.size
    rcases m with _ | m
    · rcases l with _ | ⟨y0, l0⟩
      · have Hp := Lib.hid (show _ ∧ _ ∧ _ from ⟨hr, hg, ho⟩)
        clear hr hg ho
        go_wp2
        all_goals go_returns
        all_goals exact ⟨A, c, [], p', rfl, Hp.out.2.2, by simp, by omega, Hp.out.1, Hp.out.2.1⟩
      · obtain ⟨L, hL⟩ : ∃ L, L = y0 :: l0 := ⟨_, rfl⟩
        have hpos : 0 < L.length := by rw [hL]; simp
        rw [← hL] at ho hl ⊢
        clear hL
        have hpos2 : decide ((0 : Int) < (L.length : Int)) = true := by simp; omega
        go_wp2_with fail
        refine (pick_any 16 _ R (p') hr (by omega) (by omega)).mono ?_
        rintro e w2 ⟨v, rfl, v_0, v_1, -, hr41, hg42, -⟩
        have zs_w2 := hg42.size
        have o45 := own_gr ho hg42 (by omega)
        clear ho
        have g43 := gr_trans hg hg42
        have lt44 := rd_lt hr41
        clear hg42 hr hg
        have v_2 := v_1 (by omega)
        rcases (show v = 0 ∨ v ≠ 0 by omega) with hv | hv
        · subst hv
          have o46 := o45.keep (alloc_below _ (.cells #[.int .i64 (-2), .int .i64 (-1), .int .i64 999, .int .i64 1000] 3))
          clear o45
          have b47 := heap_alloc_new w2 (.cells #[.int .i64 (-2), .int .i64 (-1), .int .i64 999, .int .i64 1000] 3)
          have hr48 := rd_alloc hr41 (.cells #[.int .i64 (-2), .int .i64 (-1), .int .i64 999, .int .i64 1000] 3)
          have g49 := gr_alloc g43 (.cells #[.int .i64 (-2), .int .i64 (-1), .int .i64 999, .int .i64 1000] 3)
          clear hr41 g43
          go_wp2_with fail
          refine (oneL_any [-2, -1, 999, 1000] _ R (p' + 1) 4 hr48 (by omega) (w2.heap.size) _ b47 rfl rfl (by omega) (by omega) (by omega)).mono ?_
          rintro e w3 ⟨x, x_m, rfl, hr50, hg51⟩
          have zs_w3 := hg51.size
          have o54 := own_gr o46 hg51 (by omega)
          clear o46
          have g52 := gr_trans g49 hg51
          have lt53 := rd_lt hr50
          clear hg51 hr48 g49
          have x_b : -2 ≤ x ∧ x ≤ 1000 := by simp at x_m; omega
          clear x_m
          clear b47
          have o55 := o54.keep (alloc_below _ (.cells #[.int .i64 (-1), .int .i64 9999, .int .i64 10000, .int .i64 0] 3))
          clear o54
          have b56 := heap_alloc_new w3 (.cells #[.int .i64 (-1), .int .i64 9999, .int .i64 10000, .int .i64 0] 3)
          have hr57 := rd_alloc hr50 (.cells #[.int .i64 (-1), .int .i64 9999, .int .i64 10000, .int .i64 0] 3)
          have g58 := gr_alloc g52 (.cells #[.int .i64 (-1), .int .i64 9999, .int .i64 10000, .int .i64 0] 3)
          clear hr50 g52
          go_wp2_with fail
          refine (oneL_any [-1, 9999, 10000, 0] _ R (p' + 1 + 1) 4 hr57 (by omega) (w3.heap.size) _ b56 rfl rfl (by omega) (by omega) (by omega)).mono ?_
          rintro e w4 ⟨y, y_m, rfl, hr59, hg60⟩
          have zs_w4 := hg60.size
          have o63 := own_gr o55 hg60 (by omega)
          clear o55
          have g61 := gr_trans g58 hg60
          have lt62 := rd_lt hr59
          clear hg60 hr57 g58
          have y_b : -1 ≤ y ∧ y ≤ 10000 := by simp at y_m; omega
          clear y_m
          clear b56
          obtain ⟨g, cap, hv, hgb, hglt⟩ := o63.2.form (by omega)
          injection hv with hA _ hc
          subst hA hc
          have ho1 := o63.2
          have hfl := flat_len InputR.enc_len L
          have c0 : w4.cell? ⟨g, 0, none⟩ = some ((L.flatMap InputR.enc)[0]'(by omega)) := by rw [ho1.cellAt 0 (by omega)]; exact List.getElem?_eq_getElem _
          have f0 := ho1.frozenAt 0
          have c1 : w4.cell? ⟨g, 1, none⟩ = some ((L.flatMap InputR.enc)[1]'(by omega)) := by rw [ho1.cellAt 1 (by omega)]; exact List.getElem?_eq_getElem _
          have f1 := ho1.frozenAt 1
          have hgR : R < g := by omega
          have Hp := Lib.hid (show _ ∧ _ ∧ _ from ⟨rd_setCell (a := ⟨g, 1, none⟩) (rd_setCell (a := ⟨g, 0, none⟩) hr59 hgR (.int .i64 x)) hgR (.int .i64 y), gr_setCell (p := ⟨g, 1, none⟩) (gr_setCell (p := ⟨g, 0, none⟩) g61 hgb (.int .i64 x)) hgb (.int .i64 y), own_put2 InputR.enc_len o63 hpos (x := ⟨x, y⟩) (u0 := .int .i64 x) (u1 := .int .i64 y) rfl⟩)
          clear ho1 hr59 g61 o63
          go_wp2
          all_goals go_returns
          all_goals exact ⟨_, _, L.set 0 ⟨x, y⟩, p' + 1 + 1 + 1, by simp, Hp.out.2.2, by simpa using hl, by omega, Hp.out.1, Hp.out.2.1⟩
        · have e0 : (v == 0) = false := by simp [hv]
          have Hp := Lib.hid (show _ ∧ _ ∧ _ from ⟨hr41, g43, o45⟩)
          clear hr41 g43 o45
          go_wp2
          all_goals go_returns
          all_goals exact ⟨A, c, L, p' + 1, rfl, Hp.out.2.2, hl, by omega, Hp.out.1, Hp.out.2.1⟩
    · go_wp2_with fail
      refine (pick_any 30 _ R (p') hr (by omega) (by omega)).mono ?_
      rintro e w2 ⟨x, rfl, x_0, x_1, -, hr81, hg82, -⟩
      have zs_w2 := hg82.size
      have o85 := own_gr ho hg82 (by omega)
      clear ho
      have g83 := gr_trans hg hg82
      have lt84 := rd_lt hr81
      clear hg82 hr hg
      have x_2 := x_1 (by omega)
      have hw1 : IntKind.i64.wrap (x - 1) = x - 1 := IntWalk.i64_in _ (by omega)
      go_wp2_with fail
      refine (pick_any 40 _ R (p' + 1) hr81 (by omega) (by omega)).mono ?_
      rintro e w3 ⟨y, rfl, y_0, y_1, -, hr86, hg87, -⟩
      have zs_w3 := hg87.size
      have o90 := own_gr o85 hg87 (by omega)
      clear o85
      have g88 := gr_trans g83 hg87
      have lt89 := rd_lt hr86
      clear hg87 hr81 g83
      have zA := g88.size
      have hbk : ∀ g, Value.ownBlock (.slice A l.length c) = some g → w.heap.size ≤ g := fun g hg => (o90.lt g hg).1
      go_wp2_with (first | (at_builtin; refine wpList_append_own _ rfl _ _ 23 rfl w.heap.size 33 i0 _ 2 16 Try.underlying23 hi0 hz0 hz1 hz2 rfl (by decide) _ _ _ rfl (o90.2.alloc _) ⟨w3.heap.size, 0, none⟩ 1 1 (InputR.enc ⟨x - 1, y⟩) rfl rfl ?c1a ?c2a ?c3a ?c4a ?c5a ?_) | fail)
      case c1a =>
        intro j u hu
        rcases j with _ | _ | j <;> simp [InputR.enc] at hu <;> subst hu <;> simp [Addr.add, go_sem]
      case c2a => intro u hu; simp [InputR.enc] at hu; rcases hu with rfl | rfl <;> rfl
      case c3a => unfold maxLen; omega
      case c4a => omega
      case c5a => first | omega | (simp; done) | (simp; omega)
      intro v' w9 hown9 hg9 _
      have hbb := alloc_below w3 (.cells #[.int .i64 (x - 1), .int .i64 y] 33)
      have hr9 := rd_row (a := w) hr86 hbb hg9 hbk hR
      have hg10 := gr_row (a := w) g88 hbb hg9 hbk
      have ho9 : Own InputR.enc 2 33 w9 w.heap.size v' (l ++ [(⟨x - 1, y⟩ : InputR)]) := ⟨by simp; omega, by simpa [List.flatMap_append, InputR.enc] using hown9⟩
      obtain ⟨A9, c9, rfl⟩ := ho9.form
      have hl9 : (l ++ [(⟨x - 1, y⟩ : InputR)]).length = l.length + 1 := by simp
      have Hn := Lib.hid (show _ ∧ _ ∧ _ from ⟨hr9, hg10, ho9⟩)
      clear hr9 hg10 ho9 hbb hown9 hg9 hbk hr86 g88 o90
      go_wp2
      go_roundw
      case rel => exact ⟨m, p' + 1 + 1, A9, c9, _, by omega, by go_num, rfl, by omega, by omega, Hn.out.1, Hn.out.2.1, Hn.out.2.2⟩
      case measure => first | (simp [intOf]; done) | (simp [intOf]; omega)
end Go.Proofs.Ytehedhkadjidpab
