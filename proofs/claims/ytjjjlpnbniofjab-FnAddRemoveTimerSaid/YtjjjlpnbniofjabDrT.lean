import Derived.Test.YtjjjlpnbniofjabDrL
import Derived.Test.YtjjjlpnbniofjabTmA
namespace Go.Proofs.Ytjjjlpnbniofjab
open Go.RowKit
def RndTimer (w : World) (R p : Nat) (e : Ending) (w' : World) : Prop :=
  ∃ (x y z : Int) (p' : Nat), e = .returned (.agg #[.int .i64 x, .int .i64 y, .int .i64 z]) ∧ 0 ≤ x ∧ x ≤ 12 ∧ 0 ≤ y ∧ y ≤ 5 ∧ 0 ≤ z ∧ z ≤ 3 ∧ p' ≤ p + 3 ∧ Rd w' R p' ∧ Gr w w' R
set_option maxHeartbeats 1000000 in
theorem randomTimer_any (w : World) (R p : Nat) (h : Rd w R p) (hp : p + 3 ≤ 1000000000) : Calls Try.prog 53 #[.pointer (some ⟨R, 0, none⟩)] w (RndTimer w R p) := by
  have hR := rd_lt h
  have g1 := gr_refl w R
  have hr2 := h
  have b3 := heap_alloc_new w (.cells #[.int .i64 0, .int .i64 0, .int .i64 0] 25)
  have hr4 := rd_alloc hr2 (.cells #[.int .i64 0, .int .i64 0, .int .i64 0] 25)
  have g5 := gr_alloc g1 (.cells #[.int .i64 0, .int .i64 0, .int .i64 0] 25)
  clear hr2 g1
  go_enter Try.func53, Try.ntmps53
  go_wp2_with fail
  refine (pick_any 12 _ R (p) hr4 (by omega) (by omega)).mono ?_
  rintro e w1 ⟨x, rfl, x_0, x_1, -, hr6, hg7, -⟩
  have zs_w1 := hg7.size
  have b8 := gr_blk hg7 b3 (by omega)
  have g9 := gr_trans g5 hg7
  have lt10 := rd_lt hr6
  have lt11 := blk_lt b8
  clear hg7 hr4 g5 b3
  have x_2 := x_1 (by omega)
  clear x_1
  go_wp2_with fail
  refine (pick_any 5 _ R (p + 1) hr6 (by omega) (by omega)).mono ?_
  rintro e w2 ⟨y, rfl, y_0, y_1, -, hr12, hg13, -⟩
  have zs_w2 := hg13.size
  have b14 := gr_blk hg13 b8 (by omega)
  have g15 := gr_trans g9 hg13
  have lt16 := rd_lt hr12
  have lt17 := blk_lt b14
  clear hg13 hr6 g9 b8
  have y_2 := y_1 (by omega)
  clear y_1
  go_wp2_with fail
  refine (pick_any 3 _ R (p + 1 + 1) hr12 (by omega) (by omega)).mono ?_
  rintro e w3 ⟨z, rfl, z_0, z_1, -, hr18, hg19, -⟩
  have zs_w3 := hg19.size
  have b20 := gr_blk hg19 b14 (by omega)
  have g21 := gr_trans g15 hg19
  have lt22 := rd_lt hr18
  have lt23 := blk_lt b20
  clear hg19 hr12 g15 b14
  have z_2 := z_1 (by omega)
  clear z_1
  obtain ⟨s0, s1, s2, sf, sl⟩ := blk3 b20
  clear b20
  go_wp2
  refine bodyPost_ret (v := .agg #[.int .i64 x, .int .i64 y, .int .i64 z]) (by simp [results, Try.results53, go_sem, s0, s1, s2]) rfl ?_
  refine ⟨x, y, z, p + 1 + 1 + 1, rfl, x_0, by omega, y_0, by omega, z_0, by omega, by omega, ?_, ?_⟩
  · repeat (first | exact hr18 | refine rd_setCell ?_ (by first | omega | (simp; omega)) _ | refine rd_drew ?_ | refine rd_alloc ?_ _)
  · repeat (first | exact g21 | refine gr_setCell ?_ (by first | exact Nat.le_refl _ | omega | (simp; omega)) _ | refine gr_drew ?_ | refine gr_alloc ?_ _)
theorem add_len {l : List TimerR} {t : TimerR} (h : addK l t = true) : (addF l t).length ≤ 20 := vTims_len (addF_ok h).2.1
set_option maxRecDepth 100000 in
set_option maxHeartbeats 4000000 in
theorem anyTimers_any (w : World) (R p : Nat) (h : Rd w R p) (hp : p + 130 ≤ 1000000000) : Calls Try.prog 52 #[.pointer (some ⟨R, 0, none⟩)] w (ListPost TimerR.enc 3 25 20 130 w R p) := by
  have hR := rd_lt h
  have g1 := gr_refl w R
  have hr2 := h
  have oe : Own TimerR.enc 3 25 (w.alloc (.cells #[] 25)) w.heap.size (.slice (some ⟨w.heap.size, 0, none⟩) 0 0) [] := ⟨by simp, (acc_made TimerR.enc 3 25 (Below.refl w.heap.size w)).1⟩
  have b3 := heap_alloc_new w (.cells #[] 25)
  have hr4 := rd_alloc hr2 (.cells #[] 25)
  have g5 := gr_alloc g1 (.cells #[] 25)
  clear hr2 g1
  go_enter Try.func52, Try.ntmps52
  have o6 := oe.keep (alloc_below _ (.cells #[.int .i64 0, .int .i64 2, .int .i64 4, .int .i64 6, .int .i64 8, .int .i64 3, .int .i64 30] 3))
  clear oe
  have b7 := alloc_blk (.cells #[.int .i64 0, .int .i64 2, .int .i64 4, .int .i64 6, .int .i64 8, .int .i64 3, .int .i64 30] 3) b3
  have b8 := heap_alloc_new (w.alloc (.cells #[] 25)) (.cells #[.int .i64 0, .int .i64 2, .int .i64 4, .int .i64 6, .int .i64 8, .int .i64 3, .int .i64 30] 3)
  have z9 : (w.alloc (.cells #[] 25)).heap.size = w.heap.size + 1 := by simp
  rw [z9] at b8
  have hr10 := rd_alloc hr4 (.cells #[.int .i64 0, .int .i64 2, .int .i64 4, .int .i64 6, .int .i64 8, .int .i64 3, .int .i64 30] 3)
  have g11 := gr_alloc g5 (.cells #[.int .i64 0, .int .i64 2, .int .i64 4, .int .i64 6, .int .i64 8, .int .i64 3, .int .i64 30] 3)
  clear b3 z9 hr4 g5
  go_wp2_with fail
  refine (oneL_any [0, 2, 4, 6, 8, 3, 30] _ R (p) 7 hr10 (by omega) (w.heap.size + 1) _ b8 rfl rfl (by omega) (by omega) (by omega)).mono ?_
  rintro e w1 ⟨n, n_m, rfl, hr12, hg13⟩
  have zs_w1 := hg13.size
  have o18 := own_gr o6 hg13 (by omega)
  clear o6
  have b14 := gr_blk hg13 b7 (by omega)
  have g15 := gr_trans g11 hg13
  have lt16 := rd_lt hr12
  have lt17 := blk_lt b14
  clear hg13 hr10 g11 b7
  have n_b : 0 ≤ n ∧ n ≤ 30 := by simp at n_m; omega
  clear n_m
  clear b8
  have Ho := Lib.hid (show _ ∧ _ ∧ _ from ⟨hr12, g15, o18⟩)
  clear hr12 g15 o18 b14
  obtain ⟨N, rfl⟩ := Int.eq_ofNat_of_zero_le n_b.1
  have hN : N ≤ 30 := by omega
  go_wp2
  go_loopw [3, 4] (fun v n wr => ∃ (m p' : Nat) (A : Option Addr) (c : Nat) (l : List TimerR), m ≤ 30 ∧ n = .int .i64 m ∧ v = .slice A l.length c ∧ p' + 3 * m ≤ p + 91 ∧ l.length ≤ 20 ∧ Rd wr R p' ∧ Gr w wr R ∧ Own TimerR.enc 3 25 wr w.heap.size (.slice A l.length c) l) (fun _ n _ => (intOf n).toNat)
  case atStart => exact ⟨N, p + 1, _, _, [], hN, rfl, rfl, by omega, by simp, Ho.out.1, Ho.out.2.1, Ho.out.2.2⟩
  case round =>
    obtain ⟨m, p', A, c, l, hm, rfl, rfl, hp', hl, hr, hg, ho⟩ := hrel
    clear Ho
    have zw := hg.size
    rcases m with _ | m
    · have _t := trivial
      rcases l with _ | ⟨y0, l0⟩
      · have Hp := Lib.hid (show _ ∧ _ ∧ _ from ⟨hr, hg, ho⟩)
        go_wp2
        all_goals go_returns
        all_goals exact ⟨A, c, [], p', rfl, Hp.out.2.2, by simp, by omega, Hp.out.1, Hp.out.2.1⟩
      · obtain ⟨L, hL⟩ : ∃ L, L = y0 :: l0 := ⟨_, rfl⟩
        have hpos : 0 < L.length := by rw [hL]; simp
        rw [← hL] at ho hl ⊢
        clear hL
        have hpos2 : decide ((0 : Int) < (L.length : Int)) = true := by simp; omega
        go_wp2_with fail
        refine (pick_any 20 _ R p' hr (by omega) (by omega)).mono ?_
        rintro e w4 ⟨v, rfl, v0, v1, -, hr4, hg4, -⟩
        have o4 := own_gr ho hg4 hR
        have g4 := gr_trans hg hg4
        clear hr hg4 ho hg
        rcases (show v = 0 ∨ v ≠ 0 by omega) with hv | hv
        · subst hv
          have zw4 := g4.size
          go_wp2_with fail
          refine (pick_any (L.length : Int) _ R (p' + 1) hr4 (by omega) (by omega)).mono ?_
          rintro e w5 ⟨k, rfl, k0, k1, -, hr41, hg42, -⟩
          have zs_w5 := hg42.size
          have o45 := own_gr o4 hg42 (by omega)
          clear o4
          have g43 := gr_trans g4 hg42
          have lt44 := rd_lt hr41
          clear hg42 hr4 g4
          have k2 := k1 (by omega)
          obtain ⟨K, rfl⟩ := Int.eq_ofNat_of_zero_le k0
          have hK : K < L.length := by omega
          clear k0 k1 k2
          have o46 := o45.keep (alloc_below _ (.cells #[.int .i64 (-1), .int .i64 3000, .int .i64 3001, .int .i64 0] 3))
          clear o45
          have b47 := heap_alloc_new w5 (.cells #[.int .i64 (-1), .int .i64 3000, .int .i64 3001, .int .i64 0] 3)
          have hr48 := rd_alloc hr41 (.cells #[.int .i64 (-1), .int .i64 3000, .int .i64 3001, .int .i64 0] 3)
          have g49 := gr_alloc g43 (.cells #[.int .i64 (-1), .int .i64 3000, .int .i64 3001, .int .i64 0] 3)
          clear hr41 g43
          go_wp2_with fail
          refine (oneL_any [-1, 3000, 3001, 0] _ R (p' + 1 + 1) 4 hr48 (by omega) (w5.heap.size) _ b47 rfl rfl (by omega) (by omega) (by omega)).mono ?_
          rintro e w6 ⟨x, x_m, rfl, hr50, hg51⟩
          have zs_w6 := hg51.size
          have o54 := own_gr o46 hg51 (by omega)
          clear o46
          have g52 := gr_trans g49 hg51
          have lt53 := rd_lt hr50
          clear hg51 hr48 g49
          have x_b : -1 ≤ x ∧ x ≤ 3001 := by simp at x_m; omega
          clear x_m
          clear b47
          have o55 := o54.keep (alloc_below _ (.cells #[.int .i64 (-1), .int .i64 15, .int .i64 16] 3))
          clear o54
          have b56 := heap_alloc_new w6 (.cells #[.int .i64 (-1), .int .i64 15, .int .i64 16] 3)
          have hr57 := rd_alloc hr50 (.cells #[.int .i64 (-1), .int .i64 15, .int .i64 16] 3)
          have g58 := gr_alloc g52 (.cells #[.int .i64 (-1), .int .i64 15, .int .i64 16] 3)
          clear hr50 g52
          go_wp2_with fail
          refine (oneL_any [-1, 15, 16] _ R (p' + 1 + 1 + 1) 3 hr57 (by omega) (w6.heap.size) _ b56 rfl rfl (by omega) (by omega) (by omega)).mono ?_
          rintro e w7 ⟨y, y_m, rfl, hr59, hg60⟩
          have zs_w7 := hg60.size
          have o63 := own_gr o55 hg60 (by omega)
          clear o55
          have g61 := gr_trans g58 hg60
          have lt62 := rd_lt hr59
          clear hg60 hr57 g58
          have y_b : -1 ≤ y ∧ y ≤ 16 := by simp at y_m; omega
          clear y_m
          clear b56
          have o64 := o63.keep (alloc_below _ (.cells #[.int .i64 (-1), .int .i64 99, .int .i64 100] 3))
          clear o63
          have b65 := heap_alloc_new w7 (.cells #[.int .i64 (-1), .int .i64 99, .int .i64 100] 3)
          have hr66 := rd_alloc hr59 (.cells #[.int .i64 (-1), .int .i64 99, .int .i64 100] 3)
          have g67 := gr_alloc g61 (.cells #[.int .i64 (-1), .int .i64 99, .int .i64 100] 3)
          clear hr59 g61
          go_wp2_with fail
          refine (oneL_any [-1, 99, 100] _ R (p' + 1 + 1 + 1 + 1) 3 hr66 (by omega) (w7.heap.size) _ b65 rfl rfl (by omega) (by omega) (by omega)).mono ?_
          rintro e w8 ⟨z, z_m, rfl, hr68, hg69⟩
          have zs_w8 := hg69.size
          have o72 := own_gr o64 hg69 (by omega)
          clear o64
          have g70 := gr_trans g67 hg69
          have lt71 := rd_lt hr68
          clear hg69 hr66 g67
          have z_b : -1 ≤ z ∧ z ≤ 100 := by simp at z_m; omega
          clear z_m
          clear b65
          obtain ⟨g, cap, hv, hgb, hglt⟩ := o72.2.form (by omega)
          injection hv with hA _ hc
          subst hA hc
          have ho1 := o72.2
          have hfl := flat_len TimerR.enc_len L
          have c0 : w8.cell? ⟨g, K * 3, none⟩ = some ((L.flatMap TimerR.enc)[K * 3]'(by omega)) := by rw [ho1.cellAt (K * 3) (by omega)]; exact List.getElem?_eq_getElem _
          have f0 := ho1.frozenAt (K * 3)
          have c1 : w8.cell? ⟨g, K * 3 + 1, none⟩ = some ((L.flatMap TimerR.enc)[K * 3 + 1]'(by omega)) := by rw [ho1.cellAt (K * 3 + 1) (by omega)]; exact List.getElem?_eq_getElem _
          have f1 := ho1.frozenAt (K * 3 + 1)
          have c2 : w8.cell? ⟨g, K * 3 + 2, none⟩ = some ((L.flatMap TimerR.enc)[K * 3 + 2]'(by omega)) := by rw [ho1.cellAt (K * 3 + 2) (by omega)]; exact List.getElem?_eq_getElem _
          have f2 := ho1.frozenAt (K * 3 + 2)
          have hgR : R < g := by omega
          have Hp := Lib.hid (show _ ∧ _ ∧ _ from ⟨rd_setCell (a := ⟨g, K * 3 + 2, none⟩) (rd_setCell (a := ⟨g, K * 3 + 1, none⟩) (rd_setCell (a := ⟨g, K * 3, none⟩) hr68 hgR (.int .i64 x)) hgR (.int .i64 y)) hgR (.int .i64 z), gr_setCell (p := ⟨g, K * 3 + 2, none⟩) (gr_setCell (p := ⟨g, K * 3 + 1, none⟩) (gr_setCell (p := ⟨g, K * 3, none⟩) g70 hgb (.int .i64 x)) hgb (.int .i64 y)) hgb (.int .i64 z), own_put3 TimerR.enc_len o72 hK (x := ⟨x, y, z⟩) (u0 := .int .i64 x) (u1 := .int .i64 y) (u2 := .int .i64 z) rfl⟩)
          clear ho1 hr68 g70 o72
          go_wp2
          all_goals go_returns
          all_goals exact ⟨_, _, L.set K ⟨x, y, z⟩, p' + 1 + 1 + 1 + 1 + 1, by simp, Hp.out.2.2, by simpa using hl, by omega, Hp.out.1, Hp.out.2.1⟩
        · have e0 : (v == 0) = false := by simp [hv]
          have Hp := Lib.hid (show _ ∧ _ ∧ _ from ⟨hr4, g4, o4⟩)
          clear hr4 g4 o4
          go_wp2
          all_goals go_returns
          all_goals exact ⟨A, c, L, p' + 1, rfl, Hp.out.2.2, hl, by omega, Hp.out.1, Hp.out.2.1⟩
    · go_wp2_with fail
      refine (randomTimer_any _ R p' hr (by omega)).mono ?_
      rintro e w4 ⟨x, y, z, p2, rfl, x0, x1, y0, y1, z0, z1, hp2, hr4, hg4⟩
      have o4 := own_gr ho hg4 hR
      have g4 := gr_trans hg hg4
      clear hr hg4 ho hg
      go_wp2_with fail
      refine (specAdd_any A c l ⟨x, y, z⟩ _ (o4.row TimerR.enc_len)).mono ?_
      rintro e w5 ⟨A5, c5, rfl, o5, b5⟩
      have hr5 := rd_below hr4 b5
      have g5 := gr_below g4 b5
      have o6 := o4.keep b5
      have o7 := own_rebase (B := w.heap.size) o5 g4.size
      clear hr4 g4 o4 o5 b5
      rcases Bool.eq_false_or_eq_true (addK l ⟨x, y, z⟩) with hk | hk
      · have hlen := add_len hk
        have Hn := Lib.hid (show _ ∧ _ ∧ _ from ⟨hr5, g5, o7⟩)
        rw [hk]
        clear hk hr5 g5 o6 o7
        go_wp2
        go_roundw
        case rel => exact ⟨m, p2, A5, c5, _, by omega, by go_num, rfl, by omega, hlen, Hn.out.1, Hn.out.2.1, Hn.out.2.2⟩
        case measure => first | (simp [intOf]; done) | (simp [intOf]; omega)
      · have Hn := Lib.hid (show _ ∧ _ ∧ _ from ⟨hr5, g5, o6⟩)
        rw [hk]
        clear hk hr5 g5 o6 o7
        go_wp2
        go_roundw
        case rel => exact ⟨m, p2, A, c, l, by omega, by go_num, rfl, by omega, hl, Hn.out.1, Hn.out.2.1, Hn.out.2.2⟩
        case measure => first | (simp [intOf]; done) | (simp [intOf]; omega)
end Go.Proofs.Ytjjjlpnbniofjab
