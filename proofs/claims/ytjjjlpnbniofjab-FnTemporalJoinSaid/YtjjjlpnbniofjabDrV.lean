import Derived.Test.YtjjjlpnbniofjabDrL
import Derived.Test.YtjjjlpnbniofjabVnA
import Derived.Deep.RegionHeld3
import Derived.IntWalk
namespace Go.Proofs.Ytjjjlpnbniofjab
open Go.RowKit
def RndVersion (w : World) (R p : Nat) (e : Ending) (w' : World) : Prop :=
  ∃ (x y z : Int) (p' : Nat), e = .returned (.agg #[.int .i64 x, .int .i64 y, .int .i64 z]) ∧ 0 ≤ x ∧ x ≤ 4 ∧ 0 ≤ y ∧ y ≤ 45 ∧ 0 ≤ z ∧ z ≤ 20 ∧ p' ≤ p + 3 ∧ Rd w' R p' ∧ Gr w w' R
set_option maxHeartbeats 1000000 in
theorem randomVersion_any (w : World) (R p : Nat) (h : Rd w R p) (hp : p + 3 ≤ 1000000000) : Calls Try.prog 67 #[.pointer (some ⟨R, 0, none⟩)] w (RndVersion w R p) := by
  have hR := rd_lt h
  have g1 := gr_refl w R
  have hr2 := h
  have b3 := heap_alloc_new w (.cells #[.int .i64 0, .int .i64 0, .int .i64 0] 39)
  have hr4 := rd_alloc hr2 (.cells #[.int .i64 0, .int .i64 0, .int .i64 0] 39)
  have g5 := gr_alloc g1 (.cells #[.int .i64 0, .int .i64 0, .int .i64 0] 39)
  clear hr2 g1
  go_enter Try.func67, Try.ntmps67
  go_wp2_with fail
  refine (pick_any 4 _ R (p) hr4 (by omega) (by omega)).mono ?_
  rintro e w1 ⟨x, rfl, x_0, x_1, -, hr6, hg7, -⟩
  have zs_w1 := hg7.size
  have b8 := gr_blk hg7 b3 (by omega)
  have g9 := gr_trans g5 hg7
  have lt10 := rd_lt hr6
  have lt11 := blk_lt b8
  clear hg7 hr4 g5 b3
  have x_2 := x_1 (by omega)
  clear x_1
  go_wp2_with fail
  refine (pick_any 45 _ R (p + 1) hr6 (by omega) (by omega)).mono ?_
  rintro e w2 ⟨y, rfl, y_0, y_1, -, hr12, hg13, -⟩
  have zs_w2 := hg13.size
  have b14 := gr_blk hg13 b8 (by omega)
  have g15 := gr_trans g9 hg13
  have lt16 := rd_lt hr12
  have lt17 := blk_lt b14
  clear hg13 hr6 g9 b8
  have y_2 := y_1 (by omega)
  clear y_1
  go_wp2_with fail
  refine (pick_any 20 _ R (p + 1 + 1) hr12 (by omega) (by omega)).mono ?_
  rintro e w3 ⟨z, rfl, z_0, z_1, -, hr18, hg19, -⟩
  have zs_w3 := hg19.size
  have b20 := gr_blk hg19 b14 (by omega)
  have g21 := gr_trans g15 hg19
  have lt22 := rd_lt hr18
  have lt23 := blk_lt b20
  clear hg19 hr12 g15 b14
  have z_2 := z_1 (by omega)
  clear z_1
  obtain ⟨s0, s1, s2, sf, sl⟩ := blk3 b20
  clear b20
  go_wp2
  refine bodyPost_ret (v := .agg #[.int .i64 x, .int .i64 y, .int .i64 z]) (by simp [results, Try.results67, go_sem, s0, s1, s2]) rfl ?_
  refine ⟨x, y, z, p + 1 + 1 + 1, rfl, x_0, by omega, y_0, by omega, z_0, by omega, by omega, ?_, ?_⟩
  · repeat (first | exact hr18 | refine rd_setCell ?_ (by first | omega | (simp; omega)) _ | refine rd_drew ?_ | refine rd_alloc ?_ _)
  · repeat (first | exact g21 | refine gr_setCell ?_ (by first | exact Nat.le_refl _ | omega | (simp; omega)) _ | refine gr_drew ?_ | refine gr_alloc ?_ _)
set_option maxRecDepth 100000 in
set_option maxHeartbeats 4000000 in
theorem anyTable_any (w : World) (R p : Nat) (h : Rd w R p) (hp : p + 220 ≤ 1000000000) : Calls Try.prog 66 #[.pointer (some ⟨R, 0, none⟩)] w (ListPost VersionR.enc 3 39 40 220 w R p) := by
  have hR := rd_lt h
  have g1 := gr_refl w R
  have hr2 := h
  have oe : Own VersionR.enc 3 39 (w.alloc (.cells #[] 39)) w.heap.size (.slice (some ⟨w.heap.size, 0, none⟩) 0 0) [] := ⟨by simp, (acc_made VersionR.enc 3 39 (Below.refl w.heap.size w)).1⟩
  have b3 := heap_alloc_new w (.cells #[] 39)
  have hr4 := rd_alloc hr2 (.cells #[] 39)
  have g5 := gr_alloc g1 (.cells #[] 39)
  clear hr2 g1
  go_enter Try.func66, Try.ntmps66
  have o6 := oe.keep (alloc_below _ (.cells #[.int .i64 3, .int .i64 5, .int .i64 8, .int .i64 2, .int .i64 1, .int .i64 0, .int .i64 12, .int .i64 60] 3))
  clear oe
  have b7 := alloc_blk (.cells #[.int .i64 3, .int .i64 5, .int .i64 8, .int .i64 2, .int .i64 1, .int .i64 0, .int .i64 12, .int .i64 60] 3) b3
  have b8 := heap_alloc_new (w.alloc (.cells #[] 39)) (.cells #[.int .i64 3, .int .i64 5, .int .i64 8, .int .i64 2, .int .i64 1, .int .i64 0, .int .i64 12, .int .i64 60] 3)
  have z9 : (w.alloc (.cells #[] 39)).heap.size = w.heap.size + 1 := by simp
  rw [z9] at b8
  have hr10 := rd_alloc hr4 (.cells #[.int .i64 3, .int .i64 5, .int .i64 8, .int .i64 2, .int .i64 1, .int .i64 0, .int .i64 12, .int .i64 60] 3)
  have g11 := gr_alloc g5 (.cells #[.int .i64 3, .int .i64 5, .int .i64 8, .int .i64 2, .int .i64 1, .int .i64 0, .int .i64 12, .int .i64 60] 3)
  clear b3 z9 hr4 g5
  go_wp2_with fail
  refine (oneL_any [3, 5, 8, 2, 1, 0, 12, 60] _ R (p) 8 hr10 (by omega) (w.heap.size + 1) _ b8 rfl rfl (by omega) (by omega) (by omega)).mono ?_
  rintro e w1 ⟨n, n_m, rfl, hr12, hg13⟩
  have zs_w1 := hg13.size
  have o18 := own_gr o6 hg13 (by omega)
  clear o6
  have b14 := gr_blk hg13 b7 (by omega)
  have g15 := gr_trans g11 hg13
  have lt16 := rd_lt hr12
  have lt17 := blk_lt b14
  clear hg13 hr10 g11 b7
  have n_b : 0 ≤ n ∧ n ≤ 60 := by simp at n_m; omega
  clear n_m
  clear b8
  have Ho := Lib.hid (show _ ∧ _ ∧ _ from ⟨hr12, g15, o18⟩)
  clear hr12 g15 o18 b14
  obtain ⟨N, rfl⟩ := Int.eq_ofNat_of_zero_le n_b.1
  have hN : N ≤ 60 := by omega
  go_wp2
  go_loopw [3, 4] (fun v n wr => ∃ (m p' : Nat) (A : Option Addr) (c : Nat) (l : List VersionR), m ≤ 60 ∧ n = .int .i64 m ∧ v = .slice A l.length c ∧ p' + 3 * m ≤ p + 181 ∧ l.length ≤ 40 ∧ Rd wr R p' ∧ Gr w wr R ∧ Own VersionR.enc 3 39 wr w.heap.size (.slice A l.length c) l) (fun _ n _ => (intOf n).toNat)
  case atStart => exact ⟨N, p + 1, _, _, [], hN, rfl, rfl, by omega, by simp, Ho.out.1, Ho.out.2.1, Ho.out.2.2⟩
  case round =>
    obtain ⟨m, p', A, c, l, hm, rfl, rfl, hp', hl, hr, hg, ho⟩ := hrel
    clear Ho
    have zw := hg.size
    rcases m with _ | m
    · have _t := trivial
      rcases l with _ | ⟨y0, l0⟩
      · have Hp := Lib.hid (show _ ∧ _ ∧ _ from ⟨hr, hg, ho⟩)
        go_wp2
        all_goals go_returns
        all_goals exact ⟨A, c, [], p', rfl, Hp.out.2.2, by simp, by omega, Hp.out.1, Hp.out.2.1⟩
      · obtain ⟨L, hL⟩ : ∃ L, L = y0 :: l0 := ⟨_, rfl⟩
        have hpos : 0 < L.length := by rw [hL]; simp
        rw [← hL] at ho hl ⊢
        clear hL
        have hpos2 : decide ((0 : Int) < (L.length : Int)) = true := by simp; omega
        go_wp2_with fail
        refine (pick_any 20 _ R p' hr (by omega) (by omega)).mono ?_
        rintro e w4 ⟨v, rfl, v0, v1, -, hr4, hg4, -⟩
        have o4 := own_gr ho hg4 hR
        have g4 := gr_trans hg hg4
        clear hr hg4 ho hg
        rcases (show v = 0 ∨ v ≠ 0 by omega) with hv | hv
        · subst hv
          have zw4 := g4.size
          go_wp2_with fail
          refine (pick_any (L.length : Int) _ R (p' + 1) hr4 (by omega) (by omega)).mono ?_
          rintro e w5 ⟨k, rfl, k0, k1, -, hr41, hg42, -⟩
          have zs_w5 := hg42.size
          have o45 := own_gr o4 hg42 (by omega)
          clear o4
          have g43 := gr_trans g4 hg42
          have lt44 := rd_lt hr41
          clear hg42 hr4 g4
          have k2 := k1 (by omega)
          obtain ⟨K, rfl⟩ := Int.eq_ofNat_of_zero_le k0
          have hK : K < L.length := by omega
          clear k0 k1 k2
          have o46 := o45.keep (alloc_below _ (.cells #[.int .i64 (-1), .int .i64 0, .int .i64 16] 3))
          clear o45
          have b47 := heap_alloc_new w5 (.cells #[.int .i64 (-1), .int .i64 0, .int .i64 16] 3)
          have hr48 := rd_alloc hr41 (.cells #[.int .i64 (-1), .int .i64 0, .int .i64 16] 3)
          have g49 := gr_alloc g43 (.cells #[.int .i64 (-1), .int .i64 0, .int .i64 16] 3)
          clear hr41 g43
          go_wp2_with fail
          refine (oneL_any [-1, 0, 16] _ R (p' + 1 + 1) 3 hr48 (by omega) (w5.heap.size) _ b47 rfl rfl (by omega) (by omega) (by omega)).mono ?_
          rintro e w6 ⟨x, x_m, rfl, hr50, hg51⟩
          have zs_w6 := hg51.size
          have o54 := own_gr o46 hg51 (by omega)
          clear o46
          have g52 := gr_trans g49 hg51
          have lt53 := rd_lt hr50
          clear hg51 hr48 g49
          have x_b : -1 ≤ x ∧ x ≤ 16 := by simp at x_m; omega
          clear x_m
          clear b47
          have o55 := o54.keep (alloc_below _ (.cells #[.int .i64 (-1), .int .i64 0, .int .i64 1000] 3))
          clear o54
          have b56 := heap_alloc_new w6 (.cells #[.int .i64 (-1), .int .i64 0, .int .i64 1000] 3)
          have hr57 := rd_alloc hr50 (.cells #[.int .i64 (-1), .int .i64 0, .int .i64 1000] 3)
          have g58 := gr_alloc g52 (.cells #[.int .i64 (-1), .int .i64 0, .int .i64 1000] 3)
          clear hr50 g52
          go_wp2_with fail
          refine (oneL_any [-1, 0, 1000] _ R (p' + 1 + 1 + 1) 3 hr57 (by omega) (w6.heap.size) _ b56 rfl rfl (by omega) (by omega) (by omega)).mono ?_
          rintro e w7 ⟨y, y_m, rfl, hr59, hg60⟩
          have zs_w7 := hg60.size
          have o63 := own_gr o55 hg60 (by omega)
          clear o55
          have g61 := gr_trans g58 hg60
          have lt62 := rd_lt hr59
          clear hg60 hr57 g58
          have y_b : -1 ≤ y ∧ y ≤ 1000 := by simp at y_m; omega
          clear y_m
          clear b56
          have o64 := o63.keep (alloc_below _ (.cells #[.int .i64 (-1), .int .i64 99, .int .i64 100] 3))
          clear o63
          have b65 := heap_alloc_new w7 (.cells #[.int .i64 (-1), .int .i64 99, .int .i64 100] 3)
          have hr66 := rd_alloc hr59 (.cells #[.int .i64 (-1), .int .i64 99, .int .i64 100] 3)
          have g67 := gr_alloc g61 (.cells #[.int .i64 (-1), .int .i64 99, .int .i64 100] 3)
          clear hr59 g61
          go_wp2_with fail
          refine (oneL_any [-1, 99, 100] _ R (p' + 1 + 1 + 1 + 1) 3 hr66 (by omega) (w7.heap.size) _ b65 rfl rfl (by omega) (by omega) (by omega)).mono ?_
          rintro e w8 ⟨z, z_m, rfl, hr68, hg69⟩
          have zs_w8 := hg69.size
          have o72 := own_gr o64 hg69 (by omega)
          clear o64
          have g70 := gr_trans g67 hg69
          have lt71 := rd_lt hr68
          clear hg69 hr66 g67
          have z_b : -1 ≤ z ∧ z ≤ 100 := by simp at z_m; omega
          clear z_m
          clear b65
          obtain ⟨g, cap, hv, hgb, hglt⟩ := o72.2.form (by omega)
          injection hv with hA _ hc
          subst hA hc
          have ho1 := o72.2
          have hfl := flat_len VersionR.enc_len L
          have c0 : w8.cell? ⟨g, K * 3, none⟩ = some ((L.flatMap VersionR.enc)[K * 3]'(by omega)) := by rw [ho1.cellAt (K * 3) (by omega)]; exact List.getElem?_eq_getElem _
          have f0 := ho1.frozenAt (K * 3)
          have c1 : w8.cell? ⟨g, K * 3 + 1, none⟩ = some ((L.flatMap VersionR.enc)[K * 3 + 1]'(by omega)) := by rw [ho1.cellAt (K * 3 + 1) (by omega)]; exact List.getElem?_eq_getElem _
          have f1 := ho1.frozenAt (K * 3 + 1)
          have c2 : w8.cell? ⟨g, K * 3 + 2, none⟩ = some ((L.flatMap VersionR.enc)[K * 3 + 2]'(by omega)) := by rw [ho1.cellAt (K * 3 + 2) (by omega)]; exact List.getElem?_eq_getElem _
          have f2 := ho1.frozenAt (K * 3 + 2)
          have hgR : R < g := by omega
          have Hp := Lib.hid (show _ ∧ _ ∧ _ from ⟨rd_setCell (a := ⟨g, K * 3 + 2, none⟩) (rd_setCell (a := ⟨g, K * 3 + 1, none⟩) (rd_setCell (a := ⟨g, K * 3, none⟩) hr68 hgR (.int .i64 x)) hgR (.int .i64 y)) hgR (.int .i64 z), gr_setCell (p := ⟨g, K * 3 + 2, none⟩) (gr_setCell (p := ⟨g, K * 3 + 1, none⟩) (gr_setCell (p := ⟨g, K * 3, none⟩) g70 hgb (.int .i64 x)) hgb (.int .i64 y)) hgb (.int .i64 z), own_put3 VersionR.enc_len o72 hK (x := ⟨x, y, z⟩) (u0 := .int .i64 x) (u1 := .int .i64 y) (u2 := .int .i64 z) rfl⟩)
          clear ho1 hr68 g70 o72
          go_wp2
          all_goals go_returns
          all_goals exact ⟨_, _, L.set K ⟨x, y, z⟩, p' + 1 + 1 + 1 + 1 + 1, by simp, Hp.out.2.2, by simpa using hl, by omega, Hp.out.1, Hp.out.2.1⟩
        · have e0 : (v == 0) = false := by simp [hv]
          have Hp := Lib.hid (show _ ∧ _ ∧ _ from ⟨hr4, g4, o4⟩)
          clear hr4 g4 o4
          go_wp2
          all_goals go_returns
          all_goals exact ⟨A, c, L, p' + 1, rfl, Hp.out.2.2, hl, by omega, Hp.out.1, Hp.out.2.1⟩
    · go_wp2_with fail
      refine (randomVersion_any _ R p' hr (by omega)).mono ?_
      rintro e w4 ⟨x, y, z, p2, rfl, x0, x1, y0, y1, z0, z1, hp2, hr4, hg4⟩
      have o4 := own_gr ho hg4 hR
      have g4 := gr_trans hg hg4
      clear hr hg4 ho hg
      go_wp2_with fail
      refine (specPut_any A c l ⟨x, y, z⟩ _ (o4.row VersionR.enc_len)).mono ?_
      rintro e w5 ⟨A5, c5, rfl, o5, b5⟩
      have hr5 := rd_below hr4 b5
      have g5 := gr_below g4 b5
      have o6 := o4.keep b5
      have o7 := own_rebase (B := w.heap.size) o5 g4.size
      clear hr4 g4 o4 o5 b5
      rcases Bool.eq_false_or_eq_true (putK l ⟨x, y, z⟩) with hk | hk
      · have hlen := put_len40 hk
        have Hn := Lib.hid (show _ ∧ _ ∧ _ from ⟨hr5, g5, o7⟩)
        rw [hk]
        clear hk hr5 g5 o6 o7
        go_wp2
        go_roundw
        case rel => exact ⟨m, p2, A5, c5, _, by omega, by go_num, rfl, by omega, hlen, Hn.out.1, Hn.out.2.1, Hn.out.2.2⟩
        case measure => first | (simp [intOf]; done) | (simp [intOf]; omega)
      · have Hn := Lib.hid (show _ ∧ _ ∧ _ from ⟨hr5, g5, o6⟩)
        rw [hk]
        clear hk hr5 g5 o6 o7
        go_wp2
        go_roundw
        case rel => exact ⟨m, p2, A, c, l, by omega, by go_num, rfl, by omega, hl, Hn.out.1, Hn.out.2.1, Hn.out.2.2⟩
        case measure => first | (simp [intOf]; done) | (simp [intOf]; omega)
def DrPurge (w : World) (e : Ending) (w' : World) : Prop :=
  ∃ (A : Option Addr) (c : Nat) (l : List VersionR) (n : Int), e = .returned (.tuple #[.slice A l.length c, .int .i64 n]) ∧ Own VersionR.enc 3 39 w' w.heap.size (.slice A l.length c) l ∧ l.length ≤ 40 ∧ -2 ≤ n ∧ n ≤ 3001 ∧ Below w.heap.size w w'
set_option maxHeartbeats 2000000 in
theorem drawPurgeVersions_any (w : World) (a : Option Addr) (len cap : Nat) (z : List Int) (h : IsRow .u8 w a len cap z) (hl : len ≤ 1048576) : Calls Try.prog 39 #[.slice a len cap] w (DrPurge w) := by
  go_enter Try.func39, Try.ntmps39
  have g1 := Below.refl w.heap.size w
  have ir2 := isRow_keep h g1
  clear h
  go_wp2_with fail
  refine (newReader_any _ a len cap z ir2 hl).mono ?_
  rintro e w1 ⟨R, rfl, hR, hrN, hbN⟩
  have g4 := g1.trans (hbN.mono (by omega))
  have lt5 := rd_lt hrN
  have sz6 := g4.size
  clear ir2 g1 hbN
  go_wp2_with fail
  refine (anyTable_any _ R 0 hrN (by omega)).mono ?_
  rintro e w2 ⟨A, c, l, p2, rfl, o1, l20, hp2, hr7, hg8⟩
  have zs_w2 := hg8.size
  have g9 := g4.trans (gr_of_below (B := w.heap.size) hg8 (by have := g4.size; first | exact this | (simp; omega) | omega) (by omega))
  have lt10 := rd_lt hr7
  clear hg8 hrN g4
  have o11 := o1.keep (alloc_below _ (.cells #[.int .i64 (-1), .int .i64 5, .int .i64 15, .int .i64 25, .int .i64 40, .int .i64 3000, .int .i64 3001, .int .i64 (-2)] 3))
  clear o1
  have b12 := heap_alloc_new w2 (.cells #[.int .i64 (-1), .int .i64 5, .int .i64 15, .int .i64 25, .int .i64 40, .int .i64 3000, .int .i64 3001, .int .i64 (-2)] 3)
  have hr13 := rd_alloc hr7 (.cells #[.int .i64 (-1), .int .i64 5, .int .i64 15, .int .i64 25, .int .i64 40, .int .i64 3000, .int .i64 3001, .int .i64 (-2)] 3)
  have g14 := g9.alloc (by have := g9.size; first | exact this | (simp; omega) | omega) (.cells #[.int .i64 (-1), .int .i64 5, .int .i64 15, .int .i64 25, .int .i64 40, .int .i64 3000, .int .i64 3001, .int .i64 (-2)] 3)
  clear hr7 g9
  go_wp2_with fail
  refine (oneL_any [-1, 5, 15, 25, 40, 3000, 3001, -2] _ R (p2) 8 hr13 (by omega) (w2.heap.size) _ b12 rfl rfl (by omega) (by omega) (by omega)).mono ?_
  rintro e w3 ⟨n, n_m, rfl, hr15, hg16⟩
  have zs_w3 := hg16.size
  have o19 := own_gr o11 hg16 (by omega)
  clear o11
  have g17 := g14.trans (gr_of_below (B := w.heap.size) hg16 (by have := g14.size; first | exact this | (simp; omega) | omega) (by omega))
  have lt18 := rd_lt hr15
  clear hg16 hr13 g14
  have n_b : -2 ≤ n ∧ n ≤ 3001 := by simp at n_m; omega
  clear n_m
  clear b12
  have zz := g17.size
  have Hp := Lib.hid (show _ ∧ _ from ⟨own_rebase (B := w.heap.size) o19 (by omega), g17⟩)
  clear o19 g17
  go_wp2
  refine bodyPost_ret (v := .tuple #[.slice A l.length c, .int .i64 n]) (by simp [results, Try.results39, go_sem]) rfl ?_
  exact ⟨A, c, l, n, rfl, Hp.out.1, l20, n_b.1, n_b.2, Hp.out.2⟩
def DrPut (w : World) (e : Ending) (w' : World) : Prop :=
  ∃ (A : Option Addr) (c : Nat) (l : List VersionR) (x : VersionR), e = .returned (.tuple #[.slice A l.length c, .agg #[.int .i64 x.a0, .int .i64 x.a1, .int .i64 x.a2]]) ∧ Own VersionR.enc 3 39 w' w.heap.size (.slice A l.length c) l ∧ l.length ≤ 40 ∧ Below w.heap.size w w'
set_option maxRecDepth 100000 in
set_option maxHeartbeats 4000000 in
theorem drawPutVersion_any (w : World) (a : Option Addr) (len cap : Nat) (z : List Int) (h : IsRow .u8 w a len cap z) (hl : len ≤ 1048576) : Calls Try.prog 28 #[.slice a len cap] w (DrPut w) := by
  go_enter Try.func28, Try.ntmps28
  have g1 := Below.refl w.heap.size w
  have b2 := heap_alloc_new w (.cells #[.int .i64 0, .int .i64 0, .int .i64 0] 39)
  have g3 := g1.alloc (by have := g1.size; first | exact this | (simp; omega) | omega) (.cells #[.int .i64 0, .int .i64 0, .int .i64 0] 39)
  clear g1
  have ir4 := isRow_keep h g3
  have z5 : (w.alloc (.cells #[.int .i64 0, .int .i64 0, .int .i64 0] 39)).heap.size = w.heap.size + 1 := by simp
  have zz6 := Lib.hid z5
  clear z5
  clear h
  go_wp2_with fail
  refine (newReader_any _ a len cap z ir4 hl).mono ?_
  rintro e w1 ⟨R, rfl, hR, hrN, hbN⟩
  rw [zz6.out] at hR hbN
  have b7 := below_blk hbN b2 (by omega)
  have g8 := g3.trans (hbN.mono (by omega))
  have lt9 := rd_lt hrN
  have lt10 := blk_lt b7
  have sz11 := g8.size
  clear ir4 g3 zz6 b2 hbN
  go_wp2_with fail
  refine (anyTable_any _ R 0 hrN (by omega)).mono ?_
  rintro e w2 ⟨A, c, l, p2, rfl, o1, l20, hp2, hr12, hg13⟩
  have zs_w2 := hg13.size
  have b14 := gr_blk hg13 b7 (by omega)
  have g15 := g8.trans (gr_of_below (B := w.heap.size) hg13 (by have := g8.size; first | exact this | (simp; omega) | omega) (by omega))
  have lt16 := rd_lt hr12
  have lt17 := blk_lt b14
  clear hg13 hrN g8 b7
  have hgl : ∀ g, Value.ownBlock (.slice A l.length c) = some g → g < w2.heap.size := fun g hg => (o1.lt g hg).2
  go_wp2_with fail
  refine (randomVersion_any _ R p2 hr12 (by omega)).mono ?_
  rintro e w3 ⟨x, y, z, p3, rfl, x0, x1, y0, y1, z0, z1, hp3, hr18, hg19⟩
  have zs_w3 := hg19.size
  have o24 := own_gr o1 hg19 (by omega)
  clear o1
  have b20 := gr_blk hg19 b14 (by omega)
  have g21 := g15.trans (gr_of_below (B := w.heap.size) hg19 (by have := g15.size; first | exact this | (simp; omega) | omega) (by omega))
  have lt22 := rd_lt hr18
  have lt23 := blk_lt b20
  clear hg19 hr12 g15 b14
  have o25 := o24.keep (alloc_below _ (.cells #[.int .i64 x, .int .i64 y, .int .i64 z] 39))
  clear o24
  have b26 := alloc_blk (.cells #[.int .i64 x, .int .i64 y, .int .i64 z] 39) b20
  have b27 := heap_alloc_new w3 (.cells #[.int .i64 x, .int .i64 y, .int .i64 z] 39)
  have hr28 := rd_alloc hr18 (.cells #[.int .i64 x, .int .i64 y, .int .i64 z] 39)
  have g29 := g21.alloc (by have := g21.size; first | exact this | (simp; omega) | omega) (.cells #[.int .i64 x, .int .i64 y, .int .i64 z] 39)
  clear b20 hr18 g21
  have nSE : w.heap.size ≠ w3.heap.size := by omega
  have nES : w3.heap.size ≠ w.heap.size := by omega
  have hgS : ∀ g, Value.ownBlock (.slice A l.length c) = some g → g ≠ w.heap.size := fun g hg => by have := (o25.lt g hg).1; omega
  have hgE : ∀ g, Value.ownBlock (.slice A l.length c) = some g → g ≠ w3.heap.size := fun g hg => by have := hgl g hg; omega
  rcases Nat.eq_zero_or_pos l.length with hz | hpos
  · obtain rfl : l = [] := List.eq_nil_of_length_eq_zero hz
    obtain ⟨e0, e1, e2, ef, el⟩ := blk3 b27
    go_wp2_with fail
    clear e0 e1 e2 ef el
    go_wp2_with fail
    refine (pick_any 20 _ R (p3) hr28 (by omega) (by omega)).mono ?_
    rintro e w4 ⟨v, rfl, v_0, v_1, -, hr30, hg31, -⟩
    have zs_w4 := hg31.size
    have o38 := own_gr o25 hg31 (by omega)
    clear o25
    have b32 := gr_blk hg31 b26 (by omega)
    have b33 := gr_blk hg31 b27 (by omega)
    have g34 := g29.trans (gr_of_below (B := w.heap.size) hg31 (by have := g29.size; first | exact this | (simp; omega) | omega) (by omega))
    have lt35 := rd_lt hr30
    have lt36 := blk_lt b32
    have lt37 := blk_lt b33
    clear hg31 hr28 g29 b26 b27
    rcases (show v = 0 ∨ v ≠ 0 by omega) with hv | hv
    · subst hv
      have o39 := o38.keep (alloc_below _ (.cells #[.int .i64 (-1), .int .i64 99, .int .i64 100] 3))
      clear o38
      have b40 := alloc_blk (.cells #[.int .i64 (-1), .int .i64 99, .int .i64 100] 3) b32
      have b41 := alloc_blk (.cells #[.int .i64 (-1), .int .i64 99, .int .i64 100] 3) b33
      have b42 := heap_alloc_new w4 (.cells #[.int .i64 (-1), .int .i64 99, .int .i64 100] 3)
      have hr43 := rd_alloc hr30 (.cells #[.int .i64 (-1), .int .i64 99, .int .i64 100] 3)
      have g44 := g34.alloc (by have := g34.size; first | exact this | (simp; omega) | omega) (.cells #[.int .i64 (-1), .int .i64 99, .int .i64 100] 3)
      clear b32 b33 hr30 g34
      go_wp2_with fail
      refine (oneL_any [-1, 99, 100] _ R (p3 + 1) 3 hr43 (by omega) (w4.heap.size) _ b42 rfl rfl (by omega) (by omega) (by omega)).mono ?_
      rintro e w5 ⟨q, q_m, rfl, hr45, hg46⟩
      have zs_w5 := hg46.size
      have o53 := own_gr o39 hg46 (by omega)
      clear o39
      have b47 := gr_blk hg46 b40 (by omega)
      have b48 := gr_blk hg46 b41 (by omega)
      have g49 := g44.trans (gr_of_below (B := w.heap.size) hg46 (by have := g44.size; first | exact this | (simp; omega) | omega) (by omega))
      have lt50 := rd_lt hr45
      have lt51 := blk_lt b47
      have lt52 := blk_lt b48
      clear hg46 hr43 g44 b40 b41
      have q_b : -1 ≤ q ∧ q ≤ 100 := by simp at q_m; omega
      clear q_m
      clear b42
      obtain ⟨e0, e1, e2, ef, el⟩ := blk3 b48
      go_wp2_with fail
      clear e0 e1 e2 ef el
      have o54 := o53.set (p := ⟨w3.heap.size, 2, none⟩) hgE (.int .i64 q)
      clear o53
      have b55 := blk_far (p := ⟨w3.heap.size, 2, none⟩) b47 (by omega) (.int .i64 q)
      have b56 := blk_set b48 2 (.int .i64 q)
      rw [show (#[.int .i64 x, .int .i64 y, .int .i64 z] : Array Value).setIfInBounds 2 (.int .i64 q) = #[.int .i64 x, .int .i64 y, .int .i64 q] from rfl] at b56
      have hr57 := rd_setCell (a := ⟨w3.heap.size, 2, none⟩) hr45 (by first | omega | (simp; omega)) (.int .i64 q)
      have g58 := g49.setCell (p := ⟨w3.heap.size, 2, none⟩) (by first | exact Nat.le_refl _ | omega | (simp; omega)) (.int .i64 q)
      clear b47 b48 hr45 g49
      obtain ⟨t0, t1, t2, tf, tl⟩ := blk3 b56
      obtain ⟨s0, s1, s2, sf, sl⟩ := blk3 b55
      clear hr57
      have o59 := o54.set (p := ⟨w.heap.size, 0, none⟩) hgS (.int .i64 x)
      clear o54
      have b60 := blk_set b55 0 (.int .i64 x)
      rw [show (#[.int .i64 0, .int .i64 0, .int .i64 0] : Array Value).setIfInBounds 0 (.int .i64 x) = #[.int .i64 x, .int .i64 0, .int .i64 0] from rfl] at b60
      have b61 := blk_far (p := ⟨w.heap.size, 0, none⟩) b56 (by omega) (.int .i64 x)
      have g62 := g58.setCell (p := ⟨w.heap.size, 0, none⟩) (by first | exact Nat.le_refl _ | omega | (simp; omega)) (.int .i64 x)
      clear b55 b56 g58
      have o63 := o59.set (p := ⟨w.heap.size, 1, none⟩) hgS (.int .i64 y)
      clear o59
      have b64 := blk_set b60 1 (.int .i64 y)
      rw [show (#[.int .i64 x, .int .i64 0, .int .i64 0] : Array Value).setIfInBounds 1 (.int .i64 y) = #[.int .i64 x, .int .i64 y, .int .i64 0] from rfl] at b64
      have b65 := blk_far (p := ⟨w.heap.size, 1, none⟩) b61 (by omega) (.int .i64 y)
      have g66 := g62.setCell (p := ⟨w.heap.size, 1, none⟩) (by first | exact Nat.le_refl _ | omega | (simp; omega)) (.int .i64 y)
      clear b60 b61 g62
      have o67 := o63.set (p := ⟨w.heap.size, 2, none⟩) hgS (.int .i64 q)
      clear o63
      have b68 := blk_set b64 2 (.int .i64 q)
      rw [show (#[.int .i64 x, .int .i64 y, .int .i64 0] : Array Value).setIfInBounds 2 (.int .i64 q) = #[.int .i64 x, .int .i64 y, .int .i64 q] from rfl] at b68
      have b69 := blk_far (p := ⟨w.heap.size, 2, none⟩) b65 (by omega) (.int .i64 q)
      have g70 := g66.setCell (p := ⟨w.heap.size, 2, none⟩) (by first | exact Nat.le_refl _ | omega | (simp; omega)) (.int .i64 q)
      clear b64 b65 g66
      obtain ⟨f0, f1, f2, ff, fl⟩ := blk3 b68
      have zz := g70.size
      have Hp := Lib.hid (show _ ∧ _ from ⟨(own_rebase (B := w.heap.size) o67 (by omega)).keep (Below.refl _ _).drew, g70.drew⟩)
      have He := Lib.hid (show _ ∧ _ ∧ _ from ⟨f0, f1, f2⟩)
      clear f0 f1 f2 ff fl o67 g70 b69 b68
      go_region
      all_goals go_wp2
      all_goals (try simp only [Exit.inBlock, Exit.then])
      all_goals refine bodyPost_ret (v := .tuple #[.slice A 0 c, .agg #[.int .i64 x, .int .i64 y, .int .i64 q]]) (by simp [results, Try.results28, go_sem, He.out.1, He.out.2.1, He.out.2.2]; try rfl) rfl ?_
      all_goals exact ⟨_, c, [], ⟨x, y, q⟩, rfl, Hp.out.1, l20, Hp.out.2⟩
    · have v0 : (v == 0) = false := by simp [hv]
      obtain ⟨e0, e1, e2, ef, el⟩ := blk3 b33
      go_wp2_with fail
      clear e0 e1 e2 ef el
      obtain ⟨t0, t1, t2, tf, tl⟩ := blk3 b33
      obtain ⟨s0, s1, s2, sf, sl⟩ := blk3 b32
      clear hr30
      have o39 := o38.set (p := ⟨w.heap.size, 0, none⟩) hgS (.int .i64 x)
      clear o38
      have b40 := blk_set b32 0 (.int .i64 x)
      rw [show (#[.int .i64 0, .int .i64 0, .int .i64 0] : Array Value).setIfInBounds 0 (.int .i64 x) = #[.int .i64 x, .int .i64 0, .int .i64 0] from rfl] at b40
      have b41 := blk_far (p := ⟨w.heap.size, 0, none⟩) b33 (by omega) (.int .i64 x)
      have g42 := g34.setCell (p := ⟨w.heap.size, 0, none⟩) (by first | exact Nat.le_refl _ | omega | (simp; omega)) (.int .i64 x)
      clear b32 b33 g34
      have o43 := o39.set (p := ⟨w.heap.size, 1, none⟩) hgS (.int .i64 y)
      clear o39
      have b44 := blk_set b40 1 (.int .i64 y)
      rw [show (#[.int .i64 x, .int .i64 0, .int .i64 0] : Array Value).setIfInBounds 1 (.int .i64 y) = #[.int .i64 x, .int .i64 y, .int .i64 0] from rfl] at b44
      have b45 := blk_far (p := ⟨w.heap.size, 1, none⟩) b41 (by omega) (.int .i64 y)
      have g46 := g42.setCell (p := ⟨w.heap.size, 1, none⟩) (by first | exact Nat.le_refl _ | omega | (simp; omega)) (.int .i64 y)
      clear b40 b41 g42
      have o47 := o43.set (p := ⟨w.heap.size, 2, none⟩) hgS (.int .i64 z)
      clear o43
      have b48 := blk_set b44 2 (.int .i64 z)
      rw [show (#[.int .i64 x, .int .i64 y, .int .i64 0] : Array Value).setIfInBounds 2 (.int .i64 z) = #[.int .i64 x, .int .i64 y, .int .i64 z] from rfl] at b48
      have b49 := blk_far (p := ⟨w.heap.size, 2, none⟩) b45 (by omega) (.int .i64 z)
      have g50 := g46.setCell (p := ⟨w.heap.size, 2, none⟩) (by first | exact Nat.le_refl _ | omega | (simp; omega)) (.int .i64 z)
      clear b44 b45 g46
      obtain ⟨f0, f1, f2, ff, fl⟩ := blk3 b48
      have zz := g50.size
      have Hp := Lib.hid (show _ ∧ _ from ⟨(own_rebase (B := w.heap.size) o47 (by omega)).keep (Below.refl _ _).drew, g50.drew⟩)
      have He := Lib.hid (show _ ∧ _ ∧ _ from ⟨f0, f1, f2⟩)
      clear f0 f1 f2 ff fl o47 g50 b49 b48
      go_region
      all_goals go_wp2
      all_goals (try simp only [Exit.inBlock, Exit.then])
      all_goals refine bodyPost_ret (v := .tuple #[.slice A 0 c, .agg #[.int .i64 x, .int .i64 y, .int .i64 z]]) (by simp [results, Try.results28, go_sem, He.out.1, He.out.2.1, He.out.2.2]; try rfl) rfl ?_
      all_goals exact ⟨_, c, [], ⟨x, y, z⟩, rfl, Hp.out.1, l20, Hp.out.2⟩
  · have hpos2 : decide ((0 : Int) < (l.length : Int)) = true := by rw [decide_eq_true_eq]; omega
    go_wp2_with fail
    refine (pick_any 3 _ R p3 hr28 (by omega) (by omega)).mono ?_
    rintro e w4 ⟨u, rfl, u_0, u_1, -, hr30, hg31, -⟩
    have zs_w4 := hg31.size
    have o38 := own_gr o25 hg31 (by omega)
    clear o25
    have b32 := gr_blk hg31 b26 (by omega)
    have b33 := gr_blk hg31 b27 (by omega)
    have g34 := g29.trans (gr_of_below (B := w.heap.size) hg31 (by have := g29.size; first | exact this | (simp; omega) | omega) (by omega))
    have lt35 := rd_lt hr30
    have lt36 := blk_lt b32
    have lt37 := blk_lt b33
    clear hg31 hr28 g29 b26 b27
    rcases (show u = 0 ∨ u ≠ 0 by omega) with hu | hu
    · subst hu
      obtain ⟨b, off, rfl, hblt, q0, q1, q2⟩ := (o38.row VersionR.enc_len).atVersion hpos
      generalize l[0] = X at *
      simp only [Nat.zero_mul, Nat.add_zero] at q0 q1 q2
      have hne : w3.heap.size ≠ b := fun e => hgE b rfl e.symm
      have hne2 : b ≠ w3.heap.size := hgE b rfl
      obtain ⟨e0, e1, e2, ef, el⟩ := blk3 b33
      go_wp2_with fail
      clear e0 e1 e2 ef el q0 q1 q2 hblt
      have o39 := o38.set (p := ⟨w3.heap.size, 0, none⟩) hgE (.int .i64 X.a0)
      clear o38
      have b40 := blk_far (p := ⟨w3.heap.size, 0, none⟩) b32 (by omega) (.int .i64 X.a0)
      have b41 := blk_set b33 0 (.int .i64 X.a0)
      rw [show (#[.int .i64 x, .int .i64 y, .int .i64 z] : Array Value).setIfInBounds 0 (.int .i64 X.a0) = #[.int .i64 X.a0, .int .i64 y, .int .i64 z] from rfl] at b41
      have hr42 := rd_setCell (a := ⟨w3.heap.size, 0, none⟩) hr30 (by first | omega | (simp; omega)) (.int .i64 X.a0)
      have g43 := g34.setCell (p := ⟨w3.heap.size, 0, none⟩) (by first | exact Nat.le_refl _ | omega | (simp; omega)) (.int .i64 X.a0)
      clear b32 b33 hr30 g34
      have o44 := o39.set (p := ⟨w3.heap.size, 1, none⟩) hgE (.int .i64 X.a1)
      clear o39
      have b45 := blk_far (p := ⟨w3.heap.size, 1, none⟩) b40 (by omega) (.int .i64 X.a1)
      have b46 := blk_set b41 1 (.int .i64 X.a1)
      rw [show (#[.int .i64 X.a0, .int .i64 y, .int .i64 z] : Array Value).setIfInBounds 1 (.int .i64 X.a1) = #[.int .i64 X.a0, .int .i64 X.a1, .int .i64 z] from rfl] at b46
      have hr47 := rd_setCell (a := ⟨w3.heap.size, 1, none⟩) hr42 (by first | omega | (simp; omega)) (.int .i64 X.a1)
      have g48 := g43.setCell (p := ⟨w3.heap.size, 1, none⟩) (by first | exact Nat.le_refl _ | omega | (simp; omega)) (.int .i64 X.a1)
      clear b40 b41 hr42 g43
      obtain ⟨e0, e1, e2, ef, el⟩ := blk3 b46
      go_wp2_with fail
      clear e0 e1 e2 ef el
      go_wp2_with fail
      refine (pick_any 20 _ R (p3 + 1) hr47 (by omega) (by omega)).mono ?_
      rintro e w5 ⟨v, rfl, v_0, v_1, -, hr49, hg50, -⟩
      have zs_w5 := hg50.size
      have o57 := own_gr o44 hg50 (by omega)
      clear o44
      have b51 := gr_blk hg50 b45 (by omega)
      have b52 := gr_blk hg50 b46 (by omega)
      have g53 := g48.trans (gr_of_below (B := w.heap.size) hg50 (by have := g48.size; first | exact this | (simp; omega) | omega) (by omega))
      have lt54 := rd_lt hr49
      have lt55 := blk_lt b51
      have lt56 := blk_lt b52
      clear hg50 hr47 g48 b45 b46
      rcases (show v = 0 ∨ v ≠ 0 by omega) with hv | hv
      · subst hv
        have o58 := o57.keep (alloc_below _ (.cells #[.int .i64 (-1), .int .i64 99, .int .i64 100] 3))
        clear o57
        have b59 := alloc_blk (.cells #[.int .i64 (-1), .int .i64 99, .int .i64 100] 3) b51
        have b60 := alloc_blk (.cells #[.int .i64 (-1), .int .i64 99, .int .i64 100] 3) b52
        have b61 := heap_alloc_new w5 (.cells #[.int .i64 (-1), .int .i64 99, .int .i64 100] 3)
        have hr62 := rd_alloc hr49 (.cells #[.int .i64 (-1), .int .i64 99, .int .i64 100] 3)
        have g63 := g53.alloc (by have := g53.size; first | exact this | (simp; omega) | omega) (.cells #[.int .i64 (-1), .int .i64 99, .int .i64 100] 3)
        clear b51 b52 hr49 g53
        go_wp2_with fail
        refine (oneL_any [-1, 99, 100] _ R (p3 + 1 + 1) 3 hr62 (by omega) (w5.heap.size) _ b61 rfl rfl (by omega) (by omega) (by omega)).mono ?_
        rintro e w6 ⟨q, q_m, rfl, hr64, hg65⟩
        have zs_w6 := hg65.size
        have o72 := own_gr o58 hg65 (by omega)
        clear o58
        have b66 := gr_blk hg65 b59 (by omega)
        have b67 := gr_blk hg65 b60 (by omega)
        have g68 := g63.trans (gr_of_below (B := w.heap.size) hg65 (by have := g63.size; first | exact this | (simp; omega) | omega) (by omega))
        have lt69 := rd_lt hr64
        have lt70 := blk_lt b66
        have lt71 := blk_lt b67
        clear hg65 hr62 g63 b59 b60
        have q_b : -1 ≤ q ∧ q ≤ 100 := by simp at q_m; omega
        clear q_m
        clear b61
        obtain ⟨e0, e1, e2, ef, el⟩ := blk3 b67
        go_wp2_with fail
        clear e0 e1 e2 ef el
        have o73 := o72.set (p := ⟨w3.heap.size, 2, none⟩) hgE (.int .i64 q)
        clear o72
        have b74 := blk_far (p := ⟨w3.heap.size, 2, none⟩) b66 (by omega) (.int .i64 q)
        have b75 := blk_set b67 2 (.int .i64 q)
        rw [show (#[.int .i64 X.a0, .int .i64 X.a1, .int .i64 z] : Array Value).setIfInBounds 2 (.int .i64 q) = #[.int .i64 X.a0, .int .i64 X.a1, .int .i64 q] from rfl] at b75
        have hr76 := rd_setCell (a := ⟨w3.heap.size, 2, none⟩) hr64 (by first | omega | (simp; omega)) (.int .i64 q)
        have g77 := g68.setCell (p := ⟨w3.heap.size, 2, none⟩) (by first | exact Nat.le_refl _ | omega | (simp; omega)) (.int .i64 q)
        clear b66 b67 hr64 g68
        obtain ⟨t0, t1, t2, tf, tl⟩ := blk3 b75
        obtain ⟨s0, s1, s2, sf, sl⟩ := blk3 b74
        clear hr76
        have o78 := o73.set (p := ⟨w.heap.size, 0, none⟩) hgS (.int .i64 X.a0)
        clear o73
        have b79 := blk_set b74 0 (.int .i64 X.a0)
        rw [show (#[.int .i64 0, .int .i64 0, .int .i64 0] : Array Value).setIfInBounds 0 (.int .i64 X.a0) = #[.int .i64 X.a0, .int .i64 0, .int .i64 0] from rfl] at b79
        have b80 := blk_far (p := ⟨w.heap.size, 0, none⟩) b75 (by omega) (.int .i64 X.a0)
        have g81 := g77.setCell (p := ⟨w.heap.size, 0, none⟩) (by first | exact Nat.le_refl _ | omega | (simp; omega)) (.int .i64 X.a0)
        clear b74 b75 g77
        have o82 := o78.set (p := ⟨w.heap.size, 1, none⟩) hgS (.int .i64 X.a1)
        clear o78
        have b83 := blk_set b79 1 (.int .i64 X.a1)
        rw [show (#[.int .i64 X.a0, .int .i64 0, .int .i64 0] : Array Value).setIfInBounds 1 (.int .i64 X.a1) = #[.int .i64 X.a0, .int .i64 X.a1, .int .i64 0] from rfl] at b83
        have b84 := blk_far (p := ⟨w.heap.size, 1, none⟩) b80 (by omega) (.int .i64 X.a1)
        have g85 := g81.setCell (p := ⟨w.heap.size, 1, none⟩) (by first | exact Nat.le_refl _ | omega | (simp; omega)) (.int .i64 X.a1)
        clear b79 b80 g81
        have o86 := o82.set (p := ⟨w.heap.size, 2, none⟩) hgS (.int .i64 q)
        clear o82
        have b87 := blk_set b83 2 (.int .i64 q)
        rw [show (#[.int .i64 X.a0, .int .i64 X.a1, .int .i64 0] : Array Value).setIfInBounds 2 (.int .i64 q) = #[.int .i64 X.a0, .int .i64 X.a1, .int .i64 q] from rfl] at b87
        have b88 := blk_far (p := ⟨w.heap.size, 2, none⟩) b84 (by omega) (.int .i64 q)
        have g89 := g85.setCell (p := ⟨w.heap.size, 2, none⟩) (by first | exact Nat.le_refl _ | omega | (simp; omega)) (.int .i64 q)
        clear b83 b84 g85
        obtain ⟨f0, f1, f2, ff, fl⟩ := blk3 b87
        have zz := g89.size
        have Hp := Lib.hid (show _ ∧ _ from ⟨(own_rebase (B := w.heap.size) o86 (by omega)).keep (Below.refl _ _).drew, g89.drew⟩)
        have He := Lib.hid (show _ ∧ _ ∧ _ from ⟨f0, f1, f2⟩)
        clear f0 f1 f2 ff fl o86 g89 b88 b87
        go_region
        all_goals go_wp2
        all_goals (try simp only [Exit.inBlock, Exit.then])
        all_goals refine bodyPost_ret (v := .tuple #[.slice (some ⟨b, off, none⟩) l.length c, .agg #[.int .i64 X.a0, .int .i64 X.a1, .int .i64 q]]) (by simp [results, Try.results28, go_sem, He.out.1, He.out.2.1, He.out.2.2]; try rfl) rfl ?_
        all_goals exact ⟨_, c, l, ⟨X.a0, X.a1, q⟩, rfl, Hp.out.1, l20, Hp.out.2⟩
      · have v0 : (v == 0) = false := by simp [hv]
        obtain ⟨e0, e1, e2, ef, el⟩ := blk3 b52
        go_wp2_with fail
        clear e0 e1 e2 ef el
        obtain ⟨t0, t1, t2, tf, tl⟩ := blk3 b52
        obtain ⟨s0, s1, s2, sf, sl⟩ := blk3 b51
        clear hr49
        have o58 := o57.set (p := ⟨w.heap.size, 0, none⟩) hgS (.int .i64 X.a0)
        clear o57
        have b59 := blk_set b51 0 (.int .i64 X.a0)
        rw [show (#[.int .i64 0, .int .i64 0, .int .i64 0] : Array Value).setIfInBounds 0 (.int .i64 X.a0) = #[.int .i64 X.a0, .int .i64 0, .int .i64 0] from rfl] at b59
        have b60 := blk_far (p := ⟨w.heap.size, 0, none⟩) b52 (by omega) (.int .i64 X.a0)
        have g61 := g53.setCell (p := ⟨w.heap.size, 0, none⟩) (by first | exact Nat.le_refl _ | omega | (simp; omega)) (.int .i64 X.a0)
        clear b51 b52 g53
        have o62 := o58.set (p := ⟨w.heap.size, 1, none⟩) hgS (.int .i64 X.a1)
        clear o58
        have b63 := blk_set b59 1 (.int .i64 X.a1)
        rw [show (#[.int .i64 X.a0, .int .i64 0, .int .i64 0] : Array Value).setIfInBounds 1 (.int .i64 X.a1) = #[.int .i64 X.a0, .int .i64 X.a1, .int .i64 0] from rfl] at b63
        have b64 := blk_far (p := ⟨w.heap.size, 1, none⟩) b60 (by omega) (.int .i64 X.a1)
        have g65 := g61.setCell (p := ⟨w.heap.size, 1, none⟩) (by first | exact Nat.le_refl _ | omega | (simp; omega)) (.int .i64 X.a1)
        clear b59 b60 g61
        have o66 := o62.set (p := ⟨w.heap.size, 2, none⟩) hgS (.int .i64 z)
        clear o62
        have b67 := blk_set b63 2 (.int .i64 z)
        rw [show (#[.int .i64 X.a0, .int .i64 X.a1, .int .i64 0] : Array Value).setIfInBounds 2 (.int .i64 z) = #[.int .i64 X.a0, .int .i64 X.a1, .int .i64 z] from rfl] at b67
        have b68 := blk_far (p := ⟨w.heap.size, 2, none⟩) b64 (by omega) (.int .i64 z)
        have g69 := g65.setCell (p := ⟨w.heap.size, 2, none⟩) (by first | exact Nat.le_refl _ | omega | (simp; omega)) (.int .i64 z)
        clear b63 b64 g65
        obtain ⟨f0, f1, f2, ff, fl⟩ := blk3 b67
        have zz := g69.size
        have Hp := Lib.hid (show _ ∧ _ from ⟨(own_rebase (B := w.heap.size) o66 (by omega)).keep (Below.refl _ _).drew, g69.drew⟩)
        have He := Lib.hid (show _ ∧ _ ∧ _ from ⟨f0, f1, f2⟩)
        clear f0 f1 f2 ff fl o66 g69 b68 b67
        go_region
        all_goals go_wp2
        all_goals (try simp only [Exit.inBlock, Exit.then])
        all_goals refine bodyPost_ret (v := .tuple #[.slice (some ⟨b, off, none⟩) l.length c, .agg #[.int .i64 X.a0, .int .i64 X.a1, .int .i64 z]]) (by simp [results, Try.results28, go_sem, He.out.1, He.out.2.1, He.out.2.2]; try rfl) rfl ?_
        all_goals exact ⟨_, c, l, ⟨X.a0, X.a1, z⟩, rfl, Hp.out.1, l20, Hp.out.2⟩
    · have u0 : (u == 0) = false := by simp [hu]
      obtain ⟨e0, e1, e2, ef, el⟩ := blk3 b33
      go_wp2_with fail
      clear e0 e1 e2 ef el
      go_wp2_with fail
      refine (pick_any 20 _ R (p3 + 1) hr30 (by omega) (by omega)).mono ?_
      rintro e w5 ⟨v, rfl, v_0, v_1, -, hr39, hg40, -⟩
      have zs_w5 := hg40.size
      have o47 := own_gr o38 hg40 (by omega)
      clear o38
      have b41 := gr_blk hg40 b32 (by omega)
      have b42 := gr_blk hg40 b33 (by omega)
      have g43 := g34.trans (gr_of_below (B := w.heap.size) hg40 (by have := g34.size; first | exact this | (simp; omega) | omega) (by omega))
      have lt44 := rd_lt hr39
      have lt45 := blk_lt b41
      have lt46 := blk_lt b42
      clear hg40 hr30 g34 b32 b33
      rcases (show v = 0 ∨ v ≠ 0 by omega) with hv | hv
      · subst hv
        have o48 := o47.keep (alloc_below _ (.cells #[.int .i64 (-1), .int .i64 99, .int .i64 100] 3))
        clear o47
        have b49 := alloc_blk (.cells #[.int .i64 (-1), .int .i64 99, .int .i64 100] 3) b41
        have b50 := alloc_blk (.cells #[.int .i64 (-1), .int .i64 99, .int .i64 100] 3) b42
        have b51 := heap_alloc_new w5 (.cells #[.int .i64 (-1), .int .i64 99, .int .i64 100] 3)
        have hr52 := rd_alloc hr39 (.cells #[.int .i64 (-1), .int .i64 99, .int .i64 100] 3)
        have g53 := g43.alloc (by have := g43.size; first | exact this | (simp; omega) | omega) (.cells #[.int .i64 (-1), .int .i64 99, .int .i64 100] 3)
        clear b41 b42 hr39 g43
        go_wp2_with fail
        refine (oneL_any [-1, 99, 100] _ R (p3 + 1 + 1) 3 hr52 (by omega) (w5.heap.size) _ b51 rfl rfl (by omega) (by omega) (by omega)).mono ?_
        rintro e w6 ⟨q, q_m, rfl, hr54, hg55⟩
        have zs_w6 := hg55.size
        have o62 := own_gr o48 hg55 (by omega)
        clear o48
        have b56 := gr_blk hg55 b49 (by omega)
        have b57 := gr_blk hg55 b50 (by omega)
        have g58 := g53.trans (gr_of_below (B := w.heap.size) hg55 (by have := g53.size; first | exact this | (simp; omega) | omega) (by omega))
        have lt59 := rd_lt hr54
        have lt60 := blk_lt b56
        have lt61 := blk_lt b57
        clear hg55 hr52 g53 b49 b50
        have q_b : -1 ≤ q ∧ q ≤ 100 := by simp at q_m; omega
        clear q_m
        clear b51
        obtain ⟨e0, e1, e2, ef, el⟩ := blk3 b57
        go_wp2_with fail
        clear e0 e1 e2 ef el
        have o63 := o62.set (p := ⟨w3.heap.size, 2, none⟩) hgE (.int .i64 q)
        clear o62
        have b64 := blk_far (p := ⟨w3.heap.size, 2, none⟩) b56 (by omega) (.int .i64 q)
        have b65 := blk_set b57 2 (.int .i64 q)
        rw [show (#[.int .i64 x, .int .i64 y, .int .i64 z] : Array Value).setIfInBounds 2 (.int .i64 q) = #[.int .i64 x, .int .i64 y, .int .i64 q] from rfl] at b65
        have hr66 := rd_setCell (a := ⟨w3.heap.size, 2, none⟩) hr54 (by first | omega | (simp; omega)) (.int .i64 q)
        have g67 := g58.setCell (p := ⟨w3.heap.size, 2, none⟩) (by first | exact Nat.le_refl _ | omega | (simp; omega)) (.int .i64 q)
        clear b56 b57 hr54 g58
        obtain ⟨t0, t1, t2, tf, tl⟩ := blk3 b65
        obtain ⟨s0, s1, s2, sf, sl⟩ := blk3 b64
        clear hr66
        have o68 := o63.set (p := ⟨w.heap.size, 0, none⟩) hgS (.int .i64 x)
        clear o63
        have b69 := blk_set b64 0 (.int .i64 x)
        rw [show (#[.int .i64 0, .int .i64 0, .int .i64 0] : Array Value).setIfInBounds 0 (.int .i64 x) = #[.int .i64 x, .int .i64 0, .int .i64 0] from rfl] at b69
        have b70 := blk_far (p := ⟨w.heap.size, 0, none⟩) b65 (by omega) (.int .i64 x)
        have g71 := g67.setCell (p := ⟨w.heap.size, 0, none⟩) (by first | exact Nat.le_refl _ | omega | (simp; omega)) (.int .i64 x)
        clear b64 b65 g67
        have o72 := o68.set (p := ⟨w.heap.size, 1, none⟩) hgS (.int .i64 y)
        clear o68
        have b73 := blk_set b69 1 (.int .i64 y)
        rw [show (#[.int .i64 x, .int .i64 0, .int .i64 0] : Array Value).setIfInBounds 1 (.int .i64 y) = #[.int .i64 x, .int .i64 y, .int .i64 0] from rfl] at b73
        have b74 := blk_far (p := ⟨w.heap.size, 1, none⟩) b70 (by omega) (.int .i64 y)
        have g75 := g71.setCell (p := ⟨w.heap.size, 1, none⟩) (by first | exact Nat.le_refl _ | omega | (simp; omega)) (.int .i64 y)
        clear b69 b70 g71
        have o76 := o72.set (p := ⟨w.heap.size, 2, none⟩) hgS (.int .i64 q)
        clear o72
        have b77 := blk_set b73 2 (.int .i64 q)
        rw [show (#[.int .i64 x, .int .i64 y, .int .i64 0] : Array Value).setIfInBounds 2 (.int .i64 q) = #[.int .i64 x, .int .i64 y, .int .i64 q] from rfl] at b77
        have b78 := blk_far (p := ⟨w.heap.size, 2, none⟩) b74 (by omega) (.int .i64 q)
        have g79 := g75.setCell (p := ⟨w.heap.size, 2, none⟩) (by first | exact Nat.le_refl _ | omega | (simp; omega)) (.int .i64 q)
        clear b73 b74 g75
        obtain ⟨f0, f1, f2, ff, fl⟩ := blk3 b77
        have zz := g79.size
        have Hp := Lib.hid (show _ ∧ _ from ⟨(own_rebase (B := w.heap.size) o76 (by omega)).keep (Below.refl _ _).drew, g79.drew⟩)
        have He := Lib.hid (show _ ∧ _ ∧ _ from ⟨f0, f1, f2⟩)
        clear f0 f1 f2 ff fl o76 g79 b78 b77
        go_region
        all_goals go_wp2
        all_goals (try simp only [Exit.inBlock, Exit.then])
        all_goals refine bodyPost_ret (v := .tuple #[.slice A l.length c, .agg #[.int .i64 x, .int .i64 y, .int .i64 q]]) (by simp [results, Try.results28, go_sem, He.out.1, He.out.2.1, He.out.2.2]; try rfl) rfl ?_
        all_goals exact ⟨_, c, l, ⟨x, y, q⟩, rfl, Hp.out.1, l20, Hp.out.2⟩
      · have v0 : (v == 0) = false := by simp [hv]
        obtain ⟨e0, e1, e2, ef, el⟩ := blk3 b42
        go_wp2_with fail
        clear e0 e1 e2 ef el
        obtain ⟨t0, t1, t2, tf, tl⟩ := blk3 b42
        obtain ⟨s0, s1, s2, sf, sl⟩ := blk3 b41
        clear hr39
        have o48 := o47.set (p := ⟨w.heap.size, 0, none⟩) hgS (.int .i64 x)
        clear o47
        have b49 := blk_set b41 0 (.int .i64 x)
        rw [show (#[.int .i64 0, .int .i64 0, .int .i64 0] : Array Value).setIfInBounds 0 (.int .i64 x) = #[.int .i64 x, .int .i64 0, .int .i64 0] from rfl] at b49
        have b50 := blk_far (p := ⟨w.heap.size, 0, none⟩) b42 (by omega) (.int .i64 x)
        have g51 := g43.setCell (p := ⟨w.heap.size, 0, none⟩) (by first | exact Nat.le_refl _ | omega | (simp; omega)) (.int .i64 x)
        clear b41 b42 g43
        have o52 := o48.set (p := ⟨w.heap.size, 1, none⟩) hgS (.int .i64 y)
        clear o48
        have b53 := blk_set b49 1 (.int .i64 y)
        rw [show (#[.int .i64 x, .int .i64 0, .int .i64 0] : Array Value).setIfInBounds 1 (.int .i64 y) = #[.int .i64 x, .int .i64 y, .int .i64 0] from rfl] at b53
        have b54 := blk_far (p := ⟨w.heap.size, 1, none⟩) b50 (by omega) (.int .i64 y)
        have g55 := g51.setCell (p := ⟨w.heap.size, 1, none⟩) (by first | exact Nat.le_refl _ | omega | (simp; omega)) (.int .i64 y)
        clear b49 b50 g51
        have o56 := o52.set (p := ⟨w.heap.size, 2, none⟩) hgS (.int .i64 z)
        clear o52
        have b57 := blk_set b53 2 (.int .i64 z)
        rw [show (#[.int .i64 x, .int .i64 y, .int .i64 0] : Array Value).setIfInBounds 2 (.int .i64 z) = #[.int .i64 x, .int .i64 y, .int .i64 z] from rfl] at b57
        have b58 := blk_far (p := ⟨w.heap.size, 2, none⟩) b54 (by omega) (.int .i64 z)
        have g59 := g55.setCell (p := ⟨w.heap.size, 2, none⟩) (by first | exact Nat.le_refl _ | omega | (simp; omega)) (.int .i64 z)
        clear b53 b54 g55
        obtain ⟨f0, f1, f2, ff, fl⟩ := blk3 b57
        have zz := g59.size
        have Hp := Lib.hid (show _ ∧ _ from ⟨(own_rebase (B := w.heap.size) o56 (by omega)).keep (Below.refl _ _).drew, g59.drew⟩)
        have He := Lib.hid (show _ ∧ _ ∧ _ from ⟨f0, f1, f2⟩)
        clear f0 f1 f2 ff fl o56 g59 b58 b57
        go_region
        all_goals go_wp2
        all_goals (try simp only [Exit.inBlock, Exit.then])
        all_goals refine bodyPost_ret (v := .tuple #[.slice A l.length c, .agg #[.int .i64 x, .int .i64 y, .int .i64 z]]) (by simp [results, Try.results28, go_sem, He.out.1, He.out.2.1, He.out.2.2]; try rfl) rfl ?_
        all_goals exact ⟨_, c, l, ⟨x, y, z⟩, rfl, Hp.out.1, l20, Hp.out.2⟩
end Go.Proofs.Ytjjjlpnbniofjab
