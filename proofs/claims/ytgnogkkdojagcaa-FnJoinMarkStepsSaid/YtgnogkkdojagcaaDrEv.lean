import Derived.Test.YtgnogkkdojagcaaEvt
import Derived.Test.YtgnogkkdojagcaaTyEvent
import Derived.Test.YtgnogkkdojagcaaDrL
import Derived.Test.YtgnogkkdojagcaaApp
import Derived.IntWalk
import Derived.Laws.OwnMore
namespace Go.Proofs.Ytgnogkkdojagcaa
open Go.RowKit
theorem gr_row {a w w1 w' : World} {R : Nat} {row : Option Nat} (h : Gr a w R) (hb : Below w.heap.size w w1) (hg : w1.grownBy w' row) (hr : ∀ g, row = some g → a.heap.size ≤ g) : Gr a w' R := by
  have h1 := gr_below h hb
  exact ⟨hg.os.trans h1.os, hg.tape.trans h1.tape, hg.output.trans h1.output, Nat.le_trans h1.size hg.size, fun i hi hne => (hg.block i (Nat.lt_of_lt_of_le hi h1.size) (fun e => by have := hr i e.symm; omega)).trans (h1.block i hi hne)⟩
theorem rd_row {a w w1 w' : World} {R p : Nat} {row : Option Nat} (h : Rd w R p) (hb : Below w.heap.size w w1) (hg : w1.grownBy w' row) (hr : ∀ g, row = some g → a.heap.size ≤ g) (hR : R < a.heap.size) : Rd w' R p := by
  have h1 := rd_below h hb
  have hlt := rd_lt h1
  exact rd_keep h1 (fun k hk => hg.block k (by omega) (fun e => by have := hr k e.symm; omega))
set_option maxRecDepth 100000 in
set_option maxHeartbeats 4000000 in
theorem randomEvents_any (w : World) (R p : Nat) (h : Rd w R p) (hp : p + 80 ≤ 1000000000) : Calls Try.prog 53 #[.pointer (some ⟨R, 0, none⟩)] w (ListPost EventR.enc 3 42 12 80 w R p) := by
  obtain ⟨i0, hi0, hz0, hz1, hz2⟩ := info_parts EventR.zero_info
  have hR := rd_lt h
  have g1 := gr_refl w R
  have hr2 := h
  have oe : Own EventR.enc 3 42 (w.alloc (.cells #[] 42)) w.heap.size (.slice (some ⟨w.heap.size, 0, none⟩) 0 0) [] := ⟨by simp, (acc_made EventR.enc 3 42 (Below.refl w.heap.size w)).1⟩
  have b3 := heap_alloc_new w (.cells #[] 42)
  have hr4 := rd_alloc hr2 (.cells #[] 42)
  have g5 := gr_alloc g1 (.cells #[] 42)
  clear hr2 g1
  go_enter Try.func53, Try.ntmps53
  have o6 := oe.keep (alloc_below _ (.cells #[.int .i64 3, .int .i64 5, .int .i64 6, .int .i64 8, .int .i64 4, .int .i64 2, .int .i64 1, .int .i64 0, .int .i64 12] 3))
  clear oe
  have b7 := alloc_blk (.cells #[.int .i64 3, .int .i64 5, .int .i64 6, .int .i64 8, .int .i64 4, .int .i64 2, .int .i64 1, .int .i64 0, .int .i64 12] 3) b3
  have b8 := heap_alloc_new (w.alloc (.cells #[] 42)) (.cells #[.int .i64 3, .int .i64 5, .int .i64 6, .int .i64 8, .int .i64 4, .int .i64 2, .int .i64 1, .int .i64 0, .int .i64 12] 3)
  have z9 : (w.alloc (.cells #[] 42)).heap.size = w.heap.size + 1 := by simp
  rw [z9] at b8
  have hr10 := rd_alloc hr4 (.cells #[.int .i64 3, .int .i64 5, .int .i64 6, .int .i64 8, .int .i64 4, .int .i64 2, .int .i64 1, .int .i64 0, .int .i64 12] 3)
  have g11 := gr_alloc g5 (.cells #[.int .i64 3, .int .i64 5, .int .i64 6, .int .i64 8, .int .i64 4, .int .i64 2, .int .i64 1, .int .i64 0, .int .i64 12] 3)
  clear b3 z9 hr4 g5
  go_wp2_with fail
  refine (oneL_any [3, 5, 6, 8, 4, 2, 1, 0, 12] _ R (p) 9 hr10 (by omega) (w.heap.size + 1) _ b8 rfl rfl (by omega) (by omega) (by omega)).mono ?_
  rintro e w1 ⟨n, n_m, rfl, hr12, hg13⟩
  have zs_w1 := hg13.size
  have o18 := own_gr o6 hg13 (by omega)
  clear o6
  have b14 := gr_blk hg13 b7 (by omega)
  have g15 := gr_trans g11 hg13
  have lt16 := rd_lt hr12
  have lt17 := blk_lt b14
  clear hg13 hr10 g11 b7
  have n_b : 0 ≤ n ∧ n ≤ 12 := by simp at n_m; omega
  clear n_m
  clear b8
  have Ho := Lib.hid (show _ ∧ _ ∧ _ from ⟨hr12, g15, o18⟩)
  clear hr12 g15 o18 b14
  obtain ⟨N, rfl⟩ := Int.eq_ofNat_of_zero_le n_b.1
  have hN : N ≤ 12 := by omega
  go_wp2
  go_loopw [3, 4, 5] (fun v t n wr => ∃ (m p' : Nat) (A : Option Addr) (c : Nat) (l : List EventR) (q : Int), m ≤ 12 ∧ n = .int .i64 m ∧ t = .int .i64 q ∧ 0 ≤ q ∧ q ≤ 1000 - 10 * m ∧ v = .slice A l.length c ∧ p' + 6 * m ≤ p + 73 ∧ l.length + m ≤ 12 ∧ Rd wr R p' ∧ Gr w wr R ∧ Own EventR.enc 3 42 wr w.heap.size (.slice A l.length c) l) (fun _ _ n _ => (intOf n).toNat)
  case atStart => exact ⟨N, p + 1, _, _, [], 0, hN, rfl, rfl, by omega, by omega, rfl, by omega, by simp; omega, Ho.out.1, Ho.out.2.1, Ho.out.2.2⟩
  case round =>
    obtain ⟨m, p', A, c, l, q, hm, rfl, rfl, hq0, hq1, rfl, hp', hl, hr, hg, ho⟩ := hrel
    clear Ho
    have zw := hg.size
    rcases m with _ | m
    · have Hp := Lib.hid (show _ ∧ _ ∧ _ from ⟨hr, hg, ho⟩)
      clear hr hg ho
      go_wp2
      all_goals go_returns
      all_goals exact ⟨A, c, l, p', rfl, Hp.out.2.2, by omega, by omega, Hp.out.1, Hp.out.2.1⟩
    · go_wp2_with fail
      refine (randomEvent_any _ R p' hr (by omega)).mono ?_
      rintro e w4 ⟨x, y, z, p2, rfl, x0, x1, y0, y1, z0, z1, hp2, hr41, hg42⟩
      have zs_w4 := hg42.size
      have hgl : ∀ g, Value.ownBlock (.slice A l.length c) = some g → g < wr.heap.size := fun g hg => (ho.lt g hg).2
      have hgE : ∀ g, Value.ownBlock (.slice A l.length c) = some g → g ≠ w4.heap.size := fun g hg => by have := hgl g hg; omega
      clear hgl
      have o45 := own_gr ho hg42 (by omega)
      clear ho
      have g43 := gr_trans hg hg42
      have lt44 := rd_lt hr41
      clear hg42 hr hg
      have o46 := o45.keep (alloc_below _ (.cells #[.int .i64 x, .int .i64 y, .int .i64 z] 42))
      clear o45
      have b47 := heap_alloc_new w4 (.cells #[.int .i64 x, .int .i64 y, .int .i64 z] 42)
      have hr48 := rd_alloc hr41 (.cells #[.int .i64 x, .int .i64 y, .int .i64 z] 42)
      have g49 := gr_alloc g43 (.cells #[.int .i64 x, .int .i64 y, .int .i64 z] 42)
      clear hr41 g43
      go_wp2_with fail
      refine (pick_any 7 _ R (p2) hr48 (by omega) (by omega)).mono ?_
      rintro e w5 ⟨k, rfl, k_0, k_1, -, hr50, hg51, -⟩
      have zs_w5 := hg51.size
      have o56 := own_gr o46 hg51 (by omega)
      clear o46
      have b52 := gr_blk hg51 b47 (by omega)
      have g53 := gr_trans g49 hg51
      have lt54 := rd_lt hr50
      have lt55 := blk_lt b52
      clear hg51 hr48 g49 b47
      have k_2 := k_1 (by omega)
      have hw1 : IntKind.i64.wrap (q + k) = q + k := IntWalk.i64_in _ (by omega)
      go_wp2_with fail
      refine (pick_any 3 _ R (p2 + 1) hr50 (by omega) (by omega)).mono ?_
      rintro e w6 ⟨j, rfl, j_0, j_1, -, hr57, hg58, -⟩
      have zs_w6 := hg58.size
      have o63 := own_gr o56 hg58 (by omega)
      clear o56
      have b59 := gr_blk hg58 b52 (by omega)
      have g60 := gr_trans g53 hg58
      have lt61 := rd_lt hr57
      have lt62 := blk_lt b59
      clear hg58 hr50 g53 b52
      have j_2 := j_1 (by omega)
      rcases (show j ≤ 0 ∨ 0 < j by omega) with hj | hj
      · have hjd : decide (0 < j) = false := decide_eq_false (by omega)
        obtain ⟨s0, s1, s2, sf, sl⟩ := blk3 b59
        have zA := g60.size
        have hbk : ∀ g, Value.ownBlock (.slice A l.length c) = some g → w.heap.size ≤ g := fun g hg => (o63.lt g hg).1
        go_wp2_with (first | (at_builtin; refine wpList_append_own _ rfl _ _ 34 rfl w.heap.size 42 i0 _ 3 24 Try.underlying34 hi0 hz0 hz1 hz2 rfl (by decide) _ _ _ rfl (o63.2.alloc _) ⟨w6.heap.size, 0, none⟩ 1 1 (EventR.enc ⟨x, y, z⟩) rfl rfl ?c1a ?c2a ?c3a ?c4a ?c5a ?_) | fail)
        case c1a =>
          intro j u hu
          rcases j with _ | _ | _ | j <;> simp [EventR.enc] at hu <;> subst hu <;> simp [Addr.add, go_sem]
        case c2a => intro u hu; simp [EventR.enc] at hu; rcases hu with rfl | rfl | rfl <;> rfl
        case c3a => unfold maxLen; omega
        case c4a => omega
        case c5a => first | omega | (simp; done) | (simp; omega)
        intro v' w9 hown9 hg9 _
        have hbb := alloc_below w6 (.cells #[.int .i64 x, .int .i64 y, .int .i64 z] 42)
        have hr9 := rd_row (a := w) hr57 hbb hg9 hbk hR
        have hg10 := gr_row (a := w) g60 hbb hg9 hbk
        have ho9 : Own EventR.enc 3 42 w9 w.heap.size v' (l ++ [(⟨x, y, z⟩ : EventR)]) := ⟨by simp; omega, by simpa [List.flatMap_append, EventR.enc] using hown9⟩
        obtain ⟨A9, c9, rfl⟩ := ho9.form
        have hl9 : (l ++ [(⟨x, y, z⟩ : EventR)]).length = l.length + 1 := by simp
        have Hn := Lib.hid (show _ ∧ _ ∧ _ from ⟨hr9, hg10, ho9⟩)
        clear hr9 hg10 ho9 hbb hown9 hg9 hbk hr57 g60 o63 b59
        go_wp2
        go_roundw
        case rel => exact ⟨m, p2 + 1 + 1, A9, c9, _, q + k, by omega, by go_num, rfl, by omega, by omega, rfl, by omega, by omega, Hn.out.1, Hn.out.2.1, Hn.out.2.2⟩
        case measure => first | (simp [intOf]; done) | (simp [intOf]; omega)
      · have hjd : decide (0 < j) = true := decide_eq_true hj
        go_wp2_with fail
        refine (pick_any 3 _ R (p2 + 1 + 1) hr57 (by omega) (by omega)).mono ?_
        rintro e w7 ⟨i, rfl, i_0, i_1, -, hr64, hg65, -⟩
        have zs_w7 := hg65.size
        have o70 := own_gr o63 hg65 (by omega)
        clear o63
        have b66 := gr_blk hg65 b59 (by omega)
        have g67 := gr_trans g60 hg65
        have lt68 := rd_lt hr64
        have lt69 := blk_lt b66
        clear hg65 hr57 g60 b59
        have i_2 := i_1 (by omega)
        have hw2 : IntKind.i64.wrap (q + k - i) = q + k - i := IntWalk.i64_in _ (by omega)
        obtain ⟨s0, s1, s2, sf, sl⟩ := blk3 b66
        by_cases hmx : i < q + k
        · have _t := hmx
          have o71 := o70.set (p := ⟨w4.heap.size, 0, none⟩) hgE (.int .i64 (q + k - i))
          clear o70
          have b72 := blk_set b66 0 (.int .i64 (q + k - i))
          rw [show (#[.int .i64 x, .int .i64 y, .int .i64 z] : Array Value).setIfInBounds 0 (.int .i64 (q + k - i)) = #[.int .i64 (q + k - i), .int .i64 y, .int .i64 z] from rfl] at b72
          have hr73 := rd_setCell (a := ⟨w4.heap.size, 0, none⟩) hr64 (by first | omega | (simp; omega)) (.int .i64 (q + k - i))
          have g74 := gr_setCell (p := ⟨w4.heap.size, 0, none⟩) g67 (by first | exact Nat.le_refl _ | omega | (simp; omega)) (.int .i64 (q + k - i))
          clear b66 hr64 g67
          have zA := g74.size
          have hbk : ∀ g, Value.ownBlock (.slice A l.length c) = some g → w.heap.size ≤ g := fun g hg => (o71.lt g hg).1
          go_wp2_with (first | (at_builtin; refine wpList_append_own _ rfl _ _ 34 rfl w.heap.size 42 i0 _ 3 24 Try.underlying34 hi0 hz0 hz1 hz2 rfl (by decide) _ _ _ rfl (o71.2.alloc _) ⟨w7.heap.size, 0, none⟩ 1 1 (EventR.enc ⟨(q + k - i), y, z⟩) rfl rfl ?c1b ?c2b ?c3b ?c4b ?c5b ?_) | fail)
          case c1b =>
            intro j u hu
            rcases j with _ | _ | _ | j <;> simp [EventR.enc] at hu <;> subst hu <;> simp [Addr.add, go_sem]
          case c2b => intro u hu; simp [EventR.enc] at hu; rcases hu with rfl | rfl | rfl <;> rfl
          case c3b => unfold maxLen; omega
          case c4b => omega
          case c5b => first | omega | (simp; done) | (simp; omega)
          intro v' w9 hown9 hg9 _
          have hbb := alloc_below (w7.setCell ⟨w4.heap.size, 0, none⟩ (.int .i64 (q + k - i))) (.cells #[.int .i64 (q + k - i), .int .i64 y, .int .i64 z] 42)
          have hr9 := rd_row (a := w) hr73 hbb hg9 hbk hR
          have hg10 := gr_row (a := w) g74 hbb hg9 hbk
          have ho9 : Own EventR.enc 3 42 w9 w.heap.size v' (l ++ [(⟨(q + k - i), y, z⟩ : EventR)]) := ⟨by simp; omega, by simpa [List.flatMap_append, EventR.enc] using hown9⟩
          obtain ⟨A9, c9, rfl⟩ := ho9.form
          have hl9 : (l ++ [(⟨(q + k - i), y, z⟩ : EventR)]).length = l.length + 1 := by simp
          have Hn := Lib.hid (show _ ∧ _ ∧ _ from ⟨hr9, hg10, ho9⟩)
          clear hr9 hg10 ho9 hbb hown9 hg9 hbk hr73 g74 o71 b72
          go_wp2
          go_roundw
          case rel => exact ⟨m, p2 + 1 + 1 + 1, A9, c9, _, q + k, by omega, by go_num, rfl, by omega, by omega, rfl, by omega, by omega, Hn.out.1, Hn.out.2.1, Hn.out.2.2⟩
          case measure => first | (simp [intOf]; done) | (simp [intOf]; omega)
        · have _t := hmx
          have o71 := o70.set (p := ⟨w4.heap.size, 0, none⟩) hgE (.int .i64 0)
          clear o70
          have b72 := blk_set b66 0 (.int .i64 0)
          rw [show (#[.int .i64 x, .int .i64 y, .int .i64 z] : Array Value).setIfInBounds 0 (.int .i64 0) = #[.int .i64 0, .int .i64 y, .int .i64 z] from rfl] at b72
          have hr73 := rd_setCell (a := ⟨w4.heap.size, 0, none⟩) hr64 (by first | omega | (simp; omega)) (.int .i64 0)
          have g74 := gr_setCell (p := ⟨w4.heap.size, 0, none⟩) g67 (by first | exact Nat.le_refl _ | omega | (simp; omega)) (.int .i64 0)
          clear b66 hr64 g67
          have zA := g74.size
          have hbk : ∀ g, Value.ownBlock (.slice A l.length c) = some g → w.heap.size ≤ g := fun g hg => (o71.lt g hg).1
          go_wp2_with (first | (at_builtin; refine wpList_append_own _ rfl _ _ 34 rfl w.heap.size 42 i0 _ 3 24 Try.underlying34 hi0 hz0 hz1 hz2 rfl (by decide) _ _ _ rfl (o71.2.alloc _) ⟨w7.heap.size, 0, none⟩ 1 1 (EventR.enc ⟨0, y, z⟩) rfl rfl ?c1d ?c2d ?c3d ?c4d ?c5d ?_) | fail)
          case c1d =>
            intro j u hu
            rcases j with _ | _ | _ | j <;> simp [EventR.enc] at hu <;> subst hu <;> simp [Addr.add, go_sem]
          case c2d => intro u hu; simp [EventR.enc] at hu; rcases hu with rfl | rfl | rfl <;> rfl
          case c3d => unfold maxLen; omega
          case c4d => omega
          case c5d => first | omega | (simp; done) | (simp; omega)
          intro v' w9 hown9 hg9 _
          have hbb := alloc_below (w7.setCell ⟨w4.heap.size, 0, none⟩ (.int .i64 0)) (.cells #[.int .i64 0, .int .i64 y, .int .i64 z] 42)
          have hr9 := rd_row (a := w) hr73 hbb hg9 hbk hR
          have hg10 := gr_row (a := w) g74 hbb hg9 hbk
          have ho9 : Own EventR.enc 3 42 w9 w.heap.size v' (l ++ [(⟨0, y, z⟩ : EventR)]) := ⟨by simp; omega, by simpa [List.flatMap_append, EventR.enc] using hown9⟩
          obtain ⟨A9, c9, rfl⟩ := ho9.form
          have hl9 : (l ++ [(⟨0, y, z⟩ : EventR)]).length = l.length + 1 := by simp
          have Hn := Lib.hid (show _ ∧ _ ∧ _ from ⟨hr9, hg10, ho9⟩)
          clear hr9 hg10 ho9 hbb hown9 hg9 hbk hr73 g74 o71 b72
          go_wp2
          go_roundw
          case rel => exact ⟨m, p2 + 1 + 1 + 1, A9, c9, _, q + k, by omega, by go_num, rfl, by omega, by omega, rfl, by omega, by omega, Hn.out.1, Hn.out.2.1, Hn.out.2.2⟩
          case measure => first | (simp [intOf]; done) | (simp [intOf]; omega)
end Go.Proofs.Ytgnogkkdojagcaa
