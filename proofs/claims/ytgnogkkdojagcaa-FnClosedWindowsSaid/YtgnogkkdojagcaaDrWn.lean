import Derived.Test.YtgnogkkdojagcaaTyWindow
import Derived.Test.YtgnogkkdojagcaaDrWn0
import Derived.Test.YtgnogkkdojagcaaDrL
import Derived.Test.YtgnogkkdojagcaaApp
import Derived.IntWalk
import Derived.Laws.OwnMore
namespace Go.Proofs.Ytgnogkkdojagcaa
open Go.RowKit
theorem gr_row {a w w1 w' : World} {R : Nat} {row : Option Nat} (h : Gr a w R) (hb : Below w.heap.size w w1) (hg : w1.grownBy w' row) (hr : ∀ g, row = some g → a.heap.size ≤ g) : Gr a w' R := by
  have h1 := gr_below h hb
  exact ⟨hg.os.trans h1.os, hg.tape.trans h1.tape, hg.output.trans h1.output, Nat.le_trans h1.size hg.size, fun i hi hne => (hg.block i (Nat.lt_of_lt_of_le hi h1.size) (fun e => by have := hr i e.symm; omega)).trans (h1.block i hi hne)⟩
theorem rd_row {a w w1 w' : World} {R p : Nat} {row : Option Nat} (h : Rd w R p) (hb : Below w.heap.size w w1) (hg : w1.grownBy w' row) (hr : ∀ g, row = some g → a.heap.size ≤ g) (hR : R < a.heap.size) : Rd w' R p := by
  have h1 := rd_below h hb
  have hlt := rd_lt h1
  exact rd_keep h1 (fun k hk => hg.block k (by omega) (fun e => by have := hr k e.symm; omega))
set_option maxRecDepth 100000 in
set_option maxHeartbeats 4000000 in
theorem anyWindows_any (w : World) (R p : Nat) (h : Rd w R p) (hp : p + 36 ≤ 1000000000) : Calls Try.prog 23 #[.pointer (some ⟨R, 0, none⟩)] w (ListPost WindowR.enc 2 32 7 36 w R p) := by
  obtain ⟨i0, hi0, hz0, hz1, hz2⟩ := info_parts WindowR.zero_info
  have hR := rd_lt h
  have g1 := gr_refl w R
  have hr2 := h
  have oe : Own WindowR.enc 2 32 (w.alloc (.cells #[] 32)) w.heap.size (.slice (some ⟨w.heap.size, 0, none⟩) 0 0) [] := ⟨by simp, (acc_made WindowR.enc 2 32 (Below.refl w.heap.size w)).1⟩
  have b3 := heap_alloc_new w (.cells #[] 32)
  have hr4 := rd_alloc hr2 (.cells #[] 32)
  have g5 := gr_alloc g1 (.cells #[] 32)
  clear hr2 g1
  go_enter Try.func23, Try.ntmps23
  have o6 := oe.keep (alloc_below _ (.cells #[.int .i64 0, .int .i64 1, .int .i64 2, .int .i64 3, .int .i64 4, .int .i64 5, .int .i64 7] 3))
  clear oe
  have b7 := alloc_blk (.cells #[.int .i64 0, .int .i64 1, .int .i64 2, .int .i64 3, .int .i64 4, .int .i64 5, .int .i64 7] 3) b3
  have b8 := heap_alloc_new (w.alloc (.cells #[] 32)) (.cells #[.int .i64 0, .int .i64 1, .int .i64 2, .int .i64 3, .int .i64 4, .int .i64 5, .int .i64 7] 3)
  have z9 : (w.alloc (.cells #[] 32)).heap.size = w.heap.size + 1 := by simp
  rw [z9] at b8
  have hr10 := rd_alloc hr4 (.cells #[.int .i64 0, .int .i64 1, .int .i64 2, .int .i64 3, .int .i64 4, .int .i64 5, .int .i64 7] 3)
  have g11 := gr_alloc g5 (.cells #[.int .i64 0, .int .i64 1, .int .i64 2, .int .i64 3, .int .i64 4, .int .i64 5, .int .i64 7] 3)
  clear b3 z9 hr4 g5
  go_wp2_with fail
  refine (oneL_any [0, 1, 2, 3, 4, 5, 7] _ R (p) 7 hr10 (by omega) (w.heap.size + 1) _ b8 rfl rfl (by omega) (by omega) (by omega)).mono ?_
  rintro e w1 ⟨n, n_m, rfl, hr12, hg13⟩
  have zs_w1 := hg13.size
  have o18 := own_gr o6 hg13 (by omega)
  clear o6
  have b14 := gr_blk hg13 b7 (by omega)
  have g15 := gr_trans g11 hg13
  have lt16 := rd_lt hr12
  have lt17 := blk_lt b14
  clear hg13 hr10 g11 b7
  have n_b : 0 ≤ n ∧ n ≤ 7 := by simp at n_m; omega
  clear n_m
  clear b8
  have Ho := Lib.hid (show _ ∧ _ ∧ _ from ⟨hr12, g15, o18⟩)
  clear hr12 g15 o18 b14
  obtain ⟨N, rfl⟩ := Int.eq_ofNat_of_zero_le n_b.1
  have hN : N ≤ 7 := by omega
  go_wp2
  go_loopw [3, 4] (fun v n wr => ∃ (m p' : Nat) (A : Option Addr) (c : Nat) (l : List WindowR), m ≤ 7 ∧ n = .int .i64 m ∧ v = .slice A l.length c ∧ p' + 5 * m ≤ p + 36 ∧ l.length + m ≤ 7 ∧ Rd wr R p' ∧ Gr w wr R ∧ Own WindowR.enc 2 32 wr w.heap.size (.slice A l.length c) l) (fun _ n _ => (intOf n).toNat)
  case atStart => exact ⟨N, p + 1, _, _, [], hN, rfl, rfl, by omega, by simp; omega, Ho.out.1, Ho.out.2.1, Ho.out.2.2⟩
  case round =>
    obtain ⟨m, p', A, c, l, hm, rfl, rfl, hp', hl, hr, hg, ho⟩ := hrel
    clear Ho
    have zw := hg.size
    rcases m with _ | m
    · have Hp := Lib.hid (show _ ∧ _ ∧ _ from ⟨hr, hg, ho⟩)
      clear hr hg ho
      go_wp2
      all_goals go_returns
      all_goals exact ⟨A, c, l, p', rfl, Hp.out.2.2, by omega, by omega, Hp.out.1, Hp.out.2.1⟩
    · go_wp2_with fail
      refine (anyWindow_any _ R p' hr (by omega)).mono ?_
      rintro e w2 ⟨x, y, p2, rfl, -, -, -, -, hp2, hr81, hg82⟩
      have zs_w2 := hg82.size
      have o85 := own_gr ho hg82 (by omega)
      clear ho
      have g83 := gr_trans hg hg82
      have lt84 := rd_lt hr81
      clear hg82 hr hg
      have zA := g83.size
      have hbk : ∀ g, Value.ownBlock (.slice A l.length c) = some g → w.heap.size ≤ g := fun g hg => (o85.lt g hg).1
      go_wp2_with (first | (at_builtin; refine wpList_append_own _ rfl _ _ 23 rfl w.heap.size 32 i0 _ 2 16 Try.underlying23 hi0 hz0 hz1 hz2 rfl (by decide) _ _ _ rfl (o85.2.alloc _) ⟨w2.heap.size, 0, none⟩ 1 1 (WindowR.enc ⟨x, y⟩) rfl rfl ?c1a ?c2a ?c3a ?c4a ?c5a ?_) | fail)
      case c1a =>
        intro j u hu
        rcases j with _ | _ | j <;> simp [WindowR.enc] at hu <;> subst hu <;> simp [Addr.add, go_sem]
      case c2a => intro u hu; simp [WindowR.enc] at hu; rcases hu with rfl | rfl <;> rfl
      case c3a => unfold maxLen; omega
      case c4a => omega
      case c5a => first | omega | (simp; done) | (simp; omega)
      intro v' w9 hown9 hg9 _
      have hbb := alloc_below w2 (.cells #[.int .i64 x, .int .i64 y] 32)
      have hr9 := rd_row (a := w) hr81 hbb hg9 hbk hR
      have hg10 := gr_row (a := w) g83 hbb hg9 hbk
      have ho9 : Own WindowR.enc 2 32 w9 w.heap.size v' (l ++ [(⟨x, y⟩ : WindowR)]) := ⟨by simp; omega, by simpa [List.flatMap_append, WindowR.enc] using hown9⟩
      obtain ⟨A9, c9, rfl⟩ := ho9.form
      have hl9 : (l ++ [(⟨x, y⟩ : WindowR)]).length = l.length + 1 := by simp
      have Hn := Lib.hid (show _ ∧ _ ∧ _ from ⟨hr9, hg10, ho9⟩)
      clear hr9 hg10 ho9 hbb hown9 hg9 hbk hr81 g83 o85
      go_wp2
      go_roundw
      case rel => exact ⟨m, p2, A9, c9, _, by omega, by go_num, rfl, by omega, by omega, Hn.out.1, Hn.out.2.1, Hn.out.2.2⟩
      case measure => first | (simp [intOf]; done) | (simp [intOf]; omega)
def DrCw (w : World) (e : Ending) (w' : World) : Prop :=
  ∃ (A : Option Addr) (c : Nat) (l : List WindowR) (n : Int), e = .returned (.tuple #[.slice A l.length c, .int .i64 n]) ∧ Own WindowR.enc 2 32 w' w.heap.size (.slice A l.length c) l ∧ l.length ≤ 7 ∧ -2 ≤ n ∧ n ≤ 1999 ∧ Below w.heap.size w w'
set_option maxHeartbeats 2000000 in
theorem drawClosedWindows_any (w : World) (a : Option Addr) (len cap : Nat) (z : List Int) (h : IsRow .u8 w a len cap z) (hl : len ≤ 1048576) : Calls Try.prog 7 #[.slice a len cap] w (DrCw w) := by
  go_enter Try.func7, Try.ntmps7
  have g1 := Below.refl w.heap.size w
  have ir2 := isRow_keep h g1
  clear h
  go_wp2_with fail
  refine (newReader_any _ a len cap z ir2 hl).mono ?_
  rintro e w1 ⟨R, rfl, hR, hrN, hbN⟩
  have g4 := g1.trans (hbN.mono (by omega))
  have lt5 := rd_lt hrN
  have sz6 := g4.size
  clear ir2 g1 hbN
  go_wp2_with fail
  refine (anyWindows_any _ R 0 hrN (by omega)).mono ?_
  rintro e w2 ⟨A, c, l, p2, rfl, o1, l20, hp2, hr7, hg8⟩
  have zs_w2 := hg8.size
  have g9 := g4.trans (gr_of_below (B := w.heap.size) hg8 (by have := g4.size; first | exact this | (simp; omega) | omega) (by omega))
  have lt10 := rd_lt hr7
  clear hg8 hrN g4
  have o11 := o1.keep (alloc_below _ (.cells #[.int .i64 (-1), .int .i64 5, .int .i64 12, .int .i64 20, .int .i64 30, .int .i64 1998, .int .i64 1999, .int .i64 (-2)] 3))
  clear o1
  have b12 := heap_alloc_new w2 (.cells #[.int .i64 (-1), .int .i64 5, .int .i64 12, .int .i64 20, .int .i64 30, .int .i64 1998, .int .i64 1999, .int .i64 (-2)] 3)
  have hr13 := rd_alloc hr7 (.cells #[.int .i64 (-1), .int .i64 5, .int .i64 12, .int .i64 20, .int .i64 30, .int .i64 1998, .int .i64 1999, .int .i64 (-2)] 3)
  have g14 := g9.alloc (by have := g9.size; first | exact this | (simp; omega) | omega) (.cells #[.int .i64 (-1), .int .i64 5, .int .i64 12, .int .i64 20, .int .i64 30, .int .i64 1998, .int .i64 1999, .int .i64 (-2)] 3)
  clear hr7 g9
  go_wp2_with fail
  refine (oneL_any [-1, 5, 12, 20, 30, 1998, 1999, -2] _ R (p2) 8 hr13 (by omega) (w2.heap.size) _ b12 rfl rfl (by omega) (by omega) (by omega)).mono ?_
  rintro e w3 ⟨n, n_m, rfl, hr15, hg16⟩
  have zs_w3 := hg16.size
  have o19 := own_gr o11 hg16 (by omega)
  clear o11
  have g17 := g14.trans (gr_of_below (B := w.heap.size) hg16 (by have := g14.size; first | exact this | (simp; omega) | omega) (by omega))
  have lt18 := rd_lt hr15
  clear hg16 hr13 g14
  have n_b : -2 ≤ n ∧ n ≤ 1999 := by simp at n_m; omega
  clear n_m
  clear b12
  have zz := g17.size
  have Hp := Lib.hid (show _ ∧ _ from ⟨own_rebase (B := w.heap.size) o19 (by omega), g17⟩)
  clear o19 g17
  go_wp2
  refine bodyPost_ret (v := .tuple #[.slice A l.length c, .int .i64 n]) (by simp [results, Try.results7, go_sem]) rfl ?_
  exact ⟨A, c, l, n, rfl, Hp.out.1, l20, n_b.1, n_b.2, Hp.out.2⟩
end Go.Proofs.Ytgnogkkdojagcaa
