import Derived.Test.YtjjjlpnbniofjabDrT
import Derived.Deep.RegionHeld3
import Derived.IntWalk
namespace Go.Proofs.Ytjjjlpnbniofjab
open Go.RowKit
def DrFire (w : World) (e : Ending) (w' : World) : Prop :=
  ∃ (A : Option Addr) (c : Nat) (l : List TimerR) (n : Int), e = .returned (.tuple #[.slice A l.length c, .int .i64 n]) ∧ Own TimerR.enc 3 25 w' w.heap.size (.slice A l.length c) l ∧ l.length ≤ 20 ∧ -1 ≤ n ∧ n ≤ 9999 ∧ Below w.heap.size w w'
set_option maxHeartbeats 2000000 in
theorem drawFireTimers_any (w : World) (a : Option Addr) (len cap : Nat) (z : List Int) (h : IsRow .u8 w a len cap z) (hl : len ≤ 1048576) : Calls Try.prog 22 #[.slice a len cap] w (DrFire w) := by
  go_enter Try.func22, Try.ntmps22
  have g1 := Below.refl w.heap.size w
  have ir2 := isRow_keep h g1
  clear h
  go_wp2_with fail
  refine (newReader_any _ a len cap z ir2 hl).mono ?_
  rintro e w1 ⟨R, rfl, hR, hrN, hbN⟩
  have g4 := g1.trans (hbN.mono (by omega))
  have lt5 := rd_lt hrN
  have sz6 := g4.size
  clear ir2 g1 hbN
  go_wp2_with fail
  refine (anyTimers_any _ R 0 hrN (by omega)).mono ?_
  rintro e w2 ⟨A, c, l, p2, rfl, o1, l20, hp2, hr7, hg8⟩
  have zs_w2 := hg8.size
  have g9 := g4.trans (gr_of_below (B := w.heap.size) hg8 (by have := g4.size; first | exact this | (simp; omega) | omega) (by omega))
  have lt10 := rd_lt hr7
  clear hg8 hrN g4
  have o11 := o1.keep (alloc_below _ (.cells #[.int .i64 5, .int .i64 3, .int .i64 8, .int .i64 0, .int .i64 (-1), .int .i64 12, .int .i64 9999] 3))
  clear o1
  have b12 := heap_alloc_new w2 (.cells #[.int .i64 5, .int .i64 3, .int .i64 8, .int .i64 0, .int .i64 (-1), .int .i64 12, .int .i64 9999] 3)
  have hr13 := rd_alloc hr7 (.cells #[.int .i64 5, .int .i64 3, .int .i64 8, .int .i64 0, .int .i64 (-1), .int .i64 12, .int .i64 9999] 3)
  have g14 := g9.alloc (by have := g9.size; first | exact this | (simp; omega) | omega) (.cells #[.int .i64 5, .int .i64 3, .int .i64 8, .int .i64 0, .int .i64 (-1), .int .i64 12, .int .i64 9999] 3)
  clear hr7 g9
  go_wp2_with fail
  refine (oneL_any [5, 3, 8, 0, -1, 12, 9999] _ R (p2) 7 hr13 (by omega) (w2.heap.size) _ b12 rfl rfl (by omega) (by omega) (by omega)).mono ?_
  rintro e w3 ⟨n, n_m, rfl, hr15, hg16⟩
  have zs_w3 := hg16.size
  have o19 := own_gr o11 hg16 (by omega)
  clear o11
  have g17 := g14.trans (gr_of_below (B := w.heap.size) hg16 (by have := g14.size; first | exact this | (simp; omega) | omega) (by omega))
  have lt18 := rd_lt hr15
  clear hg16 hr13 g14
  have n_b : -1 ≤ n ∧ n ≤ 9999 := by simp at n_m; omega
  clear n_m
  clear b12
  have zz := g17.size
  have Hp := Lib.hid (show _ ∧ _ from ⟨own_rebase (B := w.heap.size) o19 (by omega), g17⟩)
  clear o19 g17
  go_wp2
  refine bodyPost_ret (v := .tuple #[.slice A l.length c, .int .i64 n]) (by simp [results, Try.results22, go_sem]) rfl ?_
  exact ⟨A, c, l, n, rfl, Hp.out.1, l20, n_b.1, n_b.2, Hp.out.2⟩
def DrNext (w : World) (e : Ending) (w' : World) : Prop :=
  ∃ (A : Option Addr) (c : Nat) (l : List TimerR) (n : Int), e = .returned (.tuple #[.slice A l.length c, .int .i64 n]) ∧ Own TimerR.enc 3 25 w' w.heap.size (.slice A l.length c) l ∧ l.length ≤ 20 ∧ -1 ≤ n ∧ n ≤ 6 ∧ Below w.heap.size w w'
set_option maxHeartbeats 2000000 in
theorem drawNextTimer_any (w : World) (a : Option Addr) (len cap : Nat) (z : List Int) (h : IsRow .u8 w a len cap z) (hl : len ≤ 1048576) : Calls Try.prog 25 #[.slice a len cap] w (DrNext w) := by
  go_enter Try.func25, Try.ntmps25
  have g1 := Below.refl w.heap.size w
  have ir2 := isRow_keep h g1
  clear h
  go_wp2_with fail
  refine (newReader_any _ a len cap z ir2 hl).mono ?_
  rintro e w1 ⟨R, rfl, hR, hrN, hbN⟩
  have g4 := g1.trans (hbN.mono (by omega))
  have lt5 := rd_lt hrN
  have sz6 := g4.size
  clear ir2 g1 hbN
  go_wp2_with fail
  refine (anyTimers_any _ R 0 hrN (by omega)).mono ?_
  rintro e w2 ⟨A, c, l, p2, rfl, o1, l20, hp2, hr7, hg8⟩
  have zs_w2 := hg8.size
  have g9 := g4.trans (gr_of_below (B := w.heap.size) hg8 (by have := g4.size; first | exact this | (simp; omega) | omega) (by omega))
  have lt10 := rd_lt hr7
  clear hg8 hrN g4
  go_wp2_with fail
  refine (pick_any 8 _ R (p2) hr7 (by omega) (by omega)).mono ?_
  rintro e w3 ⟨n, rfl, n_0, n_1, -, hr11, hg12, -⟩
  have zs_w3 := hg12.size
  have o15 := own_gr o1 hg12 (by omega)
  clear o1
  have g13 := g9.trans (gr_of_below (B := w.heap.size) hg12 (by have := g9.size; first | exact this | (simp; omega) | omega) (by omega))
  have lt14 := rd_lt hr11
  clear hg12 hr7 g9
  have n_2 := n_1 (by omega)
  have q0 : IntKind.i64.wrap (n - 1) = n - 1 := IntWalk.i64_in _ (by omega)
  have zz := g13.size
  have Hp := Lib.hid (show _ ∧ _ from ⟨own_rebase (B := w.heap.size) o15 (by omega), g13⟩)
  clear o15 g13
  go_wp2
  refine bodyPost_ret (v := .tuple #[.slice A l.length c, .int .i64 (n - 1)]) (by simp [results, Try.results25, go_sem]) rfl ?_
  exact ⟨A, c, l, (n - 1), rfl, Hp.out.1, l20, by omega, by omega, Hp.out.2⟩
def DrAdd (w : World) (e : Ending) (w' : World) : Prop :=
  ∃ (A : Option Addr) (c : Nat) (l : List TimerR) (x : TimerR), e = .returned (.tuple #[.slice A l.length c, .agg #[.int .i64 x.a0, .int .i64 x.a1, .int .i64 x.a2]]) ∧ Own TimerR.enc 3 25 w' w.heap.size (.slice A l.length c) l ∧ l.length ≤ 20 ∧ Below w.heap.size w w'
set_option maxRecDepth 100000 in
set_option maxHeartbeats 4000000 in
theorem drawAddTimer_any (w : World) (a : Option Addr) (len cap : Nat) (z : List Int) (h : IsRow .u8 w a len cap z) (hl : len ≤ 1048576) : Calls Try.prog 15 #[.slice a len cap] w (DrAdd w) := by
  go_enter Try.func15, Try.ntmps15
  have g1 := Below.refl w.heap.size w
  have b2 := heap_alloc_new w (.cells #[.int .i64 0, .int .i64 0, .int .i64 0] 25)
  have g3 := g1.alloc (by have := g1.size; first | exact this | (simp; omega) | omega) (.cells #[.int .i64 0, .int .i64 0, .int .i64 0] 25)
  clear g1
  have ir4 := isRow_keep h g3
  have z5 : (w.alloc (.cells #[.int .i64 0, .int .i64 0, .int .i64 0] 25)).heap.size = w.heap.size + 1 := by simp
  have zz6 := Lib.hid z5
  clear z5
  clear h
  go_wp2_with fail
  refine (newReader_any _ a len cap z ir4 hl).mono ?_
  rintro e w1 ⟨R, rfl, hR, hrN, hbN⟩
  rw [zz6.out] at hR hbN
  have b7 := below_blk hbN b2 (by omega)
  have g8 := g3.trans (hbN.mono (by omega))
  have lt9 := rd_lt hrN
  have lt10 := blk_lt b7
  have sz11 := g8.size
  clear ir4 g3 zz6 b2 hbN
  go_wp2_with fail
  refine (anyTimers_any _ R 0 hrN (by omega)).mono ?_
  rintro e w2 ⟨A, c, l, p2, rfl, o1, l20, hp2, hr12, hg13⟩
  have zs_w2 := hg13.size
  have b14 := gr_blk hg13 b7 (by omega)
  have g15 := g8.trans (gr_of_below (B := w.heap.size) hg13 (by have := g8.size; first | exact this | (simp; omega) | omega) (by omega))
  have lt16 := rd_lt hr12
  have lt17 := blk_lt b14
  clear hg13 hrN g8 b7
  have hgl : ∀ g, Value.ownBlock (.slice A l.length c) = some g → g < w2.heap.size := fun g hg => (o1.lt g hg).2
  go_wp2_with fail
  refine (randomTimer_any _ R p2 hr12 (by omega)).mono ?_
  rintro e w3 ⟨x, y, z, p3, rfl, x0, x1, y0, y1, z0, z1, hp3, hr18, hg19⟩
  have zs_w3 := hg19.size
  have o24 := own_gr o1 hg19 (by omega)
  clear o1
  have b20 := gr_blk hg19 b14 (by omega)
  have g21 := g15.trans (gr_of_below (B := w.heap.size) hg19 (by have := g15.size; first | exact this | (simp; omega) | omega) (by omega))
  have lt22 := rd_lt hr18
  have lt23 := blk_lt b20
  clear hg19 hr12 g15 b14
  have o25 := o24.keep (alloc_below _ (.cells #[.int .i64 x, .int .i64 y, .int .i64 z] 25))
  clear o24
  have b26 := alloc_blk (.cells #[.int .i64 x, .int .i64 y, .int .i64 z] 25) b20
  have b27 := heap_alloc_new w3 (.cells #[.int .i64 x, .int .i64 y, .int .i64 z] 25)
  have hr28 := rd_alloc hr18 (.cells #[.int .i64 x, .int .i64 y, .int .i64 z] 25)
  have g29 := g21.alloc (by have := g21.size; first | exact this | (simp; omega) | omega) (.cells #[.int .i64 x, .int .i64 y, .int .i64 z] 25)
  clear b20 hr18 g21
  go_wp2_with fail
  refine (pick_any 10 _ R (p3) hr28 (by omega) (by omega)).mono ?_
  rintro e w4 ⟨v, rfl, v_0, v_1, -, hr30, hg31, -⟩
  have zs_w4 := hg31.size
  have o38 := own_gr o25 hg31 (by omega)
  clear o25
  have b32 := gr_blk hg31 b26 (by omega)
  have b33 := gr_blk hg31 b27 (by omega)
  have g34 := g29.trans (gr_of_below (B := w.heap.size) hg31 (by have := g29.size; first | exact this | (simp; omega) | omega) (by omega))
  have lt35 := rd_lt hr30
  have lt36 := blk_lt b32
  have lt37 := blk_lt b33
  clear hg31 hr28 g29 b26 b27
  have nSE : w.heap.size ≠ w3.heap.size := by omega
  have nES : w3.heap.size ≠ w.heap.size := by omega
  have hgS : ∀ g, Value.ownBlock (.slice A l.length c) = some g → g ≠ w.heap.size := fun g hg => by have := (o38.lt g hg).1; omega
  have hgE : ∀ g, Value.ownBlock (.slice A l.length c) = some g → g ≠ w3.heap.size := fun g hg => by have := hgl g hg; omega
  rcases (show v = 0 ∨ v = 1 ∨ ((v = 2 ∨ v = 3) ∧ 0 < l.length) ∨ (v ≠ 0 ∧ v ≠ 1 ∧ ((v = 2 ∨ v = 3) → l.length = 0)) by omega) with hv | hv | hv | hv
  · subst hv
    have o39 := o38.keep (alloc_below _ (.cells #[.int .i64 (-1), .int .i64 3000, .int .i64 3001] 3))
    clear o38
    have b40 := alloc_blk (.cells #[.int .i64 (-1), .int .i64 3000, .int .i64 3001] 3) b32
    have b41 := alloc_blk (.cells #[.int .i64 (-1), .int .i64 3000, .int .i64 3001] 3) b33
    have b42 := heap_alloc_new w4 (.cells #[.int .i64 (-1), .int .i64 3000, .int .i64 3001] 3)
    have hr43 := rd_alloc hr30 (.cells #[.int .i64 (-1), .int .i64 3000, .int .i64 3001] 3)
    have g44 := g34.alloc (by have := g34.size; first | exact this | (simp; omega) | omega) (.cells #[.int .i64 (-1), .int .i64 3000, .int .i64 3001] 3)
    clear b32 b33 hr30 g34
    go_wp2_with fail
    refine (oneL_any [-1, 3000, 3001] _ R (p3 + 1) 3 hr43 (by omega) (w4.heap.size) _ b42 rfl rfl (by omega) (by omega) (by omega)).mono ?_
    rintro e w5 ⟨q, q_m, rfl, hr45, hg46⟩
    have zs_w5 := hg46.size
    have o53 := own_gr o39 hg46 (by omega)
    clear o39
    have b47 := gr_blk hg46 b40 (by omega)
    have b48 := gr_blk hg46 b41 (by omega)
    have g49 := g44.trans (gr_of_below (B := w.heap.size) hg46 (by have := g44.size; first | exact this | (simp; omega) | omega) (by omega))
    have lt50 := rd_lt hr45
    have lt51 := blk_lt b47
    have lt52 := blk_lt b48
    clear hg46 hr43 g44 b40 b41
    have q_b : -1 ≤ q ∧ q ≤ 3001 := by simp at q_m; omega
    clear q_m
    clear b42
    obtain ⟨e0, e1, e2, ef, el⟩ := blk3 b48
    go_wp2_with fail
    clear e0 e1 e2 ef el
    have o54 := o53.set (p := ⟨w3.heap.size, 0, none⟩) hgE (.int .i64 q)
    clear o53
    have b55 := blk_far (p := ⟨w3.heap.size, 0, none⟩) b47 (by omega) (.int .i64 q)
    have b56 := blk_set b48 0 (.int .i64 q)
    rw [show (#[.int .i64 x, .int .i64 y, .int .i64 z] : Array Value).setIfInBounds 0 (.int .i64 q) = #[.int .i64 q, .int .i64 y, .int .i64 z] from rfl] at b56
    have hr57 := rd_setCell (a := ⟨w3.heap.size, 0, none⟩) hr45 (by first | omega | (simp; omega)) (.int .i64 q)
    have g58 := g49.setCell (p := ⟨w3.heap.size, 0, none⟩) (by first | exact Nat.le_refl _ | omega | (simp; omega)) (.int .i64 q)
    clear b47 b48 hr45 g49
    obtain ⟨t0, t1, t2, tf, tl⟩ := blk3 b56
    obtain ⟨s0, s1, s2, sf, sl⟩ := blk3 b55
    clear hr57
    have o59 := o54.set (p := ⟨w.heap.size, 0, none⟩) hgS (.int .i64 q)
    clear o54
    have b60 := blk_set b55 0 (.int .i64 q)
    rw [show (#[.int .i64 0, .int .i64 0, .int .i64 0] : Array Value).setIfInBounds 0 (.int .i64 q) = #[.int .i64 q, .int .i64 0, .int .i64 0] from rfl] at b60
    have b61 := blk_far (p := ⟨w.heap.size, 0, none⟩) b56 (by omega) (.int .i64 q)
    have g62 := g58.setCell (p := ⟨w.heap.size, 0, none⟩) (by first | exact Nat.le_refl _ | omega | (simp; omega)) (.int .i64 q)
    clear b55 b56 g58
    have o63 := o59.set (p := ⟨w.heap.size, 1, none⟩) hgS (.int .i64 y)
    clear o59
    have b64 := blk_set b60 1 (.int .i64 y)
    rw [show (#[.int .i64 q, .int .i64 0, .int .i64 0] : Array Value).setIfInBounds 1 (.int .i64 y) = #[.int .i64 q, .int .i64 y, .int .i64 0] from rfl] at b64
    have b65 := blk_far (p := ⟨w.heap.size, 1, none⟩) b61 (by omega) (.int .i64 y)
    have g66 := g62.setCell (p := ⟨w.heap.size, 1, none⟩) (by first | exact Nat.le_refl _ | omega | (simp; omega)) (.int .i64 y)
    clear b60 b61 g62
    have o67 := o63.set (p := ⟨w.heap.size, 2, none⟩) hgS (.int .i64 z)
    clear o63
    have b68 := blk_set b64 2 (.int .i64 z)
    rw [show (#[.int .i64 q, .int .i64 y, .int .i64 0] : Array Value).setIfInBounds 2 (.int .i64 z) = #[.int .i64 q, .int .i64 y, .int .i64 z] from rfl] at b68
    have b69 := blk_far (p := ⟨w.heap.size, 2, none⟩) b65 (by omega) (.int .i64 z)
    have g70 := g66.setCell (p := ⟨w.heap.size, 2, none⟩) (by first | exact Nat.le_refl _ | omega | (simp; omega)) (.int .i64 z)
    clear b64 b65 g66
    obtain ⟨f0, f1, f2, ff, fl⟩ := blk3 b68
    have zz := g70.size
    have Hp := Lib.hid (show _ ∧ _ from ⟨(own_rebase (B := w.heap.size) o67 (by omega)).keep (Below.refl _ _).drew, g70.drew⟩)
    have He := Lib.hid (show _ ∧ _ ∧ _ from ⟨f0, f1, f2⟩)
    clear f0 f1 f2 ff fl o67 g70 b69 b68
    go_region
    all_goals go_wp2
    all_goals (try simp only [Exit.inBlock, Exit.then])
    all_goals refine bodyPost_ret (v := .tuple #[.slice A l.length c, .agg #[.int .i64 q, .int .i64 y, .int .i64 z]]) (by simp [results, Try.results15, go_sem, He.out.1, He.out.2.1, He.out.2.2]; try rfl) rfl ?_
    all_goals exact ⟨_, c, l, ⟨q, y, z⟩, rfl, Hp.out.1, l20, Hp.out.2⟩
  · subst hv
    have o39 := o38.keep (alloc_below _ (.cells #[.int .i64 (-1), .int .i64 15, .int .i64 16] 3))
    clear o38
    have b40 := alloc_blk (.cells #[.int .i64 (-1), .int .i64 15, .int .i64 16] 3) b32
    have b41 := alloc_blk (.cells #[.int .i64 (-1), .int .i64 15, .int .i64 16] 3) b33
    have b42 := heap_alloc_new w4 (.cells #[.int .i64 (-1), .int .i64 15, .int .i64 16] 3)
    have hr43 := rd_alloc hr30 (.cells #[.int .i64 (-1), .int .i64 15, .int .i64 16] 3)
    have g44 := g34.alloc (by have := g34.size; first | exact this | (simp; omega) | omega) (.cells #[.int .i64 (-1), .int .i64 15, .int .i64 16] 3)
    clear b32 b33 hr30 g34
    go_wp2_with fail
    refine (oneL_any [-1, 15, 16] _ R (p3 + 1) 3 hr43 (by omega) (w4.heap.size) _ b42 rfl rfl (by omega) (by omega) (by omega)).mono ?_
    rintro e w5 ⟨q, q_m, rfl, hr45, hg46⟩
    have zs_w5 := hg46.size
    have o53 := own_gr o39 hg46 (by omega)
    clear o39
    have b47 := gr_blk hg46 b40 (by omega)
    have b48 := gr_blk hg46 b41 (by omega)
    have g49 := g44.trans (gr_of_below (B := w.heap.size) hg46 (by have := g44.size; first | exact this | (simp; omega) | omega) (by omega))
    have lt50 := rd_lt hr45
    have lt51 := blk_lt b47
    have lt52 := blk_lt b48
    clear hg46 hr43 g44 b40 b41
    have q_b : -1 ≤ q ∧ q ≤ 16 := by simp at q_m; omega
    clear q_m
    clear b42
    obtain ⟨e0, e1, e2, ef, el⟩ := blk3 b48
    go_wp2_with fail
    clear e0 e1 e2 ef el
    have o54 := o53.set (p := ⟨w3.heap.size, 1, none⟩) hgE (.int .i64 q)
    clear o53
    have b55 := blk_far (p := ⟨w3.heap.size, 1, none⟩) b47 (by omega) (.int .i64 q)
    have b56 := blk_set b48 1 (.int .i64 q)
    rw [show (#[.int .i64 x, .int .i64 y, .int .i64 z] : Array Value).setIfInBounds 1 (.int .i64 q) = #[.int .i64 x, .int .i64 q, .int .i64 z] from rfl] at b56
    have hr57 := rd_setCell (a := ⟨w3.heap.size, 1, none⟩) hr45 (by first | omega | (simp; omega)) (.int .i64 q)
    have g58 := g49.setCell (p := ⟨w3.heap.size, 1, none⟩) (by first | exact Nat.le_refl _ | omega | (simp; omega)) (.int .i64 q)
    clear b47 b48 hr45 g49
    obtain ⟨t0, t1, t2, tf, tl⟩ := blk3 b56
    obtain ⟨s0, s1, s2, sf, sl⟩ := blk3 b55
    clear hr57
    have o59 := o54.set (p := ⟨w.heap.size, 0, none⟩) hgS (.int .i64 x)
    clear o54
    have b60 := blk_set b55 0 (.int .i64 x)
    rw [show (#[.int .i64 0, .int .i64 0, .int .i64 0] : Array Value).setIfInBounds 0 (.int .i64 x) = #[.int .i64 x, .int .i64 0, .int .i64 0] from rfl] at b60
    have b61 := blk_far (p := ⟨w.heap.size, 0, none⟩) b56 (by omega) (.int .i64 x)
    have g62 := g58.setCell (p := ⟨w.heap.size, 0, none⟩) (by first | exact Nat.le_refl _ | omega | (simp; omega)) (.int .i64 x)
    clear b55 b56 g58
    have o63 := o59.set (p := ⟨w.heap.size, 1, none⟩) hgS (.int .i64 q)
    clear o59
    have b64 := blk_set b60 1 (.int .i64 q)
    rw [show (#[.int .i64 x, .int .i64 0, .int .i64 0] : Array Value).setIfInBounds 1 (.int .i64 q) = #[.int .i64 x, .int .i64 q, .int .i64 0] from rfl] at b64
    have b65 := blk_far (p := ⟨w.heap.size, 1, none⟩) b61 (by omega) (.int .i64 q)
    have g66 := g62.setCell (p := ⟨w.heap.size, 1, none⟩) (by first | exact Nat.le_refl _ | omega | (simp; omega)) (.int .i64 q)
    clear b60 b61 g62
    have o67 := o63.set (p := ⟨w.heap.size, 2, none⟩) hgS (.int .i64 z)
    clear o63
    have b68 := blk_set b64 2 (.int .i64 z)
    rw [show (#[.int .i64 x, .int .i64 q, .int .i64 0] : Array Value).setIfInBounds 2 (.int .i64 z) = #[.int .i64 x, .int .i64 q, .int .i64 z] from rfl] at b68
    have b69 := blk_far (p := ⟨w.heap.size, 2, none⟩) b65 (by omega) (.int .i64 z)
    have g70 := g66.setCell (p := ⟨w.heap.size, 2, none⟩) (by first | exact Nat.le_refl _ | omega | (simp; omega)) (.int .i64 z)
    clear b64 b65 g66
    obtain ⟨f0, f1, f2, ff, fl⟩ := blk3 b68
    have zz := g70.size
    have Hp := Lib.hid (show _ ∧ _ from ⟨(own_rebase (B := w.heap.size) o67 (by omega)).keep (Below.refl _ _).drew, g70.drew⟩)
    have He := Lib.hid (show _ ∧ _ ∧ _ from ⟨f0, f1, f2⟩)
    clear f0 f1 f2 ff fl o67 g70 b69 b68
    go_region
    all_goals go_wp2
    all_goals (try simp only [Exit.inBlock, Exit.then])
    all_goals refine bodyPost_ret (v := .tuple #[.slice A l.length c, .agg #[.int .i64 x, .int .i64 q, .int .i64 z]]) (by simp [results, Try.results15, go_sem, He.out.1, He.out.2.1, He.out.2.2]; try rfl) rfl ?_
    all_goals exact ⟨_, c, l, ⟨x, q, z⟩, rfl, Hp.out.1, l20, Hp.out.2⟩
  · obtain ⟨hv, hpos⟩ := hv
    have v0 : (v == 0) = false := by simp; omega
    have v1 : (v == 1) = false := by simp; omega
    rcases hv with hv | hv
    · subst hv
      go_wp2_with fail
      refine (pick_any (l.length : Int) _ R (p3 + 1) hr30 (by omega) (by omega)).mono ?_
      rintro e w5 ⟨k, rfl, k0, k1, -, hr39, hg40, -⟩
      have zs_w5 := hg40.size
      have o47 := own_gr o38 hg40 (by omega)
      clear o38
      have b41 := gr_blk hg40 b32 (by omega)
      have b42 := gr_blk hg40 b33 (by omega)
      have g43 := g34.trans (gr_of_below (B := w.heap.size) hg40 (by have := g34.size; first | exact this | (simp; omega) | omega) (by omega))
      have lt44 := rd_lt hr39
      have lt45 := blk_lt b41
      have lt46 := blk_lt b42
      clear hg40 hr30 g34 b32 b33
      have k2 := k1 (by omega)
      obtain ⟨K, rfl⟩ := Int.eq_ofNat_of_zero_le k0
      have hK : K < l.length := by omega
      clear k0 k1
      obtain ⟨b, off, rfl, hblt, q0, q1, q2⟩ := (o47.row TimerR.enc_len).atTimer hK
      generalize l[K] = X at *
      obtain ⟨e0, e1, e2, ef, el⟩ := blk3 b42
      go_wp2_with fail
      clear e0 e1 e2 ef el q0 q1 q2 hblt
      have o48 := o47.set (p := ⟨w3.heap.size, 0, none⟩) hgE (.int .i64 X.a0)
      clear o47
      have b49 := blk_far (p := ⟨w3.heap.size, 0, none⟩) b41 (by omega) (.int .i64 X.a0)
      have b50 := blk_set b42 0 (.int .i64 X.a0)
      rw [show (#[.int .i64 x, .int .i64 y, .int .i64 z] : Array Value).setIfInBounds 0 (.int .i64 X.a0) = #[.int .i64 X.a0, .int .i64 y, .int .i64 z] from rfl] at b50
      have hr51 := rd_setCell (a := ⟨w3.heap.size, 0, none⟩) hr39 (by first | omega | (simp; omega)) (.int .i64 X.a0)
      have g52 := g43.setCell (p := ⟨w3.heap.size, 0, none⟩) (by first | exact Nat.le_refl _ | omega | (simp; omega)) (.int .i64 X.a0)
      clear b41 b42 hr39 g43
      have o53 := o48.set (p := ⟨w3.heap.size, 1, none⟩) hgE (.int .i64 X.a1)
      clear o48
      have b54 := blk_far (p := ⟨w3.heap.size, 1, none⟩) b49 (by omega) (.int .i64 X.a1)
      have b55 := blk_set b50 1 (.int .i64 X.a1)
      rw [show (#[.int .i64 X.a0, .int .i64 y, .int .i64 z] : Array Value).setIfInBounds 1 (.int .i64 X.a1) = #[.int .i64 X.a0, .int .i64 X.a1, .int .i64 z] from rfl] at b55
      have hr56 := rd_setCell (a := ⟨w3.heap.size, 1, none⟩) hr51 (by first | omega | (simp; omega)) (.int .i64 X.a1)
      have g57 := g52.setCell (p := ⟨w3.heap.size, 1, none⟩) (by first | exact Nat.le_refl _ | omega | (simp; omega)) (.int .i64 X.a1)
      clear b49 b50 hr51 g52
      have o58 := o53.set (p := ⟨w3.heap.size, 2, none⟩) hgE (.int .i64 X.a2)
      clear o53
      have b59 := blk_far (p := ⟨w3.heap.size, 2, none⟩) b54 (by omega) (.int .i64 X.a2)
      have b60 := blk_set b55 2 (.int .i64 X.a2)
      rw [show (#[.int .i64 X.a0, .int .i64 X.a1, .int .i64 z] : Array Value).setIfInBounds 2 (.int .i64 X.a2) = #[.int .i64 X.a0, .int .i64 X.a1, .int .i64 X.a2] from rfl] at b60
      have hr61 := rd_setCell (a := ⟨w3.heap.size, 2, none⟩) hr56 (by first | omega | (simp; omega)) (.int .i64 X.a2)
      have g62 := g57.setCell (p := ⟨w3.heap.size, 2, none⟩) (by first | exact Nat.le_refl _ | omega | (simp; omega)) (.int .i64 X.a2)
      clear b54 b55 hr56 g57
      obtain ⟨t0, t1, t2, tf, tl⟩ := blk3 b60
      obtain ⟨s0, s1, s2, sf, sl⟩ := blk3 b59
      clear hr61
      have o63 := o58.set (p := ⟨w.heap.size, 0, none⟩) hgS (.int .i64 X.a0)
      clear o58
      have b64 := blk_set b59 0 (.int .i64 X.a0)
      rw [show (#[.int .i64 0, .int .i64 0, .int .i64 0] : Array Value).setIfInBounds 0 (.int .i64 X.a0) = #[.int .i64 X.a0, .int .i64 0, .int .i64 0] from rfl] at b64
      have b65 := blk_far (p := ⟨w.heap.size, 0, none⟩) b60 (by omega) (.int .i64 X.a0)
      have g66 := g62.setCell (p := ⟨w.heap.size, 0, none⟩) (by first | exact Nat.le_refl _ | omega | (simp; omega)) (.int .i64 X.a0)
      clear b59 b60 g62
      have o67 := o63.set (p := ⟨w.heap.size, 1, none⟩) hgS (.int .i64 X.a1)
      clear o63
      have b68 := blk_set b64 1 (.int .i64 X.a1)
      rw [show (#[.int .i64 X.a0, .int .i64 0, .int .i64 0] : Array Value).setIfInBounds 1 (.int .i64 X.a1) = #[.int .i64 X.a0, .int .i64 X.a1, .int .i64 0] from rfl] at b68
      have b69 := blk_far (p := ⟨w.heap.size, 1, none⟩) b65 (by omega) (.int .i64 X.a1)
      have g70 := g66.setCell (p := ⟨w.heap.size, 1, none⟩) (by first | exact Nat.le_refl _ | omega | (simp; omega)) (.int .i64 X.a1)
      clear b64 b65 g66
      have o71 := o67.set (p := ⟨w.heap.size, 2, none⟩) hgS (.int .i64 X.a2)
      clear o67
      have b72 := blk_set b68 2 (.int .i64 X.a2)
      rw [show (#[.int .i64 X.a0, .int .i64 X.a1, .int .i64 0] : Array Value).setIfInBounds 2 (.int .i64 X.a2) = #[.int .i64 X.a0, .int .i64 X.a1, .int .i64 X.a2] from rfl] at b72
      have b73 := blk_far (p := ⟨w.heap.size, 2, none⟩) b69 (by omega) (.int .i64 X.a2)
      have g74 := g70.setCell (p := ⟨w.heap.size, 2, none⟩) (by first | exact Nat.le_refl _ | omega | (simp; omega)) (.int .i64 X.a2)
      clear b68 b69 g70
      obtain ⟨f0, f1, f2, ff, fl⟩ := blk3 b72
      have zz := g74.size
      have Hp := Lib.hid (show _ ∧ _ from ⟨(own_rebase (B := w.heap.size) o71 (by omega)).keep (Below.refl _ _).drew, g74.drew⟩)
      have He := Lib.hid (show _ ∧ _ ∧ _ from ⟨f0, f1, f2⟩)
      clear f0 f1 f2 ff fl o71 g74 b73 b72
      go_region
      all_goals go_wp2
      all_goals (try simp only [Exit.inBlock, Exit.then])
      all_goals refine bodyPost_ret (v := .tuple #[.slice (some ⟨b, off, none⟩) l.length c, .agg #[.int .i64 X.a0, .int .i64 X.a1, .int .i64 X.a2]]) (by simp [results, Try.results15, go_sem, He.out.1, He.out.2.1, He.out.2.2]; try rfl) rfl ?_
      all_goals exact ⟨_, c, l, ⟨X.a0, X.a1, X.a2⟩, rfl, Hp.out.1, l20, Hp.out.2⟩
    · subst hv
      go_wp2_with fail
      refine (pick_any (l.length : Int) _ R (p3 + 1) hr30 (by omega) (by omega)).mono ?_
      rintro e w5 ⟨k, rfl, k0, k1, -, hr39, hg40, -⟩
      have zs_w5 := hg40.size
      have o47 := own_gr o38 hg40 (by omega)
      clear o38
      have b41 := gr_blk hg40 b32 (by omega)
      have b42 := gr_blk hg40 b33 (by omega)
      have g43 := g34.trans (gr_of_below (B := w.heap.size) hg40 (by have := g34.size; first | exact this | (simp; omega) | omega) (by omega))
      have lt44 := rd_lt hr39
      have lt45 := blk_lt b41
      have lt46 := blk_lt b42
      clear hg40 hr30 g34 b32 b33
      have k2 := k1 (by omega)
      obtain ⟨K, rfl⟩ := Int.eq_ofNat_of_zero_le k0
      have hK : K < l.length := by omega
      clear k0 k1
      obtain ⟨b, off, rfl, hblt, q0, q1, q2⟩ := (o47.row TimerR.enc_len).atTimer hK
      generalize l[K] = X at *
      obtain ⟨e0, e1, e2, ef, el⟩ := blk3 b42
      go_wp2_with fail
      clear e0 e1 e2 ef el q0 q1 q2 hblt
      have o48 := o47.set (p := ⟨w3.heap.size, 0, none⟩) hgE (.int .i64 X.a0)
      clear o47
      have b49 := blk_far (p := ⟨w3.heap.size, 0, none⟩) b41 (by omega) (.int .i64 X.a0)
      have b50 := blk_set b42 0 (.int .i64 X.a0)
      rw [show (#[.int .i64 x, .int .i64 y, .int .i64 z] : Array Value).setIfInBounds 0 (.int .i64 X.a0) = #[.int .i64 X.a0, .int .i64 y, .int .i64 z] from rfl] at b50
      have hr51 := rd_setCell (a := ⟨w3.heap.size, 0, none⟩) hr39 (by first | omega | (simp; omega)) (.int .i64 X.a0)
      have g52 := g43.setCell (p := ⟨w3.heap.size, 0, none⟩) (by first | exact Nat.le_refl _ | omega | (simp; omega)) (.int .i64 X.a0)
      clear b41 b42 hr39 g43
      have o53 := o48.set (p := ⟨w3.heap.size, 1, none⟩) hgE (.int .i64 X.a1)
      clear o48
      have b54 := blk_far (p := ⟨w3.heap.size, 1, none⟩) b49 (by omega) (.int .i64 X.a1)
      have b55 := blk_set b50 1 (.int .i64 X.a1)
      rw [show (#[.int .i64 X.a0, .int .i64 y, .int .i64 z] : Array Value).setIfInBounds 1 (.int .i64 X.a1) = #[.int .i64 X.a0, .int .i64 X.a1, .int .i64 z] from rfl] at b55
      have hr56 := rd_setCell (a := ⟨w3.heap.size, 1, none⟩) hr51 (by first | omega | (simp; omega)) (.int .i64 X.a1)
      have g57 := g52.setCell (p := ⟨w3.heap.size, 1, none⟩) (by first | exact Nat.le_refl _ | omega | (simp; omega)) (.int .i64 X.a1)
      clear b49 b50 hr51 g52
      have o58 := o53.set (p := ⟨w3.heap.size, 2, none⟩) hgE (.int .i64 X.a2)
      clear o53
      have b59 := blk_far (p := ⟨w3.heap.size, 2, none⟩) b54 (by omega) (.int .i64 X.a2)
      have b60 := blk_set b55 2 (.int .i64 X.a2)
      rw [show (#[.int .i64 X.a0, .int .i64 X.a1, .int .i64 z] : Array Value).setIfInBounds 2 (.int .i64 X.a2) = #[.int .i64 X.a0, .int .i64 X.a1, .int .i64 X.a2] from rfl] at b60
      have hr61 := rd_setCell (a := ⟨w3.heap.size, 2, none⟩) hr56 (by first | omega | (simp; omega)) (.int .i64 X.a2)
      have g62 := g57.setCell (p := ⟨w3.heap.size, 2, none⟩) (by first | exact Nat.le_refl _ | omega | (simp; omega)) (.int .i64 X.a2)
      clear b54 b55 hr56 g57
      obtain ⟨t0, t1, t2, tf, tl⟩ := blk3 b60
      obtain ⟨s0, s1, s2, sf, sl⟩ := blk3 b59
      clear hr61
      have o63 := o58.set (p := ⟨w.heap.size, 0, none⟩) hgS (.int .i64 X.a0)
      clear o58
      have b64 := blk_set b59 0 (.int .i64 X.a0)
      rw [show (#[.int .i64 0, .int .i64 0, .int .i64 0] : Array Value).setIfInBounds 0 (.int .i64 X.a0) = #[.int .i64 X.a0, .int .i64 0, .int .i64 0] from rfl] at b64
      have b65 := blk_far (p := ⟨w.heap.size, 0, none⟩) b60 (by omega) (.int .i64 X.a0)
      have g66 := g62.setCell (p := ⟨w.heap.size, 0, none⟩) (by first | exact Nat.le_refl _ | omega | (simp; omega)) (.int .i64 X.a0)
      clear b59 b60 g62
      have o67 := o63.set (p := ⟨w.heap.size, 1, none⟩) hgS (.int .i64 X.a1)
      clear o63
      have b68 := blk_set b64 1 (.int .i64 X.a1)
      rw [show (#[.int .i64 X.a0, .int .i64 0, .int .i64 0] : Array Value).setIfInBounds 1 (.int .i64 X.a1) = #[.int .i64 X.a0, .int .i64 X.a1, .int .i64 0] from rfl] at b68
      have b69 := blk_far (p := ⟨w.heap.size, 1, none⟩) b65 (by omega) (.int .i64 X.a1)
      have g70 := g66.setCell (p := ⟨w.heap.size, 1, none⟩) (by first | exact Nat.le_refl _ | omega | (simp; omega)) (.int .i64 X.a1)
      clear b64 b65 g66
      have o71 := o67.set (p := ⟨w.heap.size, 2, none⟩) hgS (.int .i64 X.a2)
      clear o67
      have b72 := blk_set b68 2 (.int .i64 X.a2)
      rw [show (#[.int .i64 X.a0, .int .i64 X.a1, .int .i64 0] : Array Value).setIfInBounds 2 (.int .i64 X.a2) = #[.int .i64 X.a0, .int .i64 X.a1, .int .i64 X.a2] from rfl] at b72
      have b73 := blk_far (p := ⟨w.heap.size, 2, none⟩) b69 (by omega) (.int .i64 X.a2)
      have g74 := g70.setCell (p := ⟨w.heap.size, 2, none⟩) (by first | exact Nat.le_refl _ | omega | (simp; omega)) (.int .i64 X.a2)
      clear b68 b69 g70
      obtain ⟨f0, f1, f2, ff, fl⟩ := blk3 b72
      have zz := g74.size
      have Hp := Lib.hid (show _ ∧ _ from ⟨(own_rebase (B := w.heap.size) o71 (by omega)).keep (Below.refl _ _).drew, g74.drew⟩)
      have He := Lib.hid (show _ ∧ _ ∧ _ from ⟨f0, f1, f2⟩)
      clear f0 f1 f2 ff fl o71 g74 b73 b72
      go_region
      all_goals go_wp2
      all_goals (try simp only [Exit.inBlock, Exit.then])
      all_goals refine bodyPost_ret (v := .tuple #[.slice (some ⟨b, off, none⟩) l.length c, .agg #[.int .i64 X.a0, .int .i64 X.a1, .int .i64 X.a2]]) (by simp [results, Try.results15, go_sem, He.out.1, He.out.2.1, He.out.2.2]; try rfl) rfl ?_
      all_goals exact ⟨_, c, l, ⟨X.a0, X.a1, X.a2⟩, rfl, Hp.out.1, l20, Hp.out.2⟩
  · obtain ⟨h0, h1, h2⟩ := hv
    have v0 : (v == 0) = false := by simp; omega
    have v1 : (v == 1) = false := by simp; omega
    rcases (show v = 2 ∨ v = 3 ∨ (v ≠ 2 ∧ v ≠ 3) by omega) with hv | hv | hv
    · subst hv
      obtain rfl : l = [] := List.eq_nil_of_length_eq_zero (h2 (by omega))
      clear h2
      obtain ⟨e0, e1, e2, ef, el⟩ := blk3 b33
      go_wp2_with fail
      clear e0 e1 e2 ef el
      obtain ⟨t0, t1, t2, tf, tl⟩ := blk3 b33
      obtain ⟨s0, s1, s2, sf, sl⟩ := blk3 b32
      clear hr30
      have o39 := o38.set (p := ⟨w.heap.size, 0, none⟩) hgS (.int .i64 x)
      clear o38
      have b40 := blk_set b32 0 (.int .i64 x)
      rw [show (#[.int .i64 0, .int .i64 0, .int .i64 0] : Array Value).setIfInBounds 0 (.int .i64 x) = #[.int .i64 x, .int .i64 0, .int .i64 0] from rfl] at b40
      have b41 := blk_far (p := ⟨w.heap.size, 0, none⟩) b33 (by omega) (.int .i64 x)
      have g42 := g34.setCell (p := ⟨w.heap.size, 0, none⟩) (by first | exact Nat.le_refl _ | omega | (simp; omega)) (.int .i64 x)
      clear b32 b33 g34
      have o43 := o39.set (p := ⟨w.heap.size, 1, none⟩) hgS (.int .i64 y)
      clear o39
      have b44 := blk_set b40 1 (.int .i64 y)
      rw [show (#[.int .i64 x, .int .i64 0, .int .i64 0] : Array Value).setIfInBounds 1 (.int .i64 y) = #[.int .i64 x, .int .i64 y, .int .i64 0] from rfl] at b44
      have b45 := blk_far (p := ⟨w.heap.size, 1, none⟩) b41 (by omega) (.int .i64 y)
      have g46 := g42.setCell (p := ⟨w.heap.size, 1, none⟩) (by first | exact Nat.le_refl _ | omega | (simp; omega)) (.int .i64 y)
      clear b40 b41 g42
      have o47 := o43.set (p := ⟨w.heap.size, 2, none⟩) hgS (.int .i64 z)
      clear o43
      have b48 := blk_set b44 2 (.int .i64 z)
      rw [show (#[.int .i64 x, .int .i64 y, .int .i64 0] : Array Value).setIfInBounds 2 (.int .i64 z) = #[.int .i64 x, .int .i64 y, .int .i64 z] from rfl] at b48
      have b49 := blk_far (p := ⟨w.heap.size, 2, none⟩) b45 (by omega) (.int .i64 z)
      have g50 := g46.setCell (p := ⟨w.heap.size, 2, none⟩) (by first | exact Nat.le_refl _ | omega | (simp; omega)) (.int .i64 z)
      clear b44 b45 g46
      obtain ⟨f0, f1, f2, ff, fl⟩ := blk3 b48
      have zz := g50.size
      have Hp := Lib.hid (show _ ∧ _ from ⟨(own_rebase (B := w.heap.size) o47 (by omega)).keep (Below.refl _ _).drew, g50.drew⟩)
      have He := Lib.hid (show _ ∧ _ ∧ _ from ⟨f0, f1, f2⟩)
      clear f0 f1 f2 ff fl o47 g50 b49 b48
      go_region
      all_goals go_wp2
      all_goals (try simp only [Exit.inBlock, Exit.then])
      all_goals refine bodyPost_ret (v := .tuple #[.slice A 0 c, .agg #[.int .i64 x, .int .i64 y, .int .i64 z]]) (by simp [results, Try.results15, go_sem, He.out.1, He.out.2.1, He.out.2.2]; try rfl) rfl ?_
      all_goals exact ⟨_, c, [], ⟨x, y, z⟩, rfl, Hp.out.1, l20, Hp.out.2⟩
    · subst hv
      obtain rfl : l = [] := List.eq_nil_of_length_eq_zero (h2 (by omega))
      clear h2
      obtain ⟨e0, e1, e2, ef, el⟩ := blk3 b33
      go_wp2_with fail
      clear e0 e1 e2 ef el
      obtain ⟨t0, t1, t2, tf, tl⟩ := blk3 b33
      obtain ⟨s0, s1, s2, sf, sl⟩ := blk3 b32
      clear hr30
      have o39 := o38.set (p := ⟨w.heap.size, 0, none⟩) hgS (.int .i64 x)
      clear o38
      have b40 := blk_set b32 0 (.int .i64 x)
      rw [show (#[.int .i64 0, .int .i64 0, .int .i64 0] : Array Value).setIfInBounds 0 (.int .i64 x) = #[.int .i64 x, .int .i64 0, .int .i64 0] from rfl] at b40
      have b41 := blk_far (p := ⟨w.heap.size, 0, none⟩) b33 (by omega) (.int .i64 x)
      have g42 := g34.setCell (p := ⟨w.heap.size, 0, none⟩) (by first | exact Nat.le_refl _ | omega | (simp; omega)) (.int .i64 x)
      clear b32 b33 g34
      have o43 := o39.set (p := ⟨w.heap.size, 1, none⟩) hgS (.int .i64 y)
      clear o39
      have b44 := blk_set b40 1 (.int .i64 y)
      rw [show (#[.int .i64 x, .int .i64 0, .int .i64 0] : Array Value).setIfInBounds 1 (.int .i64 y) = #[.int .i64 x, .int .i64 y, .int .i64 0] from rfl] at b44
      have b45 := blk_far (p := ⟨w.heap.size, 1, none⟩) b41 (by omega) (.int .i64 y)
      have g46 := g42.setCell (p := ⟨w.heap.size, 1, none⟩) (by first | exact Nat.le_refl _ | omega | (simp; omega)) (.int .i64 y)
      clear b40 b41 g42
      have o47 := o43.set (p := ⟨w.heap.size, 2, none⟩) hgS (.int .i64 z)
      clear o43
      have b48 := blk_set b44 2 (.int .i64 z)
      rw [show (#[.int .i64 x, .int .i64 y, .int .i64 0] : Array Value).setIfInBounds 2 (.int .i64 z) = #[.int .i64 x, .int .i64 y, .int .i64 z] from rfl] at b48
      have b49 := blk_far (p := ⟨w.heap.size, 2, none⟩) b45 (by omega) (.int .i64 z)
      have g50 := g46.setCell (p := ⟨w.heap.size, 2, none⟩) (by first | exact Nat.le_refl _ | omega | (simp; omega)) (.int .i64 z)
      clear b44 b45 g46
      obtain ⟨f0, f1, f2, ff, fl⟩ := blk3 b48
      have zz := g50.size
      have Hp := Lib.hid (show _ ∧ _ from ⟨(own_rebase (B := w.heap.size) o47 (by omega)).keep (Below.refl _ _).drew, g50.drew⟩)
      have He := Lib.hid (show _ ∧ _ ∧ _ from ⟨f0, f1, f2⟩)
      clear f0 f1 f2 ff fl o47 g50 b49 b48
      go_region
      all_goals go_wp2
      all_goals (try simp only [Exit.inBlock, Exit.then])
      all_goals refine bodyPost_ret (v := .tuple #[.slice A 0 c, .agg #[.int .i64 x, .int .i64 y, .int .i64 z]]) (by simp [results, Try.results15, go_sem, He.out.1, He.out.2.1, He.out.2.2]; try rfl) rfl ?_
      all_goals exact ⟨_, c, [], ⟨x, y, z⟩, rfl, Hp.out.1, l20, Hp.out.2⟩
    · have v2 : (v == 2) = false := by simp; omega
      have v3 : (v == 3) = false := by simp; omega
      obtain ⟨e0, e1, e2, ef, el⟩ := blk3 b33
      go_wp2_with fail
      clear e0 e1 e2 ef el
      obtain ⟨t0, t1, t2, tf, tl⟩ := blk3 b33
      obtain ⟨s0, s1, s2, sf, sl⟩ := blk3 b32
      clear hr30
      have o39 := o38.set (p := ⟨w.heap.size, 0, none⟩) hgS (.int .i64 x)
      clear o38
      have b40 := blk_set b32 0 (.int .i64 x)
      rw [show (#[.int .i64 0, .int .i64 0, .int .i64 0] : Array Value).setIfInBounds 0 (.int .i64 x) = #[.int .i64 x, .int .i64 0, .int .i64 0] from rfl] at b40
      have b41 := blk_far (p := ⟨w.heap.size, 0, none⟩) b33 (by omega) (.int .i64 x)
      have g42 := g34.setCell (p := ⟨w.heap.size, 0, none⟩) (by first | exact Nat.le_refl _ | omega | (simp; omega)) (.int .i64 x)
      clear b32 b33 g34
      have o43 := o39.set (p := ⟨w.heap.size, 1, none⟩) hgS (.int .i64 y)
      clear o39
      have b44 := blk_set b40 1 (.int .i64 y)
      rw [show (#[.int .i64 x, .int .i64 0, .int .i64 0] : Array Value).setIfInBounds 1 (.int .i64 y) = #[.int .i64 x, .int .i64 y, .int .i64 0] from rfl] at b44
      have b45 := blk_far (p := ⟨w.heap.size, 1, none⟩) b41 (by omega) (.int .i64 y)
      have g46 := g42.setCell (p := ⟨w.heap.size, 1, none⟩) (by first | exact Nat.le_refl _ | omega | (simp; omega)) (.int .i64 y)
      clear b40 b41 g42
      have o47 := o43.set (p := ⟨w.heap.size, 2, none⟩) hgS (.int .i64 z)
      clear o43
      have b48 := blk_set b44 2 (.int .i64 z)
      rw [show (#[.int .i64 x, .int .i64 y, .int .i64 0] : Array Value).setIfInBounds 2 (.int .i64 z) = #[.int .i64 x, .int .i64 y, .int .i64 z] from rfl] at b48
      have b49 := blk_far (p := ⟨w.heap.size, 2, none⟩) b45 (by omega) (.int .i64 z)
      have g50 := g46.setCell (p := ⟨w.heap.size, 2, none⟩) (by first | exact Nat.le_refl _ | omega | (simp; omega)) (.int .i64 z)
      clear b44 b45 g46
      obtain ⟨f0, f1, f2, ff, fl⟩ := blk3 b48
      have zz := g50.size
      have Hp := Lib.hid (show _ ∧ _ from ⟨(own_rebase (B := w.heap.size) o47 (by omega)).keep (Below.refl _ _).drew, g50.drew⟩)
      have He := Lib.hid (show _ ∧ _ ∧ _ from ⟨f0, f1, f2⟩)
      clear f0 f1 f2 ff fl o47 g50 b49 b48
      go_region
      all_goals go_wp2
      all_goals (try simp only [Exit.inBlock, Exit.then])
      all_goals refine bodyPost_ret (v := .tuple #[.slice A l.length c, .agg #[.int .i64 x, .int .i64 y, .int .i64 z]]) (by simp [results, Try.results15, go_sem, He.out.1, He.out.2.1, He.out.2.2]; try rfl) rfl ?_
      all_goals exact ⟨_, c, l, ⟨x, y, z⟩, rfl, Hp.out.1, l20, Hp.out.2⟩
set_option maxHeartbeats 2000000 in
theorem drawRemoveTimer_any (w : World) (a : Option Addr) (len cap : Nat) (z : List Int) (h : IsRow .u8 w a len cap z) (hl : len ≤ 1048576) : Calls Try.prog 20 #[.slice a len cap] w (DrAdd w) := by
  have hB := (Below.refl w.heap.size w).alloc (Nat.le_refl _) (.cells #[.int .i64 0, .int .i64 0, .int .i64 0] 25)
  have s0 := heap_alloc_new w (.cells #[.int .i64 0, .int .i64 0, .int .i64 0] 25)
  have h0 := isRow_keep h hB
  have zA : (w.alloc (.cells #[.int .i64 0, .int .i64 0, .int .i64 0] 25)).heap.size = w.heap.size + 1 := by simp
  go_enter Try.func20, Try.ntmps20
  go_wp2_with fail
  refine (drawAddTimer_any _ a len cap z h0 hl).mono ?_
  rintro e w1 ⟨A, c, l, x, rfl, o1, l20, b1⟩
  rw [zA] at b1 o1
  have s1 := below_blk b1 s0 (by omega)
  have B1 := hB.trans (b1.mono (by omega))
  obtain ⟨p0, p1, p2, pf, pl⟩ := blk3 s1
  have s2 := blk_set s1 0 (.int .i64 x.a0)
  have s3 := blk_set s2 1 (.int .i64 x.a1)
  have s4 := blk_set s3 2 (.int .i64 x.a2)
  obtain ⟨f0, f1, f2, ff, fl⟩ := blk3 (x := .int .i64 x.a0) (y := .int .i64 x.a1) (z := .int .i64 x.a2) s4
  have hq : ∀ g, Value.ownBlock (.slice A l.length c) = some g → g ≠ w.heap.size := fun g hg => by have := (o1.lt g hg).1; omega
  have o2 := ((o1.set (p := ⟨w.heap.size, 0, none⟩) hq (.int .i64 x.a0)).set (p := ⟨w.heap.size, 1, none⟩) hq (.int .i64 x.a1)).set (p := ⟨w.heap.size, 2, none⟩) hq (.int .i64 x.a2)
  have B2 := ((B1.setCell (p := ⟨w.heap.size, 0, none⟩) (Nat.le_refl _) (.int .i64 x.a0)).setCell (p := ⟨w.heap.size, 1, none⟩) (Nat.le_refl _) (.int .i64 x.a1)).setCell (p := ⟨w.heap.size, 2, none⟩) (Nat.le_refl _) (.int .i64 x.a2)
  have He := Lib.hid (show _ ∧ _ ∧ _ from ⟨f0, f1, f2⟩)
  have Hp := Lib.hid (show _ ∧ _ from ⟨own_rebase (B := w.heap.size) o2 (by omega), B2⟩)
  clear f0 f1 f2 ff fl s0 s1 s2 s3 s4 o1 o2 B1 B2 b1 hB h0
  go_wp2
  (try simp only [Exit.inBlock, Exit.then])
  refine bodyPost_ret (v := .tuple #[.slice A l.length c, .agg #[.int .i64 x.a0, .int .i64 x.a1, .int .i64 x.a2]]) (by simp [results, Try.results20, go_sem, He.out.1, He.out.2.1, He.out.2.2]; try rfl) rfl ?_
  exact ⟨A, c, l, x, rfl, Hp.out.1, l20, Hp.out.2⟩
end Go.Proofs.Ytjjjlpnbniofjab
