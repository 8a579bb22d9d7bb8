import Derived.Test.YtehedhkadjidpabDrAc
namespace Go.Proofs.Ytehedhkadjidpab
open Go.RowKit
def DrAv (w : World) (e : Ending) (w' : World) : Prop := ∃ c s l m : Int, e = .returned (.agg #[.int .i64 c, .int .i64 s, .int .i64 l, .int .i64 m]) ∧ -1 ≤ c ∧ c ≤ 1000 ∧ -100 ≤ s ∧ s ≤ 4060 ∧ 0 ≤ l ∧ l ≤ 99 ∧ 0 ≤ m ∧ m ≤ 100 ∧ Below w.heap.size w w'
set_option maxRecDepth 100000 in
set_option maxHeartbeats 4000000 in
theorem drawAverageOf_any (w : World) (a : Option Addr) (len cap : Nat) (z : List Int) (h : IsRow .u8 w a len cap z) (hl : len ≤ 1048576) : Calls Try.prog 39 #[.slice a len cap] w (DrAv w) := by
  have g1 := Below.refl w.heap.size w
  have b2 := heap_alloc_new w (.cells #[.int .i64 0, .int .i64 0, .int .i64 0, .int .i64 0] 48)
  have g3 := g1.alloc (by have := g1.size; first | exact this | (simp; omega) | omega) (.cells #[.int .i64 0, .int .i64 0, .int .i64 0, .int .i64 0] 48)
  clear g1
  go_enter Try.func39, Try.ntmps39
  have ir4 := isRow_keep h g3
  have z5 : (w.alloc (.cells #[.int .i64 0, .int .i64 0, .int .i64 0, .int .i64 0] 48)).heap.size = w.heap.size + 1 := by simp
  have zz6 := Lib.hid z5
  clear z5
  clear h
  go_wp2_with fail
  refine (newReader_any _ a len cap z ir4 hl).mono ?_
  rintro e w1 ⟨R, rfl, hR, hrN, hbN⟩
  rw [zz6.out] at hR hbN
  have b7 := below_blk hbN b2 (by omega)
  have g8 := g3.trans (hbN.mono (by omega))
  have lt9 := rd_lt hrN
  have lt10 := blk_lt b7
  have sz11 := g8.size
  clear ir4 g3 zz6 b2 hbN
  go_wp2_with fail
  refine (anyAcc_any _ R 0 hrN (by omega)).mono ?_
  rintro e w2 ⟨c, s, l, m, p2, rfl, c0, c1, s0, s1, l0, l1, m0, m1, hp2, hr12, hg13⟩
  have zs_w2 := hg13.size
  have b14 := gr_blk hg13 b7 (by omega)
  have g15 := g8.trans (gr_of_below (B := w.heap.size) hg13 (by have := g8.size; first | exact this | (simp; omega) | omega) (by omega))
  have lt16 := rd_lt hr12
  have lt17 := blk_lt b14
  clear hg13 hrN g8 b7
  obtain ⟨r0, r1, r2, r3, rf, rl⟩ := blk4 b14
  clear b14
  go_wp2
  refine bodyPost_ret (v := .agg #[.int .i64 c, .int .i64 s, .int .i64 l, .int .i64 m]) (by simp [results, Try.results39, go_sem, r0, r1, r2, r3]) rfl ?_
  exact ⟨c, s, l, m, rfl, c0, c1, s0, s1, l0, l1, m0, m1, by go_grown⟩
def DrAd (w : World) (e : Ending) (w' : World) : Prop := ∃ c s l m t : Int, e = .returned (.tuple #[.agg #[.int .i64 c, .int .i64 s, .int .i64 l, .int .i64 m], .int .i64 t]) ∧ -1 ≤ c ∧ c ≤ 1000 ∧ -100 ≤ s ∧ s ≤ 4060 ∧ 0 ≤ l ∧ l ≤ 99 ∧ 0 ≤ m ∧ m ≤ 100 ∧ -1 ≤ t ∧ t ≤ 100 ∧ Below w.heap.size w w'
set_option maxRecDepth 100000 in
set_option maxHeartbeats 4000000 in
theorem drawAddAcc_any (w : World) (a : Option Addr) (len cap : Nat) (z : List Int) (h : IsRow .u8 w a len cap z) (hl : len ≤ 1048576) : Calls Try.prog 36 #[.slice a len cap] w (DrAd w) := by
  have g1 := Below.refl w.heap.size w
  have b2 := heap_alloc_new w (.cells #[.int .i64 0, .int .i64 0, .int .i64 0, .int .i64 0] 48)
  have g3 := g1.alloc (by have := g1.size; first | exact this | (simp; omega) | omega) (.cells #[.int .i64 0, .int .i64 0, .int .i64 0, .int .i64 0] 48)
  clear g1
  go_enter Try.func36, Try.ntmps36
  have ir4 := isRow_keep h g3
  have z5 : (w.alloc (.cells #[.int .i64 0, .int .i64 0, .int .i64 0, .int .i64 0] 48)).heap.size = w.heap.size + 1 := by simp
  have zz6 := Lib.hid z5
  clear z5
  clear h
  go_wp2_with fail
  refine (newReader_any _ a len cap z ir4 hl).mono ?_
  rintro e w1 ⟨R, rfl, hR, hrN, hbN⟩
  rw [zz6.out] at hR hbN
  have b7 := below_blk hbN b2 (by omega)
  have g8 := g3.trans (hbN.mono (by omega))
  have lt9 := rd_lt hrN
  have lt10 := blk_lt b7
  have sz11 := g8.size
  clear ir4 g3 zz6 b2 hbN
  go_wp2_with fail
  refine (anyAcc_any _ R 0 hrN (by omega)).mono ?_
  rintro e w2 ⟨c, s, l, m, p2, rfl, c0, c1, s0, s1, l0, l1, m0, m1, hp2, hr12, hg13⟩
  have zs_w2 := hg13.size
  have b14 := gr_blk hg13 b7 (by omega)
  have g15 := g8.trans (gr_of_below (B := w.heap.size) hg13 (by have := g8.size; first | exact this | (simp; omega) | omega) (by omega))
  have lt16 := rd_lt hr12
  have lt17 := blk_lt b14
  clear hg13 hrN g8 b7
  have b18 := alloc_blk (.cells #[.int .i64 c, .int .i64 s, .int .i64 l, .int .i64 m] 48) b14
  have b19 := heap_alloc_new w2 (.cells #[.int .i64 c, .int .i64 s, .int .i64 l, .int .i64 m] 48)
  have hr20 := rd_alloc hr12 (.cells #[.int .i64 c, .int .i64 s, .int .i64 l, .int .i64 m] 48)
  have g21 := g15.alloc (by have := g15.size; first | exact this | (simp; omega) | omega) (.cells #[.int .i64 c, .int .i64 s, .int .i64 l, .int .i64 m] 48)
  clear b14 hr12 g15
  have n1 : w.heap.size ≠ w2.heap.size := by omega
  have n2 : w2.heap.size ≠ w.heap.size := by omega
  go_wp2_with fail
  have b22 := alloc_blk (.cells #[.int .i64 0, .int .i64 1, .int .i64 7, .int .i64 20, .int .i64 99, .int .i64 100, .int .i64 (-1)] 3) b18
  have b23 := alloc_blk (.cells #[.int .i64 0, .int .i64 1, .int .i64 7, .int .i64 20, .int .i64 99, .int .i64 100, .int .i64 (-1)] 3) b19
  have b24 := heap_alloc_new (w2.alloc (.cells #[.int .i64 c, .int .i64 s, .int .i64 l, .int .i64 m] 48)) (.cells #[.int .i64 0, .int .i64 1, .int .i64 7, .int .i64 20, .int .i64 99, .int .i64 100, .int .i64 (-1)] 3)
  have z25 : (w2.alloc (.cells #[.int .i64 c, .int .i64 s, .int .i64 l, .int .i64 m] 48)).heap.size = w2.heap.size + 1 := by simp
  rw [z25] at b24
  have hr26 := rd_alloc hr20 (.cells #[.int .i64 0, .int .i64 1, .int .i64 7, .int .i64 20, .int .i64 99, .int .i64 100, .int .i64 (-1)] 3)
  have g27 := g21.alloc (by have := g21.size; first | exact this | (simp; omega) | omega) (.cells #[.int .i64 0, .int .i64 1, .int .i64 7, .int .i64 20, .int .i64 99, .int .i64 100, .int .i64 (-1)] 3)
  clear b18 b19 z25 hr20 g21
  go_region_held3 (fun w' => w'.cell? ⟨w2.heap.size, 0, none⟩ = some (.int .i64 c) ∧ w'.cell? ⟨w2.heap.size, 1, none⟩ = some (.int .i64 s) ∧ w'.cell? ⟨w2.heap.size, 2, none⟩ = some (.int .i64 l) ∧ w'.cell? ⟨w2.heap.size, 3, none⟩ = some (.int .i64 m)) (first | go_keep | (go_split_ands; (repeat' constructor) <;> (refine (gr_cell hg29 (by first | omega | (simp; omega)) (by omega)).trans ?_; first | assumption | (simp [go_sem, *]; done)))) ((go_at_call 46; refine (oneL_any [0, 1, 7, 20, 99, 100, -1] _ R (p2) 7 (rd_drew hr26) (by omega) (w2.heap.size + 1) _ b24 rfl rfl (by omega) (by omega) (by omega)).mono ?_; rintro e w3 ⟨t, t_m, rfl, hr28, hg29⟩; have b30 := gr_blk hg29 b22 (by omega); have b31 := gr_blk hg29 b23 (by omega); have g32 := (g27.drew).trans (gr_of_below (B := w.heap.size) hg29 (by have := (g27.drew).size; first | exact this | (simp; omega) | omega) (by omega)); have lt33 := blk_lt b30; have lt34 := blk_lt b31; obtain ⟨r0, r1, r2, r3, rf, rl⟩ := blk4 b30; obtain ⟨q0, q1, q2, q3, qf, ql⟩ := blk4 b31))
  rename_i hHeld
  clear b24 hr26 g27 hg29 hHeld b22 b23
  have t_b : -1 ≤ t ∧ t ≤ 100 := by simp at t_m; omega
  clear t_m
  go_wp2
  refine bodyPost_ret (v := .tuple #[.agg #[.int .i64 c, .int .i64 s, .int .i64 l, .int .i64 m], .int .i64 t]) (by simp [results, Try.results36, go_sem, r0, r1, r2, r3]) rfl ?_
  refine ⟨c, s, l, m, t, rfl, c0, c1, s0, s1, l0, l1, m0, m1, t_b.1, t_b.2, ?_⟩
  · go_grown
def DrMa (w : World) (e : Ending) (w' : World) : Prop := ∃ c s l m c2 s2 l2 m2 : Int, e = .returned (.tuple #[.agg #[.int .i64 c, .int .i64 s, .int .i64 l, .int .i64 m], .agg #[.int .i64 c2, .int .i64 s2, .int .i64 l2, .int .i64 m2]]) ∧ -1 ≤ c ∧ c ≤ 1000 ∧ -100 ≤ s ∧ s ≤ 4060 ∧ 0 ≤ l ∧ l ≤ 99 ∧ 0 ≤ m ∧ m ≤ 100 ∧ -1 ≤ c2 ∧ c2 ≤ 1000 ∧ -100 ≤ s2 ∧ s2 ≤ 4060 ∧ 0 ≤ l2 ∧ l2 ≤ 99 ∧ 0 ≤ m2 ∧ m2 ≤ 100 ∧ Below w.heap.size w w'
set_option maxRecDepth 100000 in
set_option maxHeartbeats 4000000 in
theorem drawMergeAcc_any (w : World) (a : Option Addr) (len cap : Nat) (z : List Int) (h : IsRow .u8 w a len cap z) (hl : len ≤ 1048576) : Calls Try.prog 33 #[.slice a len cap] w (DrMa w) := by
  have g1 := Below.refl w.heap.size w
  have b2 := heap_alloc_new w (.cells #[.int .i64 0, .int .i64 0, .int .i64 0, .int .i64 0] 48)
  have g3 := g1.alloc (by have := g1.size; first | exact this | (simp; omega) | omega) (.cells #[.int .i64 0, .int .i64 0, .int .i64 0, .int .i64 0] 48)
  clear g1
  have b4 := alloc_blk (.cells #[.int .i64 0, .int .i64 0, .int .i64 0, .int .i64 0] 48) b2
  have b5 := heap_alloc_new (w.alloc (.cells #[.int .i64 0, .int .i64 0, .int .i64 0, .int .i64 0] 48)) (.cells #[.int .i64 0, .int .i64 0, .int .i64 0, .int .i64 0] 48)
  have z6 : (w.alloc (.cells #[.int .i64 0, .int .i64 0, .int .i64 0, .int .i64 0] 48)).heap.size = w.heap.size + 1 := by simp
  rw [z6] at b5
  have g7 := g3.alloc (by have := g3.size; first | exact this | (simp; omega) | omega) (.cells #[.int .i64 0, .int .i64 0, .int .i64 0, .int .i64 0] 48)
  clear b2 z6 g3
  go_enter Try.func33, Try.ntmps33
  have ir8 := isRow_keep h g7
  have z9 : ((w.alloc (.cells #[.int .i64 0, .int .i64 0, .int .i64 0, .int .i64 0] 48)).alloc (.cells #[.int .i64 0, .int .i64 0, .int .i64 0, .int .i64 0] 48)).heap.size = w.heap.size + 2 := by simp
  have zz10 := Lib.hid z9
  clear z9
  clear h
  go_wp2_with fail
  refine (newReader_any _ a len cap z ir8 hl).mono ?_
  rintro e w1 ⟨R, rfl, hR, hrN, hbN⟩
  rw [zz10.out] at hR hbN
  have b11 := below_blk hbN b4 (by omega)
  have b12 := below_blk hbN b5 (by omega)
  have g13 := g7.trans (hbN.mono (by omega))
  have lt14 := rd_lt hrN
  have lt15 := blk_lt b11
  have lt16 := blk_lt b12
  have sz17 := g13.size
  clear ir8 g7 zz10 b4 b5 hbN
  go_wp2_with fail
  refine (anyAcc_any _ R 0 hrN (by omega)).mono ?_
  rintro e w2 ⟨c, s, l, m, p2, rfl, c0, c1, s0, s1, l0, l1, m0, m1, hp2, hr18, hg19⟩
  have zs_w2 := hg19.size
  have b20 := gr_blk hg19 b11 (by omega)
  have b21 := gr_blk hg19 b12 (by omega)
  have g22 := g13.trans (gr_of_below (B := w.heap.size) hg19 (by have := g13.size; first | exact this | (simp; omega) | omega) (by omega))
  have lt23 := rd_lt hr18
  have lt24 := blk_lt b20
  have lt25 := blk_lt b21
  clear hg19 hrN g13 b11 b12
  have b26 := alloc_blk (.cells #[.int .i64 c, .int .i64 s, .int .i64 l, .int .i64 m] 48) b20
  have b27 := alloc_blk (.cells #[.int .i64 c, .int .i64 s, .int .i64 l, .int .i64 m] 48) b21
  have b28 := heap_alloc_new w2 (.cells #[.int .i64 c, .int .i64 s, .int .i64 l, .int .i64 m] 48)
  have hr29 := rd_alloc hr18 (.cells #[.int .i64 c, .int .i64 s, .int .i64 l, .int .i64 m] 48)
  have g30 := g22.alloc (by have := g22.size; first | exact this | (simp; omega) | omega) (.cells #[.int .i64 c, .int .i64 s, .int .i64 l, .int .i64 m] 48)
  clear b20 b21 hr18 g22
  have n1 : w.heap.size ≠ w2.heap.size := by omega
  have n2 : w2.heap.size ≠ w.heap.size := by omega
  have n3 : w.heap.size + 1 ≠ w2.heap.size := by omega
  have n4 : w2.heap.size ≠ w.heap.size + 1 := by omega
  go_wp2_with fail
  go_region_held3 (fun w' => w'.cell? ⟨w2.heap.size, 0, none⟩ = some (.int .i64 c) ∧ w'.cell? ⟨w2.heap.size, 1, none⟩ = some (.int .i64 s) ∧ w'.cell? ⟨w2.heap.size, 2, none⟩ = some (.int .i64 l) ∧ w'.cell? ⟨w2.heap.size, 3, none⟩ = some (.int .i64 m)) (first | go_keep | (rw [World.cell?_setCell_other _ _ _ _ (by simp)]; assumption) | (go_split_ands; (repeat' constructor) <;> (refine (gr_cell hg32 (by first | omega | (simp; omega)) (by omega)).trans ?_; first | assumption | (simp [go_sem, *]; done)))) ((go_at_call 69; refine (anyAcc_any _ R p2 (rd_drew hr29) (by omega)).mono ?_; rintro e w3 ⟨c2, s2, l2, m2, p3, rfl, d0, d1, e0, e1, f0, f1, g0, g1, hp3, hr31, hg32⟩; have b33 := gr_blk hg32 b26 (by omega); have b34 := gr_blk hg32 b27 (by omega); have b35 := gr_blk hg32 b28 (by omega); have g36 := (g30.drew).trans (gr_of_below (B := w.heap.size) hg32 (by have := (g30.drew).size; first | exact this | (simp; omega) | omega) (by omega)); have lt37 := blk_lt b33; have lt38 := blk_lt b34; have lt39 := blk_lt b35; obtain ⟨r0, r1, r2, r3, rf, rl⟩ := blk4 b33; obtain ⟨t0, t1, t2, t3, tf, tl⟩ := blk4 b34; obtain ⟨q0, q1, q2, q3, qf, ql⟩ := blk4 b35))
  rename_i hHeld
  clear hr29 g30 hg32 hHeld b26 b27 b28
  go_wp2
  refine bodyPost_ret (v := .tuple #[.agg #[.int .i64 c, .int .i64 s, .int .i64 l, .int .i64 m], .agg #[.int .i64 c2, .int .i64 s2, .int .i64 l2, .int .i64 m2]]) (by simp [results, Try.results33, go_sem, r0, r1, r2, r3, t0, t1, t2, t3]) rfl ?_
  refine ⟨c, s, l, m, c2, s2, l2, m2, rfl, c0, c1, s0, s1, l0, l1, m0, m1, d0, d1, e0, e1, f0, f1, g0, g1, ?_⟩
  · go_grown
end Go.Proofs.Ytehedhkadjidpab
