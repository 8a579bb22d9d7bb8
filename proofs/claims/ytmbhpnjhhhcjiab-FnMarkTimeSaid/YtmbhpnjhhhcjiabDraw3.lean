import Derived.Test.YtmbhpnjhhhcjiabDrawMark
namespace Go.Proofs.Ytmbhpnjhhhcjiab
open Go.RowKit
def MkPost (w : World) (e : Ending) (w' : World) : Prop :=
  ∃ b h : Int, e = .returned (.agg #[.int .i64 b, .int .i64 h]) ∧ -2 ≤ b ∧ b ≤ 1000 ∧ -2 ≤ h ∧ h ≤ 1000 ∧ Below w.heap.size w w'
def MkIPost (w : World) (e : Ending) (w' : World) : Prop :=
  ∃ b h t : Int, e = .returned (.tuple #[.agg #[.int .i64 b, .int .i64 h], .int .i64 t]) ∧ -2 ≤ b ∧ b ≤ 1000 ∧ -2 ≤ h ∧ h ≤ 1000 ∧ -1 ≤ t ∧ t ≤ 1000 ∧ Below w.heap.size w w'

set_option maxHeartbeats 1000000 in
theorem drawMarkTime_any (w : World) (a : Option Addr) (len cap : Nat) (z : List Int) (h : IsRow .u8 w a len cap z) (hl : len ≤ 1048576) :
    Calls Try.prog 28 #[.slice a len cap] w (MkPost w) := by
  go_enter Try.func28, Try.ntmps28
  have g1 := Below.refl w.heap.size w
  have b2 := heap_alloc_new w (.cells #[.int .i64 0, .int .i64 0] 41)
  have g3 := g1.alloc (by have := g1.size; first | exact this | (simp; omega) | omega) (.cells #[.int .i64 0, .int .i64 0] 41)
  clear g1
  have ir4 := isRow_keep h g3
  have z5 : (w.alloc (.cells #[.int .i64 0, .int .i64 0] 41)).heap.size = w.heap.size + 1 := by simp
  clear h
  have zz6 := Lib.hid z5
  clear z5
  go_wp2_with fail
  refine (newReader_any _ a len cap z ir4 hl).mono ?_
  rintro e w1 ⟨R, rfl, hR, hrN, hbN⟩
  rw [zz6.out] at hR hbN
  have b7 := below_blk hbN b2 (by omega)
  have g8 := g3.trans (hbN.mono (by omega))
  have lt9 := rd_lt hrN
  have lt10 := blk_lt b7
  have sz11 := g8.size
  clear ir4 zz6 g3 b2 hbN
  go_wp2_with fail
  refine (anyMark_any _ R 0 hrN (by omega)).mono ?_
  rintro e w2 ⟨b, h, p2, rfl, b0, b1, h0, h1, hp2, hr12, hg13⟩
  have b14 := gr_blk hg13 b7 (by omega)
  have g15 := g8.trans (gr_of_below (B := w.heap.size) hg13 (by have := g8.size; first | exact this | (simp; omega) | omega) (by omega))
  have lt16 := rd_lt hr12
  have lt17 := blk_lt b14
  clear hg13 hrN g8 b7
  obtain ⟨s0, s1, sf, sl⟩ := blk2 b14
  clear b14
  go_wp2
  refine bodyPost_ret (v := .agg #[.int .i64 b, .int .i64 h]) (by simp [results, Try.results28, go_sem, s0, s1]) rfl ?_
  refine ⟨b, h, rfl, b0, b1, h0, h1, ?_⟩
  · go_grown

set_option maxHeartbeats 1000000 in
theorem drawSeeTime_any (w : World) (a : Option Addr) (len cap : Nat) (z : List Int) (h : IsRow .u8 w a len cap z) (hl : len ≤ 1048576) :
    Calls Try.prog 25 #[.slice a len cap] w (MkIPost w) := by
  go_enter Try.func25, Try.ntmps25
  have g1 := Below.refl w.heap.size w
  have b2 := heap_alloc_new w (.cells #[.int .i64 0, .int .i64 0] 41)
  have g3 := g1.alloc (by have := g1.size; first | exact this | (simp; omega) | omega) (.cells #[.int .i64 0, .int .i64 0] 41)
  clear g1
  have ir4 := isRow_keep h g3
  have z5 : (w.alloc (.cells #[.int .i64 0, .int .i64 0] 41)).heap.size = w.heap.size + 1 := by simp
  clear h
  have zz6 := Lib.hid z5
  clear z5
  go_wp2_with fail
  refine (newReader_any _ a len cap z ir4 hl).mono ?_
  rintro e w1 ⟨R, rfl, hR, hrN, hbN⟩
  rw [zz6.out] at hR hbN
  have b7 := below_blk hbN b2 (by omega)
  have g8 := g3.trans (hbN.mono (by omega))
  have lt9 := rd_lt hrN
  have lt10 := blk_lt b7
  have sz11 := g8.size
  clear ir4 zz6 g3 b2 hbN
  go_wp2_with fail
  refine (anyMark_any _ R 0 hrN (by omega)).mono ?_
  rintro e w2 ⟨b, h, p2, rfl, b0, b1, h0, h1, hp2, hr12, hg13⟩
  have b14 := gr_blk hg13 b7 (by omega)
  have g15 := g8.trans (gr_of_below (B := w.heap.size) hg13 (by have := g8.size; first | exact this | (simp; omega) | omega) (by omega))
  have lt16 := rd_lt hr12
  have lt17 := blk_lt b14
  clear hg13 hrN g8 b7
  have b18 := alloc_blk (.cells #[.int .i64 b, .int .i64 h] 41) b14
  have b19 := heap_alloc_new w2 (.cells #[.int .i64 b, .int .i64 h] 41)
  have hr20 := rd_alloc hr12 (.cells #[.int .i64 b, .int .i64 h] 41)
  have g21 := g15.alloc (by have := g15.size; first | exact this | (simp; omega) | omega) (.cells #[.int .i64 b, .int .i64 h] 41)
  clear b14 hr12 g15
  have n1 : w.heap.size ≠ w2.heap.size := by omega
  have n2 : w2.heap.size ≠ w.heap.size := by omega
  go_wp2_with fail
  have b22 := alloc_blk (.cells #[.int .i64 0, .int .i64 3, .int .i64 9, .int .i64 12, .int .i64 25, .int .i64 999, .int .i64 1000, .int .i64 (-1)] 3) b18
  have b23 := alloc_blk (.cells #[.int .i64 0, .int .i64 3, .int .i64 9, .int .i64 12, .int .i64 25, .int .i64 999, .int .i64 1000, .int .i64 (-1)] 3) b19
  have b24 := heap_alloc_new (w2.alloc (.cells #[.int .i64 b, .int .i64 h] 41)) (.cells #[.int .i64 0, .int .i64 3, .int .i64 9, .int .i64 12, .int .i64 25, .int .i64 999, .int .i64 1000, .int .i64 (-1)] 3)
  have z25 : (w2.alloc (.cells #[.int .i64 b, .int .i64 h] 41)).heap.size = w2.heap.size + 1 := by simp
  rw [z25] at b24
  have hr26 := rd_alloc hr20 (.cells #[.int .i64 0, .int .i64 3, .int .i64 9, .int .i64 12, .int .i64 25, .int .i64 999, .int .i64 1000, .int .i64 (-1)] 3)
  have g27 := g21.alloc (by have := g21.size; first | exact this | (simp; omega) | omega) (.cells #[.int .i64 0, .int .i64 3, .int .i64 9, .int .i64 12, .int .i64 25, .int .i64 999, .int .i64 1000, .int .i64 (-1)] 3)
  clear b18 b19 z25 hr20 g21
  go_region_held3 (fun w' => w'.cell? ⟨w2.heap.size, 0, none⟩ = some (.int .i64 b) ∧ w'.cell? ⟨w2.heap.size, 1, none⟩ = some (.int .i64 h)) (first | go_keep | (go_split_ands; (repeat' constructor) <;> (refine (gr_cell hg29 (by first | omega | (simp; omega)) (by omega)).trans ?_; first | assumption | (simp [go_sem, *]; done)))) ((go_at_call 54; refine (oneL_any [0, 3, 9, 12, 25, 999, 1000, -1] _ R (p2) 8 (rd_drew hr26) (by omega) (w2.heap.size + 1) _ b24 rfl rfl (by omega) (by omega) (by omega)).mono ?_; rintro e w3 ⟨t, t_m, rfl, hr28, hg29⟩; have b30 := gr_blk hg29 b22 (by omega); have b31 := gr_blk hg29 b23 (by omega); have g32 := (g27.drew).trans (gr_of_below (B := w.heap.size) hg29 (by have := (g27.drew).size; first | exact this | (simp; omega) | omega) (by omega)); have lt33 := blk_lt b30; have lt34 := blk_lt b31; obtain ⟨s0, s1, sf, sl⟩ := blk2 b30; obtain ⟨m0, m1, mf, ml⟩ := blk2 b31))
  rename_i hHeld
  clear b24 hr26 g27 hg29 hHeld b22 b23
  have t_b : -1 ≤ t ∧ t ≤ 1000 := by simp at t_m; omega
  clear t_m
  go_wp2
  refine bodyPost_ret (v := .tuple #[.agg #[.int .i64 b, .int .i64 h], .int .i64 t]) (by simp [results, Try.results25, go_sem, s0, s1]) rfl ?_
  refine ⟨b, h, t, rfl, b0, b1, h0, h1, t_b.1, t_b.2, ?_⟩
  · go_grown

def EvIPost (w : World) (e : Ending) (w' : World) : Prop :=
  ∃ t k v m : Int, e = .returned (.tuple #[.agg #[.int .i64 t, .int .i64 k, .int .i64 v], .int .i64 m]) ∧ -1 ≤ t ∧ t ≤ 1000 ∧ -1 ≤ k ∧ k ≤ 1000 ∧ -1 ≤ v ∧ v ≤ 1000 ∧ -2 ≤ m ∧ m ≤ 1001 ∧ Below w.heap.size w w'

set_option maxHeartbeats 2000000 in
theorem drawIsLate_any (w : World) (a : Option Addr) (len cap : Nat) (z : List Int) (h : IsRow .u8 w a len cap z) (hl : len ≤ 1048576) :
    Calls Try.prog 31 #[.slice a len cap] w (EvIPost w) := by
  go_enter Try.func31, Try.ntmps31
  have g1 := Below.refl w.heap.size w
  have b2 := heap_alloc_new w (.cells #[.int .i64 0, .int .i64 0, .int .i64 0] 49)
  have g3 := g1.alloc (by have := g1.size; first | exact this | (simp; omega) | omega) (.cells #[.int .i64 0, .int .i64 0, .int .i64 0] 49)
  clear g1
  have ir4 := isRow_keep h g3
  have z5 : (w.alloc (.cells #[.int .i64 0, .int .i64 0, .int .i64 0] 49)).heap.size = w.heap.size + 1 := by simp
  clear h
  have zz6 := Lib.hid z5
  clear z5
  go_wp2_with fail
  refine (newReader_any _ a len cap z ir4 hl).mono ?_
  rintro e w1 ⟨R, rfl, hR, hrN, hbN⟩
  rw [zz6.out] at hR hbN
  have b7 := below_blk hbN b2 (by omega)
  have g8 := g3.trans (hbN.mono (by omega))
  have lt9 := rd_lt hrN
  have lt10 := blk_lt b7
  have sz11 := g8.size
  clear ir4 zz6 g3 b2 hbN
  go_wp2_with fail
  refine (anyEvent_any _ R 0 hrN (by omega)).mono ?_
  rintro e w2 ⟨t, k, v, p2, rfl, ht0, ht1, hk0, hk1, hv0, hv1, hp2, hr12, hg13⟩
  have b14 := gr_blk hg13 b7 (by omega)
  have g15 := g8.trans (gr_of_below (B := w.heap.size) hg13 (by have := g8.size; first | exact this | (simp; omega) | omega) (by omega))
  have lt16 := rd_lt hr12
  have lt17 := blk_lt b14
  clear hg13 hrN g8 b7
  have b18 := alloc_blk (.cells #[.int .i64 t, .int .i64 k, .int .i64 v] 49) b14
  have b19 := heap_alloc_new w2 (.cells #[.int .i64 t, .int .i64 k, .int .i64 v] 49)
  have hr20 := rd_alloc hr12 (.cells #[.int .i64 t, .int .i64 k, .int .i64 v] 49)
  have g21 := g15.alloc (by have := g15.size; first | exact this | (simp; omega) | omega) (.cells #[.int .i64 t, .int .i64 k, .int .i64 v] 49)
  clear b14 hr12 g15
  have n1 : w.heap.size ≠ w2.heap.size := by omega
  have n2 : w2.heap.size ≠ w.heap.size := by omega
  have q1 : IntKind.i64.wrap (t - 1) = t - 1 := IntWalk.i64_in _ (by omega)
  have q2 : IntKind.i64.wrap (t + 1) = t + 1 := IntWalk.i64_in _ (by omega)
  go_wp2_with fail
  have b22 := alloc_blk (.cells #[.int .i64 t, .int .i64 (t - 1), .int .i64 (t + 1), .int .i64 (-1), .int .i64 999, .int .i64 1000, .int .i64 (-2), .int .i64 20] 3) b18
  have b23 := alloc_blk (.cells #[.int .i64 t, .int .i64 (t - 1), .int .i64 (t + 1), .int .i64 (-1), .int .i64 999, .int .i64 1000, .int .i64 (-2), .int .i64 20] 3) b19
  have b24 := heap_alloc_new (w2.alloc (.cells #[.int .i64 t, .int .i64 k, .int .i64 v] 49)) (.cells #[.int .i64 t, .int .i64 (t - 1), .int .i64 (t + 1), .int .i64 (-1), .int .i64 999, .int .i64 1000, .int .i64 (-2), .int .i64 20] 3)
  have z25 : (w2.alloc (.cells #[.int .i64 t, .int .i64 k, .int .i64 v] 49)).heap.size = w2.heap.size + 1 := by simp
  rw [z25] at b24
  have hr26 := rd_alloc hr20 (.cells #[.int .i64 t, .int .i64 (t - 1), .int .i64 (t + 1), .int .i64 (-1), .int .i64 999, .int .i64 1000, .int .i64 (-2), .int .i64 20] 3)
  have g27 := g21.alloc (by have := g21.size; first | exact this | (simp; omega) | omega) (.cells #[.int .i64 t, .int .i64 (t - 1), .int .i64 (t + 1), .int .i64 (-1), .int .i64 999, .int .i64 1000, .int .i64 (-2), .int .i64 20] 3)
  clear b18 b19 z25 hr20 g21
  go_region_held3 (fun w' => w'.cell? ⟨w2.heap.size, 0, none⟩ = some (.int .i64 t) ∧ w'.cell? ⟨w2.heap.size, 1, none⟩ = some (.int .i64 k) ∧ w'.cell? ⟨w2.heap.size, 2, none⟩ = some (.int .i64 v)) (first | go_keep | (go_split_ands; (repeat' constructor) <;> (refine (gr_cell hg29 (by first | omega | (simp; omega)) (by omega)).trans ?_; first | assumption | (simp [go_sem, *]; done)))) ((go_at_call 54; refine (oneL_any [t, (t - 1), (t + 1), -1, 999, 1000, -2, 20] _ R (p2) 8 (rd_drew hr26) (by omega) (w2.heap.size + 1) _ b24 rfl rfl (by omega) (by omega) (by omega)).mono ?_; rintro e w3 ⟨m, m_m, rfl, hr28, hg29⟩; have b30 := gr_blk hg29 b22 (by omega); have b31 := gr_blk hg29 b23 (by omega); have g32 := (g27.drew).trans (gr_of_below (B := w.heap.size) hg29 (by have := (g27.drew).size; first | exact this | (simp; omega) | omega) (by omega)); have lt33 := blk_lt b30; have lt34 := blk_lt b31; obtain ⟨s0, s1, s2, sf, sl⟩ := blk3 b30; obtain ⟨m0, m1, m2, mf, ml⟩ := blk3 b31))
  rename_i hHeld
  clear b24 hr26 g27 hg29 hHeld b22 b23
  have m_b : -2 ≤ m ∧ m ≤ 1001 := by simp at m_m; omega
  clear m_m
  go_wp2
  refine bodyPost_ret (v := .tuple #[.agg #[.int .i64 t, .int .i64 k, .int .i64 v], .int .i64 m]) (by simp [results, Try.results31, go_sem, s0, s1, s2]) rfl ?_
  refine ⟨t, k, v, m, rfl, ht0, ht1, hk0, hk1, hv0, hv1, m_b.1, m_b.2, ?_⟩
  · go_grown

end Go.Proofs.Ytmbhpnjhhhcjiab
