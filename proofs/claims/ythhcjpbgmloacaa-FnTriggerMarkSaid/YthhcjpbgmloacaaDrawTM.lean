import Derived.Test.YthhcjpbgmloacaaOne
namespace Go.Proofs.Ythhcjpbgmloacaa
open Go.RowKit
def TrPost (w : World) (R p d : Nat) (e : Ending) (w' : World) : Prop :=
  ∃ (b h : Int) (p' : Nat), e = .returned (.agg #[.int .i64 b, .int .i64 h]) ∧ -1 ≤ b ∧ b ≤ 1000 ∧ -1 ≤ h ∧ h ≤ 1000 ∧ p' ≤ p + d ∧ Rd w' R p' ∧ Gr w w' R
def WnPost (w : World) (R p d : Nat) (e : Ending) (w' : World) : Prop :=
  ∃ (b h : Int) (p' : Nat), e = .returned (.agg #[.int .i64 b, .int .i64 h]) ∧ -1000 ≤ b ∧ b ≤ 1000 ∧ -1000 ≤ h ∧ h ≤ 1999 ∧ p' ≤ p + d ∧ Rd w' R p' ∧ Gr w w' R

set_option maxHeartbeats 1000000 in
theorem anyTrigger_any (w : World) (R p : Nat) (h : Rd w R p) (hp : p + 2 ≤ 1000000000) :
    Calls Try.prog 27 #[.pointer (some ⟨R, 0, none⟩)] w (TrPost w R p 2) := by
  have hR := rd_lt h
  have g1 := gr_refl w R
  have hr2 := h
  have b3 := heap_alloc_new w (.cells #[.int .i64 0, .int .i64 0] 28)
  have hr4 := rd_alloc hr2 (.cells #[.int .i64 0, .int .i64 0] 28)
  have g5 := gr_alloc g1 (.cells #[.int .i64 0, .int .i64 0] 28)
  clear hr2 g1
  go_enter Try.func27, Try.ntmps27
  have b6 := alloc_blk (.cells #[.int .i64 0, .int .i64 2, .int .i64 3, .int .i64 1, .int .i64 0, .int .i64 40, .int .i64 41, .int .i64 (-1)] 3) b3
  have b7 := heap_alloc_new (w.alloc (.cells #[.int .i64 0, .int .i64 0] 28)) (.cells #[.int .i64 0, .int .i64 2, .int .i64 3, .int .i64 1, .int .i64 0, .int .i64 40, .int .i64 41, .int .i64 (-1)] 3)
  have z8 : (w.alloc (.cells #[.int .i64 0, .int .i64 0] 28)).heap.size = w.heap.size + 1 := by simp
  rw [z8] at b7
  have hr9 := rd_alloc hr4 (.cells #[.int .i64 0, .int .i64 2, .int .i64 3, .int .i64 1, .int .i64 0, .int .i64 40, .int .i64 41, .int .i64 (-1)] 3)
  have g10 := gr_alloc g5 (.cells #[.int .i64 0, .int .i64 2, .int .i64 3, .int .i64 1, .int .i64 0, .int .i64 40, .int .i64 41, .int .i64 (-1)] 3)
  clear b3 z8 hr4 g5
  go_wp2_with fail
  refine (oneL_any [0, 2, 3, 1, 0, 40, 41, -1] _ R (p) 8 hr9 (by omega) (w.heap.size + 1) _ b7 rfl rfl (by omega) (by omega) (by omega)).mono ?_
  rintro e w1 ⟨b, b_m, rfl, hr11, hg12⟩
  have b13 := gr_blk hg12 b6 (by omega)
  have g14 := gr_trans g10 hg12
  have lt15 := rd_lt hr11
  have lt16 := blk_lt b13
  clear hg12 hr9 g10 b6
  have b_b : -1 ≤ b ∧ b ≤ 41 := by simp at b_m; omega
  clear b_m
  clear b7
  have b17 := alloc_blk (.cells #[.int .i64 0, .int .i64 0, .int .i64 5, .int .i64 2, .int .i64 10, .int .i64 999, .int .i64 1000, .int .i64 (-1)] 3) b13
  have b18 := heap_alloc_new w1 (.cells #[.int .i64 0, .int .i64 0, .int .i64 5, .int .i64 2, .int .i64 10, .int .i64 999, .int .i64 1000, .int .i64 (-1)] 3)
  have hr19 := rd_alloc hr11 (.cells #[.int .i64 0, .int .i64 0, .int .i64 5, .int .i64 2, .int .i64 10, .int .i64 999, .int .i64 1000, .int .i64 (-1)] 3)
  have g20 := gr_alloc g14 (.cells #[.int .i64 0, .int .i64 0, .int .i64 5, .int .i64 2, .int .i64 10, .int .i64 999, .int .i64 1000, .int .i64 (-1)] 3)
  clear b13 hr11 g14
  go_wp2_with fail
  refine (oneL_any [0, 0, 5, 2, 10, 999, 1000, -1] _ R (p + 1) 8 hr19 (by omega) (w1.heap.size) _ b18 rfl rfl (by omega) (by omega) (by omega)).mono ?_
  rintro e w2 ⟨h1, h1_m, rfl, hr21, hg22⟩
  have b23 := gr_blk hg22 b17 (by omega)
  have g24 := gr_trans g20 hg22
  have lt25 := rd_lt hr21
  have lt26 := blk_lt b23
  clear hg22 hr19 g20 b17
  have h1_b : -1 ≤ h1 ∧ h1 ≤ 1000 := by simp at h1_m; omega
  clear h1_m
  clear b18
  obtain ⟨s0, s1, sf, sl⟩ := blk2 b23
  clear b23
  go_wp2
  refine bodyPost_ret (v := .agg #[.int .i64 b, .int .i64 h1]) (by simp [results, Try.results27, go_sem, s0, s1]) rfl ?_
  refine ⟨b, h1, p + 1 + 1, rfl, by omega, by omega, by omega, by omega, by omega, ?_, ?_⟩
  · repeat (first | exact hr21 | refine rd_setCell ?_ (by first | omega | (simp; omega)) _ | refine rd_drew ?_ | refine rd_alloc ?_ _)
  · repeat (first | exact g24 | refine gr_setCell ?_ (by first | exact Nat.le_refl _ | omega | (simp; omega)) _ | refine gr_drew ?_ | refine gr_alloc ?_ _)

set_option maxHeartbeats 2000000 in
theorem anyWindow_any (w : World) (R p : Nat) (h : Rd w R p) (hp : p + 5 ≤ 1000000000) :
    Calls Try.prog 28 #[.pointer (some ⟨R, 0, none⟩)] w (WnPost w R p 5) := by
  have hR := rd_lt h
  have g1 := gr_refl w R
  have hr2 := h
  have b3 := heap_alloc_new w (.cells #[.int .i64 0, .int .i64 0] 30)
  have hr4 := rd_alloc hr2 (.cells #[.int .i64 0, .int .i64 0] 30)
  have g5 := gr_alloc g1 (.cells #[.int .i64 0, .int .i64 0] 30)
  clear hr2 g1
  go_enter Try.func28, Try.ntmps28
  go_wp2_with fail
  refine (pick_any 40 _ R (p) hr4 (by omega) (by omega)).mono ?_
  rintro e w1 ⟨x, rfl, x_0, x_1, -, hr6, hg7, -⟩
  have b8 := gr_blk hg7 b3 (by omega)
  have g9 := gr_trans g5 hg7
  have lt10 := rd_lt hr6
  have lt11 := blk_lt b8
  clear hg7 hr4 g5 b3
  have x_b : 0 ≤ x ∧ x ≤ 39 := ⟨x_0, by omega⟩
  have q0 : IntKind.i64.wrap (x - 8) = x - 8 := IntWalk.i64_in _ (by omega)
  have q1 : IntKind.i64.wrap (x - 8 + 1) = x - 8 + 1 := IntWalk.i64_in _ (by omega)
  have b12 := alloc_blk (.cells #[.int .i64 (x - 8), .int .i64 0] 30) b8
  have b13 := heap_alloc_new w1 (.cells #[.int .i64 (x - 8), .int .i64 0] 30)
  have hr14 := rd_alloc hr6 (.cells #[.int .i64 (x - 8), .int .i64 0] 30)
  have g15 := gr_alloc g9 (.cells #[.int .i64 (x - 8), .int .i64 0] 30)
  clear b8 hr6 g9
  have n1 : w.heap.size ≠ w1.heap.size := by omega
  have n2 : w1.heap.size ≠ w.heap.size := by omega
  go_wp2_with fail
  go_region_held3 (fun w' => w'.cell? ⟨w1.heap.size, 0, none⟩ = some (.int .i64 (x - 8))) (first | go_keep | (rw [World.cell?_setCell_other _ _ _ _ (by simp)]; assumption) | (go_split_ands; (repeat' constructor) <;> (refine (gr_cell hg17 (by first | omega | (simp; omega)) (by omega)).trans ?_; first | assumption | (simp [go_sem, *]; done)))) ((go_at_call 40; refine (pick_any 9 _ R (p + 1) (rd_drew hr14) (by omega) (by omega)).mono ?_; rintro e w2 ⟨y, rfl, y_0, y_1, -, hr16, hg17, -⟩; have b18 := gr_blk hg17 b12 (by omega); have b19 := gr_blk hg17 b13 (by omega); have g20 := gr_trans (gr_drew g15) hg17; have lt21 := blk_lt b18; have lt22 := blk_lt b19; obtain ⟨e0, e1, ef, el⟩ := blk2 b19; have y_b : 0 ≤ y ∧ y ≤ 8 := ⟨y_0, by omega⟩; have q2 : IntKind.i64.wrap (x - 8 + 1 + y) = x - 8 + 1 + y := IntWalk.i64_in _ (by omega)))
  rename_i hHeld
  clear hr14 g15 hg17 hHeld b12 b13
  clear q0 q1 q2 e0 e1 ef el
  have b23 := blk_far (p := ⟨w1.heap.size, 1, none⟩) b18 (by omega) (.int .i64 (x - 8 + 1 + y))
  have b24 := blk_set b19 1 (.int .i64 (x - 8 + 1 + y))
  rw [show (#[.int .i64 (x - 8), .int .i64 0] : Array Value).setIfInBounds 1 (.int .i64 (x - 8 + 1 + y)) = #[.int .i64 (x - 8), .int .i64 (x - 8 + 1 + y)] from rfl] at b24
  have hr25 := rd_setCell (a := ⟨w1.heap.size, 1, none⟩) hr16 (by first | omega | (simp; omega)) (.int .i64 (x - 8 + 1 + y))
  have g26 := gr_setCell (p := ⟨w1.heap.size, 1, none⟩) g20 (by first | exact Nat.le_refl _ | omega | (simp; omega)) (.int .i64 (x - 8 + 1 + y))
  clear b18 b19 hr16 g20
  go_wp2_with fail
  refine (pick_any 24 _ R (p + 1 + 1) hr25 (by omega) (by omega)).mono ?_
  rintro e w3 ⟨z, rfl, z_0, z_1, -, hr27, hg28, -⟩
  have b29 := gr_blk hg28 b23 (by omega)
  have b30 := gr_blk hg28 b24 (by omega)
  have g31 := gr_trans g26 hg28
  have lt32 := rd_lt hr27
  have lt33 := blk_lt b29
  have lt34 := blk_lt b30
  clear hg28 hr25 g26 b23 b24
  rcases (show z = 0 ∨ z = 1 ∨ z = 2 ∨ 2 < z by omega) with hz | hz | hz | hz
  · subst hz
    obtain ⟨e0, e1, ef, el⟩ := blk2 b30
    obtain ⟨s0, s1, sf, sl⟩ := blk2 b29
    clear b30 b29
    go_wp2
    refine bodyPost_ret (v := .agg #[.int .i64 (x - 8), .int .i64 (x - 8)]) (by simp [results, Try.results28, go_sem, s0, s1, e0, e1]) rfl ?_
    refine ⟨x - 8, x - 8, p + 1 + 1 + 1, rfl, by omega, by omega, by omega, by omega, by omega, ?_, ?_⟩
    · repeat (first | exact hr27 | refine rd_setCell ?_ (by first | omega | (simp; omega)) _ | refine rd_drew ?_ | refine rd_alloc ?_ _)
    · repeat (first | exact g31 | refine gr_setCell ?_ (by first | exact Nat.le_refl _ | omega | (simp; omega)) _ | refine gr_drew ?_ | refine gr_alloc ?_ _)
  · subst hz
    have b35 := alloc_blk (.cells #[.int .i64 (-999), .int .i64 (-1000), .int .i64 999, .int .i64 1000] 3) b29
    have b36 := alloc_blk (.cells #[.int .i64 (-999), .int .i64 (-1000), .int .i64 999, .int .i64 1000] 3) b30
    have b37 := heap_alloc_new w3 (.cells #[.int .i64 (-999), .int .i64 (-1000), .int .i64 999, .int .i64 1000] 3)
    have hr38 := rd_alloc hr27 (.cells #[.int .i64 (-999), .int .i64 (-1000), .int .i64 999, .int .i64 1000] 3)
    have g39 := gr_alloc g31 (.cells #[.int .i64 (-999), .int .i64 (-1000), .int .i64 999, .int .i64 1000] 3)
    clear b29 b30 hr27 g31
    go_wp2_with fail
    refine (oneL_any [-999, -1000, 999, 1000] _ R (p + 1 + 1 + 1) 4 hr38 (by omega) (w3.heap.size) _ b37 rfl rfl (by omega) (by omega) (by omega)).mono ?_
    rintro e w4 ⟨v, v_m, rfl, hr40, hg41⟩
    have b42 := gr_blk hg41 b35 (by omega)
    have b43 := gr_blk hg41 b36 (by omega)
    have g44 := gr_trans g39 hg41
    have lt45 := rd_lt hr40
    have lt46 := blk_lt b42
    have lt47 := blk_lt b43
    clear hg41 hr38 g39 b35 b36
    have v_b : -1000 ≤ v ∧ v ≤ 1000 := by simp at v_m; omega
    clear v_m
    clear b37
    obtain ⟨e0, e1, ef, el⟩ := blk2 b43
    obtain ⟨s0, s1, sf, sl⟩ := blk2 b42
    clear b43 b42
    go_wp2
    refine bodyPost_ret (v := .agg #[.int .i64 (v), .int .i64 (x - 8 + 1 + y)]) (by simp [results, Try.results28, go_sem, s0, s1, e0, e1]) rfl ?_
    refine ⟨v, x - 8 + 1 + y, p + 1 + 1 + 1 + 1, rfl, by omega, by omega, by omega, by omega, by omega, ?_, ?_⟩
    · repeat (first | exact hr40 | refine rd_setCell ?_ (by first | omega | (simp; omega)) _ | refine rd_drew ?_ | refine rd_alloc ?_ _)
    · repeat (first | exact g44 | refine gr_setCell ?_ (by first | exact Nat.le_refl _ | omega | (simp; omega)) _ | refine gr_drew ?_ | refine gr_alloc ?_ _)
  · subst hz
    have b35 := alloc_blk (.cells #[.int .i64 1998, .int .i64 1999] 3) b29
    have b36 := alloc_blk (.cells #[.int .i64 1998, .int .i64 1999] 3) b30
    have b37 := heap_alloc_new w3 (.cells #[.int .i64 1998, .int .i64 1999] 3)
    have hr38 := rd_alloc hr27 (.cells #[.int .i64 1998, .int .i64 1999] 3)
    have g39 := gr_alloc g31 (.cells #[.int .i64 1998, .int .i64 1999] 3)
    clear b29 b30 hr27 g31
    go_wp2_with fail
    refine (oneL_any [1998, 1999] _ R (p + 1 + 1 + 1) 2 hr38 (by omega) (w3.heap.size) _ b37 rfl rfl (by omega) (by omega) (by omega)).mono ?_
    rintro e w4 ⟨v, v_m, rfl, hr40, hg41⟩
    have b42 := gr_blk hg41 b35 (by omega)
    have b43 := gr_blk hg41 b36 (by omega)
    have g44 := gr_trans g39 hg41
    have lt45 := rd_lt hr40
    have lt46 := blk_lt b42
    have lt47 := blk_lt b43
    clear hg41 hr38 g39 b35 b36
    have v_b : 1998 ≤ v ∧ v ≤ 1999 := by simp at v_m; omega
    clear v_m
    clear b37
    obtain ⟨e0, e1, ef, el⟩ := blk2 b43
    obtain ⟨s0, s1, sf, sl⟩ := blk2 b42
    clear b43 b42
    go_wp2
    refine bodyPost_ret (v := .agg #[.int .i64 (x - 8), .int .i64 (v)]) (by simp [results, Try.results28, go_sem, s0, s1, e0, e1]) rfl ?_
    refine ⟨x - 8, v, p + 1 + 1 + 1 + 1, rfl, by omega, by omega, by omega, by omega, by omega, ?_, ?_⟩
    · repeat (first | exact hr40 | refine rd_setCell ?_ (by first | omega | (simp; omega)) _ | refine rd_drew ?_ | refine rd_alloc ?_ _)
    · repeat (first | exact g44 | refine gr_setCell ?_ (by first | exact Nat.le_refl _ | omega | (simp; omega)) _ | refine gr_drew ?_ | refine gr_alloc ?_ _)
  · have z0 : (z == 0) = false := by simp; omega
    have z1 : (z == 1) = false := by simp; omega
    have z2 : (z == 2) = false := by simp; omega
    obtain ⟨e0, e1, ef, el⟩ := blk2 b30
    obtain ⟨s0, s1, sf, sl⟩ := blk2 b29
    clear b30 b29
    go_wp2
    refine bodyPost_ret (v := .agg #[.int .i64 (x - 8), .int .i64 (x - 8 + 1 + y)]) (by simp [results, Try.results28, go_sem, s0, s1, e0, e1]) rfl ?_
    refine ⟨x - 8, x - 8 + 1 + y, p + 1 + 1 + 1, rfl, by omega, by omega, by omega, by omega, by omega, ?_, ?_⟩
    · repeat (first | exact hr27 | refine rd_setCell ?_ (by first | omega | (simp; omega)) _ | refine rd_drew ?_ | refine rd_alloc ?_ _)
    · repeat (first | exact g31 | refine gr_setCell ?_ (by first | exact Nat.le_refl _ | omega | (simp; omega)) _ | refine gr_drew ?_ | refine gr_alloc ?_ _)

def TMPost (w : World) (e : Ending) (w' : World) : Prop :=
  ∃ ev la b h m t : Int, e = .returned (.tuple #[.agg #[.int .i64 ev, .int .i64 la], .agg #[.int .i64 b, .int .i64 h], .int .i64 m, .int .i64 t]) ∧ -1 ≤ ev ∧ ev ≤ 1000 ∧ -1 ≤ la ∧ la ≤ 1000 ∧ -1000 ≤ b ∧ b ≤ 1000 ∧ -1000 ≤ h ∧ h ≤ 1999 ∧ -1003 ≤ m ∧ m ≤ 3001 ∧ -1003 ≤ t ∧ t ≤ 3002 ∧ Below w.heap.size w w'

set_option maxRecDepth 100000 in
set_option maxHeartbeats 4000000 in
theorem drawTriggerMark_any (w : World) (a : Option Addr) (len cap : Nat) (z : List Int) (h : IsRow .u8 w a len cap z) (hl : len ≤ 1048576) :
    Calls Try.prog 11 #[.slice a len cap] w (TMPost w) := by
  go_enter Try.func11, Try.ntmps11
  have g1 := Below.refl w.heap.size w
  have b2 := heap_alloc_new w (.cells #[.int .i64 0, .int .i64 0] 28)
  have g3 := g1.alloc (by have := g1.size; first | exact this | (simp; omega) | omega) (.cells #[.int .i64 0, .int .i64 0] 28)
  clear g1
  have b4 := alloc_blk (.cells #[.int .i64 0, .int .i64 0] 30) b2
  have b5 := heap_alloc_new (w.alloc (.cells #[.int .i64 0, .int .i64 0] 28)) (.cells #[.int .i64 0, .int .i64 0] 30)
  have z6 : (w.alloc (.cells #[.int .i64 0, .int .i64 0] 28)).heap.size = w.heap.size + 1 := by simp
  rw [z6] at b5
  have g7 := g3.alloc (by have := g3.size; first | exact this | (simp; omega) | omega) (.cells #[.int .i64 0, .int .i64 0] 30)
  clear b2 z6 g3
  have ir8 := isRow_keep h g7
  have z9 : ((w.alloc (.cells #[.int .i64 0, .int .i64 0] 28)).alloc (.cells #[.int .i64 0, .int .i64 0] 30)).heap.size = w.heap.size + 2 := by simp
  have zz10 := Lib.hid z9
  clear z9
  clear h
  go_wp2_with fail
  refine (newReader_any _ a len cap z ir8 hl).mono ?_
  rintro e w1 ⟨R, rfl, hR, hrN, hbN⟩
  rw [zz10.out] at hR hbN
  have b11 := below_blk hbN b4 (by omega)
  have b12 := below_blk hbN b5 (by omega)
  have g13 := g7.trans (hbN.mono (by omega))
  have lt14 := rd_lt hrN
  have lt15 := blk_lt b11
  have lt16 := blk_lt b12
  have sz17 := g13.size
  clear ir8 g7 zz10 b4 b5 hbN
  go_wp2_with fail
  refine (anyTrigger_any _ R 0 hrN (by omega)).mono ?_
  rintro e w2 ⟨ev, la, p2, rfl, e0, e1, l0, l1, hp2, hr18, hg19⟩
  have b20 := gr_blk hg19 b11 (by omega)
  have b21 := gr_blk hg19 b12 (by omega)
  have g22 := g13.trans (gr_of_below (B := w.heap.size) hg19 (by have := g13.size; first | exact this | (simp; omega) | omega) (by omega))
  have lt23 := rd_lt hr18
  have lt24 := blk_lt b20
  have lt25 := blk_lt b21
  clear hg19 hrN g13 b11 b12
  have b26 := alloc_blk (.cells #[.int .i64 ev, .int .i64 la] 28) b20
  have b27 := alloc_blk (.cells #[.int .i64 ev, .int .i64 la] 28) b21
  have b28 := heap_alloc_new w2 (.cells #[.int .i64 ev, .int .i64 la] 28)
  have hr29 := rd_alloc hr18 (.cells #[.int .i64 ev, .int .i64 la] 28)
  have g30 := g22.alloc (by have := g22.size; first | exact this | (simp; omega) | omega) (.cells #[.int .i64 ev, .int .i64 la] 28)
  clear b20 b21 hr18 g22
  go_wp2_with fail
  refine (anyWindow_any _ R p2 hr29 (by omega)).mono ?_
  rintro e w3 ⟨b, h, p3, rfl, b0, b1, h0, h1, hp3, hr31, hg32⟩
  have b33 := gr_blk hg32 b26 (by omega)
  have b34 := gr_blk hg32 b27 (by omega)
  have b35 := gr_blk hg32 b28 (by omega)
  have g36 := g30.trans (gr_of_below (B := w.heap.size) hg32 (by have := g30.size; first | exact this | (simp; omega) | omega) (by omega))
  have lt37 := rd_lt hr31
  have lt38 := blk_lt b33
  have lt39 := blk_lt b34
  have lt40 := blk_lt b35
  clear hg32 hr29 g30 b26 b27 b28
  have b41 := alloc_blk (.cells #[.int .i64 b, .int .i64 h] 30) b33
  have b42 := alloc_blk (.cells #[.int .i64 b, .int .i64 h] 30) b34
  have b43 := alloc_blk (.cells #[.int .i64 b, .int .i64 h] 30) b35
  have b44 := heap_alloc_new w3 (.cells #[.int .i64 b, .int .i64 h] 30)
  have hr45 := rd_alloc hr31 (.cells #[.int .i64 b, .int .i64 h] 30)
  have g46 := g36.alloc (by have := g36.size; first | exact this | (simp; omega) | omega) (.cells #[.int .i64 b, .int .i64 h] 30)
  clear b33 b34 b35 hr31 g36
  have n0 : w.heap.size ≠ w2.heap.size := by omega
  have m0 : w2.heap.size ≠ w.heap.size := by omega
  have n1 : w.heap.size ≠ w3.heap.size := by omega
  have m1 : w3.heap.size ≠ w.heap.size := by omega
  have n2 : w2.heap.size ≠ w3.heap.size := by omega
  have m2 : w3.heap.size ≠ w2.heap.size := by omega
  have n3 : w.heap.size + 1 ≠ w2.heap.size := by omega
  have m3 : w2.heap.size ≠ w.heap.size + 1 := by omega
  have n4 : w.heap.size + 1 ≠ w3.heap.size := by omega
  have m4 : w3.heap.size ≠ w.heap.size + 1 := by omega
  have q1 : IntKind.i64.wrap (h - 2) = h - 2 := IntWalk.i64_in _ (by omega)
  have q2 : IntKind.i64.wrap (h - 1) = h - 1 := IntWalk.i64_in _ (by omega)
  have q4 : IntKind.i64.wrap (h - 1 + la) = h - 1 + la := IntWalk.i64_in _ (by omega)
  have q5 : IntKind.i64.wrap (h + 20) = h + 20 := IntWalk.i64_in _ (by omega)
  obtain ⟨ia0, ia1, iaf, ial⟩ := blk2 b43
  obtain ⟨ja0, ja1, jaf, jal⟩ := blk2 b44
  have b47 := alloc_blk (.cells #[.int .i64 (-1), .int .i64 (h - 2), .int .i64 (h - 1), .int .i64 b, .int .i64 3000, .int .i64 (-2)] 3) b41
  have b48 := alloc_blk (.cells #[.int .i64 (-1), .int .i64 (h - 2), .int .i64 (h - 1), .int .i64 b, .int .i64 3000, .int .i64 (-2)] 3) b42
  have b49 := alloc_blk (.cells #[.int .i64 (-1), .int .i64 (h - 2), .int .i64 (h - 1), .int .i64 b, .int .i64 3000, .int .i64 (-2)] 3) b43
  have b50 := alloc_blk (.cells #[.int .i64 (-1), .int .i64 (h - 2), .int .i64 (h - 1), .int .i64 b, .int .i64 3000, .int .i64 (-2)] 3) b44
  have b51 := heap_alloc_new (w3.alloc (.cells #[.int .i64 b, .int .i64 h] 30)) (.cells #[.int .i64 (-1), .int .i64 (h - 2), .int .i64 (h - 1), .int .i64 b, .int .i64 3000, .int .i64 (-2)] 3)
  have z52 : (w3.alloc (.cells #[.int .i64 b, .int .i64 h] 30)).heap.size = w3.heap.size + 1 := by simp
  rw [z52] at b51
  have hr53 := rd_alloc hr45 (.cells #[.int .i64 (-1), .int .i64 (h - 2), .int .i64 (h - 1), .int .i64 b, .int .i64 3000, .int .i64 (-2)] 3)
  have g54 := g46.alloc (by have := g46.size; first | exact this | (simp; omega) | omega) (.cells #[.int .i64 (-1), .int .i64 (h - 2), .int .i64 (h - 1), .int .i64 b, .int .i64 3000, .int .i64 (-2)] 3)
  clear b41 b42 b43 b44 z52 hr45 g46
  go_wp2_with fail
  refine (oneL_any [-1, (h - 2), (h - 1), b, 3000, -2] _ R (p3) 6 hr53 (by omega) (w3.heap.size + 1) _ b51 rfl rfl (by omega) (by omega) (by omega)).mono ?_
  rintro e w4 ⟨o, o_m, rfl, hr55, hg56⟩
  have b57 := gr_blk hg56 b47 (by omega)
  have b58 := gr_blk hg56 b48 (by omega)
  have b59 := gr_blk hg56 b49 (by omega)
  have b60 := gr_blk hg56 b50 (by omega)
  have g61 := g54.trans (gr_of_below (B := w.heap.size) hg56 (by have := g54.size; first | exact this | (simp; omega) | omega) (by omega))
  have lt62 := rd_lt hr55
  have lt63 := blk_lt b57
  have lt64 := blk_lt b58
  have lt65 := blk_lt b59
  have lt66 := blk_lt b60
  clear hg56 hr53 g54 b47 b48 b49 b50
  clear b51
  have o_b : -1003 ≤ o ∧ o ≤ 3000 := by simp at o_m; omega
  clear o_m
  clear ia0 ia1 iaf ial ja0 ja1 jaf jal
  obtain ⟨ib0, ib1, ibf, ibl⟩ := blk2 b59
  obtain ⟨jb0, jb1, jbf, jbl⟩ := blk2 b60
  have q6 : IntKind.i64.wrap (o + 1) = o + 1 := IntWalk.i64_in _ (by omega)
  go_wp2_with fail
  have b67 := alloc_blk (.cells #[.int .i64 o, .int .i64 (o + 1), .int .i64 (h - 1), .int .i64 (h - 1 + la), .int .i64 (h + 20), .int .i64 3000, .int .i64 3001, .int .i64 (-2)] 3) b57
  have b68 := alloc_blk (.cells #[.int .i64 o, .int .i64 (o + 1), .int .i64 (h - 1), .int .i64 (h - 1 + la), .int .i64 (h + 20), .int .i64 3000, .int .i64 3001, .int .i64 (-2)] 3) b58
  have b69 := alloc_blk (.cells #[.int .i64 o, .int .i64 (o + 1), .int .i64 (h - 1), .int .i64 (h - 1 + la), .int .i64 (h + 20), .int .i64 3000, .int .i64 3001, .int .i64 (-2)] 3) b59
  have b70 := alloc_blk (.cells #[.int .i64 o, .int .i64 (o + 1), .int .i64 (h - 1), .int .i64 (h - 1 + la), .int .i64 (h + 20), .int .i64 3000, .int .i64 3001, .int .i64 (-2)] 3) b60
  have b71 := heap_alloc_new w4 (.cells #[.int .i64 o, .int .i64 (o + 1), .int .i64 (h - 1), .int .i64 (h - 1 + la), .int .i64 (h + 20), .int .i64 3000, .int .i64 3001, .int .i64 (-2)] 3)
  have hr72 := rd_alloc hr55 (.cells #[.int .i64 o, .int .i64 (o + 1), .int .i64 (h - 1), .int .i64 (h - 1 + la), .int .i64 (h + 20), .int .i64 3000, .int .i64 3001, .int .i64 (-2)] 3)
  have g73 := g61.alloc (by have := g61.size; first | exact this | (simp; omega) | omega) (.cells #[.int .i64 o, .int .i64 (o + 1), .int .i64 (h - 1), .int .i64 (h - 1 + la), .int .i64 (h + 20), .int .i64 3000, .int .i64 3001, .int .i64 (-2)] 3)
  clear b57 b58 b59 b60 hr55 g61
  go_region_held3 (fun w' => w'.cell? ⟨w2.heap.size, 0, none⟩ = some (.int .i64 ev) ∧ w'.cell? ⟨w2.heap.size, 1, none⟩ = some (.int .i64 la) ∧ w'.cell? ⟨w3.heap.size, 0, none⟩ = some (.int .i64 b) ∧ w'.cell? ⟨w3.heap.size, 1, none⟩ = some (.int .i64 h)) (first | go_keep | (go_split_ands; (repeat' constructor) <;> (refine (gr_cell hg75 (by first | omega | (simp; omega)) (by omega)).trans ?_; first | assumption | (simp [go_sem, *]; done)))) ((go_at_call 29; refine (oneL_any [o, (o + 1), (h - 1), (h - 1 + la), (h + 20), 3000, 3001, -2] _ R (p3 + 1) 8 (rd_drew hr72) (by omega) (w4.heap.size) _ b71 rfl rfl (by omega) (by omega) (by omega)).mono ?_; rintro e w5 ⟨t, t_m, rfl, hr74, hg75⟩; have b76 := gr_blk hg75 b67 (by omega); have b77 := gr_blk hg75 b68 (by omega); have b78 := gr_blk hg75 b69 (by omega); have b79 := gr_blk hg75 b70 (by omega); have g80 := (g73.drew).trans (gr_of_below (B := w.heap.size) hg75 (by have := (g73.drew).size; first | exact this | (simp; omega) | omega) (by omega)); have lt81 := blk_lt b76; have lt82 := blk_lt b77; have lt83 := blk_lt b78; have lt84 := blk_lt b79; obtain ⟨s0, s1, sf, sl⟩ := blk2 b76; obtain ⟨u0, u1, uf, ul⟩ := blk2 b77; obtain ⟨m0, m1, mf, ml⟩ := blk2 b78; obtain ⟨k0, k1, kf, kl⟩ := blk2 b79))
  rename_i hHeld
  clear b71 hr72 g73 hg75 hHeld b67 b68 b69 b70
  have t_b : -1003 ≤ t ∧ t ≤ 3001 := by simp at t_m; omega
  clear t_m
  go_wp2
  refine bodyPost_ret (v := .tuple #[.agg #[.int .i64 ev, .int .i64 la], .agg #[.int .i64 b, .int .i64 h], .int .i64 o, .int .i64 t]) (by simp [results, Try.results11, go_sem, s0, s1, u0, u1]) rfl ?_
  refine ⟨ev, la, b, h, o, t, rfl, e0, e1, l0, l1, b0, b1, h0, h1, o_b.1, by omega, t_b.1, by omega, ?_⟩
  · go_grown

end Go.Proofs.Ythhcjpbgmloacaa
