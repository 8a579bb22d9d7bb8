import Derived.Test.YtpfcmejcgkfjmabOne
namespace Go.Proofs.Ytpfcmejcgkfjmab
open Go.RowKit
def TrPost (w : World) (R p d : Nat) (e : Ending) (w' : World) : Prop :=
  ∃ (b h : Int) (p' : Nat), e = .returned (.agg #[.int .i64 b, .int .i64 h]) ∧ -1 ≤ b ∧ b ≤ 1000 ∧ -1 ≤ h ∧ h ≤ 1000 ∧ p' ≤ p + d ∧ Rd w' R p' ∧ Gr w w' R
def WnPost (w : World) (R p d : Nat) (e : Ending) (w' : World) : Prop :=
  ∃ (b h : Int) (p' : Nat), e = .returned (.agg #[.int .i64 b, .int .i64 h]) ∧ -1000 ≤ b ∧ b ≤ 1000 ∧ -1000 ≤ h ∧ h ≤ 1999 ∧ p' ≤ p + d ∧ Rd w' R p' ∧ Gr w w' R

set_option maxHeartbeats 1000000 in
theorem anyTrigger_any (w : World) (R p : Nat) (h : Rd w R p) (hp : p + 2 ≤ 1000000000) :
    Calls Try.prog 38 #[.pointer (some ⟨R, 0, none⟩)] w (TrPost w R p 2) := by
  have hR := rd_lt h
  have g1 := gr_refl w R
  have hr2 := h
  have b3 := heap_alloc_new w (.cells #[.int .i64 0, .int .i64 0] 30)
  have hr4 := rd_alloc hr2 (.cells #[.int .i64 0, .int .i64 0] 30)
  have g5 := gr_alloc g1 (.cells #[.int .i64 0, .int .i64 0] 30)
  clear hr2 g1
  go_enter Try.func38, Try.ntmps38
  have b6 := alloc_blk (.cells #[.int .i64 0, .int .i64 2, .int .i64 3, .int .i64 1, .int .i64 0, .int .i64 40, .int .i64 41, .int .i64 (-1)] 3) b3
  have b7 := heap_alloc_new (w.alloc (.cells #[.int .i64 0, .int .i64 0] 30)) (.cells #[.int .i64 0, .int .i64 2, .int .i64 3, .int .i64 1, .int .i64 0, .int .i64 40, .int .i64 41, .int .i64 (-1)] 3)
  have z8 : (w.alloc (.cells #[.int .i64 0, .int .i64 0] 30)).heap.size = w.heap.size + 1 := by simp
  rw [z8] at b7
  have hr9 := rd_alloc hr4 (.cells #[.int .i64 0, .int .i64 2, .int .i64 3, .int .i64 1, .int .i64 0, .int .i64 40, .int .i64 41, .int .i64 (-1)] 3)
  have g10 := gr_alloc g5 (.cells #[.int .i64 0, .int .i64 2, .int .i64 3, .int .i64 1, .int .i64 0, .int .i64 40, .int .i64 41, .int .i64 (-1)] 3)
  clear b3 z8 hr4 g5
  go_wp2_with fail
  refine (oneL_any [0, 2, 3, 1, 0, 40, 41, -1] _ R (p) 8 hr9 (by omega) (w.heap.size + 1) _ b7 rfl rfl (by omega) (by omega) (by omega)).mono ?_
  rintro e w1 ⟨b, b_m, rfl, hr11, hg12⟩
  have b13 := gr_blk hg12 b6 (by omega)
  have g14 := gr_trans g10 hg12
  have lt15 := rd_lt hr11
  have lt16 := blk_lt b13
  clear hg12 hr9 g10 b6
  have b_b : -1 ≤ b ∧ b ≤ 41 := by simp at b_m; omega
  clear b_m
  clear b7
  have b17 := alloc_blk (.cells #[.int .i64 0, .int .i64 0, .int .i64 5, .int .i64 2, .int .i64 10, .int .i64 999, .int .i64 1000, .int .i64 (-1)] 3) b13
  have b18 := heap_alloc_new w1 (.cells #[.int .i64 0, .int .i64 0, .int .i64 5, .int .i64 2, .int .i64 10, .int .i64 999, .int .i64 1000, .int .i64 (-1)] 3)
  have hr19 := rd_alloc hr11 (.cells #[.int .i64 0, .int .i64 0, .int .i64 5, .int .i64 2, .int .i64 10, .int .i64 999, .int .i64 1000, .int .i64 (-1)] 3)
  have g20 := gr_alloc g14 (.cells #[.int .i64 0, .int .i64 0, .int .i64 5, .int .i64 2, .int .i64 10, .int .i64 999, .int .i64 1000, .int .i64 (-1)] 3)
  clear b13 hr11 g14
  go_wp2_with fail
  refine (oneL_any [0, 0, 5, 2, 10, 999, 1000, -1] _ R (p + 1) 8 hr19 (by omega) (w1.heap.size) _ b18 rfl rfl (by omega) (by omega) (by omega)).mono ?_
  rintro e w2 ⟨h1, h1_m, rfl, hr21, hg22⟩
  have b23 := gr_blk hg22 b17 (by omega)
  have g24 := gr_trans g20 hg22
  have lt25 := rd_lt hr21
  have lt26 := blk_lt b23
  clear hg22 hr19 g20 b17
  have h1_b : -1 ≤ h1 ∧ h1 ≤ 1000 := by simp at h1_m; omega
  clear h1_m
  clear b18
  obtain ⟨s0, s1, sf, sl⟩ := blk2 b23
  clear b23
  go_wp2
  refine bodyPost_ret (v := .agg #[.int .i64 b, .int .i64 h1]) (by simp [results, Try.results38, go_sem, s0, s1]) rfl ?_
  refine ⟨b, h1, p + 1 + 1, rfl, by omega, by omega, by omega, by omega, by omega, ?_, ?_⟩
  · repeat (first | exact hr21 | refine rd_setCell ?_ (by first | omega | (simp; omega)) _ | refine rd_drew ?_ | refine rd_alloc ?_ _)
  · repeat (first | exact g24 | refine gr_setCell ?_ (by first | exact Nat.le_refl _ | omega | (simp; omega)) _ | refine gr_drew ?_ | refine gr_alloc ?_ _)

set_option maxHeartbeats 2000000 in
theorem anyWindow_any (w : World) (R p : Nat) (h : Rd w R p) (hp : p + 5 ≤ 1000000000) :
    Calls Try.prog 34 #[.pointer (some ⟨R, 0, none⟩)] w (WnPost w R p 5) := by
  have hR := rd_lt h
  have g1 := gr_refl w R
  have hr2 := h
  have b3 := heap_alloc_new w (.cells #[.int .i64 0, .int .i64 0] 24)
  have hr4 := rd_alloc hr2 (.cells #[.int .i64 0, .int .i64 0] 24)
  have g5 := gr_alloc g1 (.cells #[.int .i64 0, .int .i64 0] 24)
  clear hr2 g1
  go_enter Try.func34, Try.ntmps34
  go_wp2_with fail
  refine (pick_any 40 _ R (p) hr4 (by omega) (by omega)).mono ?_
  rintro e w1 ⟨x, rfl, x_0, x_1, -, hr6, hg7, -⟩
  have b8 := gr_blk hg7 b3 (by omega)
  have g9 := gr_trans g5 hg7
  have lt10 := rd_lt hr6
  have lt11 := blk_lt b8
  clear hg7 hr4 g5 b3
  have x_b : 0 ≤ x ∧ x ≤ 39 := ⟨x_0, by omega⟩
  have q0 : IntKind.i64.wrap (x - 8) = x - 8 := IntWalk.i64_in _ (by omega)
  have q1 : IntKind.i64.wrap (x - 8 + 1) = x - 8 + 1 := IntWalk.i64_in _ (by omega)
  have b12 := alloc_blk (.cells #[.int .i64 (x - 8), .int .i64 0] 24) b8
  have b13 := heap_alloc_new w1 (.cells #[.int .i64 (x - 8), .int .i64 0] 24)
  have hr14 := rd_alloc hr6 (.cells #[.int .i64 (x - 8), .int .i64 0] 24)
  have g15 := gr_alloc g9 (.cells #[.int .i64 (x - 8), .int .i64 0] 24)
  clear b8 hr6 g9
  have n1 : w.heap.size ≠ w1.heap.size := by omega
  have n2 : w1.heap.size ≠ w.heap.size := by omega
  go_wp2_with fail
  go_region_held3 (fun w' => w'.cell? ⟨w1.heap.size, 0, none⟩ = some (.int .i64 (x - 8))) (first | go_keep | (rw [World.cell?_setCell_other _ _ _ _ (by simp)]; assumption) | (go_split_ands; (repeat' constructor) <;> (refine (gr_cell hg17 (by first | omega | (simp; omega)) (by omega)).trans ?_; first | assumption | (simp [go_sem, *]; done)))) ((go_at_call 58; refine (pick_any 9 _ R (p + 1) (rd_drew hr14) (by omega) (by omega)).mono ?_; rintro e w2 ⟨y, rfl, y_0, y_1, -, hr16, hg17, -⟩; have b18 := gr_blk hg17 b12 (by omega); have b19 := gr_blk hg17 b13 (by omega); have g20 := gr_trans (gr_drew g15) hg17; have lt21 := blk_lt b18; have lt22 := blk_lt b19; obtain ⟨e0, e1, ef, el⟩ := blk2 b19; have y_b : 0 ≤ y ∧ y ≤ 8 := ⟨y_0, by omega⟩; have q2 : IntKind.i64.wrap (x - 8 + 1 + y) = x - 8 + 1 + y := IntWalk.i64_in _ (by omega)))
  rename_i hHeld
  clear hr14 g15 hg17 hHeld b12 b13
  clear q0 q1 q2 e0 e1 ef el
  have b23 := blk_far (p := ⟨w1.heap.size, 1, none⟩) b18 (by omega) (.int .i64 (x - 8 + 1 + y))
  have b24 := blk_set b19 1 (.int .i64 (x - 8 + 1 + y))
  rw [show (#[.int .i64 (x - 8), .int .i64 0] : Array Value).setIfInBounds 1 (.int .i64 (x - 8 + 1 + y)) = #[.int .i64 (x - 8), .int .i64 (x - 8 + 1 + y)] from rfl] at b24
  have hr25 := rd_setCell (a := ⟨w1.heap.size, 1, none⟩) hr16 (by first | omega | (simp; omega)) (.int .i64 (x - 8 + 1 + y))
  have g26 := gr_setCell (p := ⟨w1.heap.size, 1, none⟩) g20 (by first | exact Nat.le_refl _ | omega | (simp; omega)) (.int .i64 (x - 8 + 1 + y))
  clear b18 b19 hr16 g20
  go_wp2_with fail
  refine (pick_any 24 _ R (p + 1 + 1) hr25 (by omega) (by omega)).mono ?_
  rintro e w3 ⟨z, rfl, z_0, z_1, -, hr27, hg28, -⟩
  have b29 := gr_blk hg28 b23 (by omega)
  have b30 := gr_blk hg28 b24 (by omega)
  have g31 := gr_trans g26 hg28
  have lt32 := rd_lt hr27
  have lt33 := blk_lt b29
  have lt34 := blk_lt b30
  clear hg28 hr25 g26 b23 b24
  rcases (show z = 0 ∨ z = 1 ∨ z = 2 ∨ 2 < z by omega) with hz | hz | hz | hz
  · subst hz
    obtain ⟨e0, e1, ef, el⟩ := blk2 b30
    obtain ⟨s0, s1, sf, sl⟩ := blk2 b29
    clear b30 b29
    go_wp2
    refine bodyPost_ret (v := .agg #[.int .i64 (x - 8), .int .i64 (x - 8)]) (by simp [results, Try.results34, go_sem, s0, s1, e0, e1]) rfl ?_
    refine ⟨x - 8, x - 8, p + 1 + 1 + 1, rfl, by omega, by omega, by omega, by omega, by omega, ?_, ?_⟩
    · repeat (first | exact hr27 | refine rd_setCell ?_ (by first | omega | (simp; omega)) _ | refine rd_drew ?_ | refine rd_alloc ?_ _)
    · repeat (first | exact g31 | refine gr_setCell ?_ (by first | exact Nat.le_refl _ | omega | (simp; omega)) _ | refine gr_drew ?_ | refine gr_alloc ?_ _)
  · subst hz
    have b35 := alloc_blk (.cells #[.int .i64 (-999), .int .i64 (-1000), .int .i64 999, .int .i64 1000] 3) b29
    have b36 := alloc_blk (.cells #[.int .i64 (-999), .int .i64 (-1000), .int .i64 999, .int .i64 1000] 3) b30
    have b37 := heap_alloc_new w3 (.cells #[.int .i64 (-999), .int .i64 (-1000), .int .i64 999, .int .i64 1000] 3)
    have hr38 := rd_alloc hr27 (.cells #[.int .i64 (-999), .int .i64 (-1000), .int .i64 999, .int .i64 1000] 3)
    have g39 := gr_alloc g31 (.cells #[.int .i64 (-999), .int .i64 (-1000), .int .i64 999, .int .i64 1000] 3)
    clear b29 b30 hr27 g31
    go_wp2_with fail
    refine (oneL_any [-999, -1000, 999, 1000] _ R (p + 1 + 1 + 1) 4 hr38 (by omega) (w3.heap.size) _ b37 rfl rfl (by omega) (by omega) (by omega)).mono ?_
    rintro e w4 ⟨v, v_m, rfl, hr40, hg41⟩
    have b42 := gr_blk hg41 b35 (by omega)
    have b43 := gr_blk hg41 b36 (by omega)
    have g44 := gr_trans g39 hg41
    have lt45 := rd_lt hr40
    have lt46 := blk_lt b42
    have lt47 := blk_lt b43
    clear hg41 hr38 g39 b35 b36
    have v_b : -1000 ≤ v ∧ v ≤ 1000 := by simp at v_m; omega
    clear v_m
    clear b37
    obtain ⟨e0, e1, ef, el⟩ := blk2 b43
    obtain ⟨s0, s1, sf, sl⟩ := blk2 b42
    clear b43 b42
    go_wp2
    refine bodyPost_ret (v := .agg #[.int .i64 (v), .int .i64 (x - 8 + 1 + y)]) (by simp [results, Try.results34, go_sem, s0, s1, e0, e1]) rfl ?_
    refine ⟨v, x - 8 + 1 + y, p + 1 + 1 + 1 + 1, rfl, by omega, by omega, by omega, by omega, by omega, ?_, ?_⟩
    · repeat (first | exact hr40 | refine rd_setCell ?_ (by first | omega | (simp; omega)) _ | refine rd_drew ?_ | refine rd_alloc ?_ _)
    · repeat (first | exact g44 | refine gr_setCell ?_ (by first | exact Nat.le_refl _ | omega | (simp; omega)) _ | refine gr_drew ?_ | refine gr_alloc ?_ _)
  · subst hz
    have b35 := alloc_blk (.cells #[.int .i64 1998, .int .i64 1999] 3) b29
    have b36 := alloc_blk (.cells #[.int .i64 1998, .int .i64 1999] 3) b30
    have b37 := heap_alloc_new w3 (.cells #[.int .i64 1998, .int .i64 1999] 3)
    have hr38 := rd_alloc hr27 (.cells #[.int .i64 1998, .int .i64 1999] 3)
    have g39 := gr_alloc g31 (.cells #[.int .i64 1998, .int .i64 1999] 3)
    clear b29 b30 hr27 g31
    go_wp2_with fail
    refine (oneL_any [1998, 1999] _ R (p + 1 + 1 + 1) 2 hr38 (by omega) (w3.heap.size) _ b37 rfl rfl (by omega) (by omega) (by omega)).mono ?_
    rintro e w4 ⟨v, v_m, rfl, hr40, hg41⟩
    have b42 := gr_blk hg41 b35 (by omega)
    have b43 := gr_blk hg41 b36 (by omega)
    have g44 := gr_trans g39 hg41
    have lt45 := rd_lt hr40
    have lt46 := blk_lt b42
    have lt47 := blk_lt b43
    clear hg41 hr38 g39 b35 b36
    have v_b : 1998 ≤ v ∧ v ≤ 1999 := by simp at v_m; omega
    clear v_m
    clear b37
    obtain ⟨e0, e1, ef, el⟩ := blk2 b43
    obtain ⟨s0, s1, sf, sl⟩ := blk2 b42
    clear b43 b42
    go_wp2
    refine bodyPost_ret (v := .agg #[.int .i64 (x - 8), .int .i64 (v)]) (by simp [results, Try.results34, go_sem, s0, s1, e0, e1]) rfl ?_
    refine ⟨x - 8, v, p + 1 + 1 + 1 + 1, rfl, by omega, by omega, by omega, by omega, by omega, ?_, ?_⟩
    · repeat (first | exact hr40 | refine rd_setCell ?_ (by first | omega | (simp; omega)) _ | refine rd_drew ?_ | refine rd_alloc ?_ _)
    · repeat (first | exact g44 | refine gr_setCell ?_ (by first | exact Nat.le_refl _ | omega | (simp; omega)) _ | refine gr_drew ?_ | refine gr_alloc ?_ _)
  · have z0 : (z == 0) = false := by simp; omega
    have z1 : (z == 1) = false := by simp; omega
    have z2 : (z == 2) = false := by simp; omega
    obtain ⟨e0, e1, ef, el⟩ := blk2 b30
    obtain ⟨s0, s1, sf, sl⟩ := blk2 b29
    clear b30 b29
    go_wp2
    refine bodyPost_ret (v := .agg #[.int .i64 (x - 8), .int .i64 (x - 8 + 1 + y)]) (by simp [results, Try.results34, go_sem, s0, s1, e0, e1]) rfl ?_
    refine ⟨x - 8, x - 8 + 1 + y, p + 1 + 1 + 1, rfl, by omega, by omega, by omega, by omega, by omega, ?_, ?_⟩
    · repeat (first | exact hr27 | refine rd_setCell ?_ (by first | omega | (simp; omega)) _ | refine rd_drew ?_ | refine rd_alloc ?_ _)
    · repeat (first | exact g31 | refine gr_setCell ?_ (by first | exact Nat.le_refl _ | omega | (simp; omega)) _ | refine gr_drew ?_ | refine gr_alloc ?_ _)

def WnIPost (w : World) (e : Ending) (w' : World) : Prop :=
  ∃ b h t : Int, e = .returned (.tuple #[.agg #[.int .i64 b, .int .i64 h], .int .i64 t]) ∧ -1000 ≤ b ∧ b ≤ 1000 ∧ -1000 ≤ h ∧ h ≤ 1999 ∧ -1001 ≤ t ∧ t ≤ 1999 ∧ Below w.heap.size w w'
def TWPost (w : World) (e : Ending) (w' : World) : Prop :=
  ∃ ev la b h : Int, e = .returned (.tuple #[.agg #[.int .i64 ev, .int .i64 la], .agg #[.int .i64 b, .int .i64 h]]) ∧ -1 ≤ ev ∧ ev ≤ 1000 ∧ -1 ≤ la ∧ la ≤ 1000 ∧ -1000 ≤ b ∧ b ≤ 1000 ∧ -1000 ≤ h ∧ h ≤ 1999 ∧ Below w.heap.size w w'
def TWIIPost (w : World) (e : Ending) (w' : World) : Prop :=
  ∃ ev la b h m t : Int, e = .returned (.tuple #[.agg #[.int .i64 ev, .int .i64 la], .agg #[.int .i64 b, .int .i64 h], .int .i64 m, .int .i64 t]) ∧ -1 ≤ ev ∧ ev ≤ 1000 ∧ -1 ≤ la ∧ la ≤ 1000 ∧ -1000 ≤ b ∧ b ≤ 1000 ∧ -1000 ≤ h ∧ h ≤ 1999 ∧ 0 ≤ m ∧ m ≤ 41 ∧ -1003 ≤ t ∧ t ≤ 3001 ∧ Below w.heap.size w w'

set_option maxHeartbeats 2000000 in
theorem drawWindowHas_any (w : World) (a : Option Addr) (len cap : Nat) (z : List Int) (h : IsRow .u8 w a len cap z) (hl : len ≤ 1048576) :
    Calls Try.prog 12 #[.slice a len cap] w (WnIPost w) := by
  go_enter Try.func12, Try.ntmps12
  have g1 := Below.refl w.heap.size w
  have b2 := heap_alloc_new w (.cells #[.int .i64 0, .int .i64 0] 24)
  have g3 := g1.alloc (by have := g1.size; first | exact this | (simp; omega) | omega) (.cells #[.int .i64 0, .int .i64 0] 24)
  clear g1
  have ir4 := isRow_keep h g3
  have z5 : (w.alloc (.cells #[.int .i64 0, .int .i64 0] 24)).heap.size = w.heap.size + 1 := by simp
  have zz6 := Lib.hid z5
  clear z5
  clear h
  go_wp2_with fail
  refine (newReader_any _ a len cap z ir4 hl).mono ?_
  rintro e w1 ⟨R, rfl, hR, hrN, hbN⟩
  rw [zz6.out] at hR hbN
  have b7 := below_blk hbN b2 (by omega)
  have g8 := g3.trans (hbN.mono (by omega))
  have lt9 := rd_lt hrN
  have lt10 := blk_lt b7
  have sz11 := g8.size
  clear ir4 g3 zz6 b2 hbN
  go_wp2_with fail
  refine (anyWindow_any _ R 0 hrN (by omega)).mono ?_
  rintro e w2 ⟨b, h, p2, rfl, b0, b1, h0, h1, hp2, hr12, hg13⟩
  have b14 := gr_blk hg13 b7 (by omega)
  have g15 := g8.trans (gr_of_below (B := w.heap.size) hg13 (by have := g8.size; first | exact this | (simp; omega) | omega) (by omega))
  have lt16 := rd_lt hr12
  have lt17 := blk_lt b14
  clear hg13 hrN g8 b7
  have b18 := alloc_blk (.cells #[.int .i64 b, .int .i64 h] 24) b14
  have b19 := heap_alloc_new w2 (.cells #[.int .i64 b, .int .i64 h] 24)
  have hr20 := rd_alloc hr12 (.cells #[.int .i64 b, .int .i64 h] 24)
  have g21 := g15.alloc (by have := g15.size; first | exact this | (simp; omega) | omega) (.cells #[.int .i64 b, .int .i64 h] 24)
  clear b14 hr12 g15
  have n1 : w.heap.size ≠ w2.heap.size := by omega
  have n2 : w2.heap.size ≠ w.heap.size := by omega
  have q1 : IntKind.i64.wrap (h - 1) = h - 1 := IntWalk.i64_in _ (by omega)
  have q2 : IntKind.i64.wrap (b - 1) = b - 1 := IntWalk.i64_in _ (by omega)
  have q3 : IntKind.i64.wrap (b + 1) = b + 1 := IntWalk.i64_in _ (by omega)
  go_wp2_with fail
  have b22 := alloc_blk (.cells #[.int .i64 b, .int .i64 h, .int .i64 (h - 1), .int .i64 (b - 1), .int .i64 (b + 1), .int .i64 5] 3) b18
  have b23 := alloc_blk (.cells #[.int .i64 b, .int .i64 h, .int .i64 (h - 1), .int .i64 (b - 1), .int .i64 (b + 1), .int .i64 5] 3) b19
  have b24 := heap_alloc_new (w2.alloc (.cells #[.int .i64 b, .int .i64 h] 24)) (.cells #[.int .i64 b, .int .i64 h, .int .i64 (h - 1), .int .i64 (b - 1), .int .i64 (b + 1), .int .i64 5] 3)
  have z25 : (w2.alloc (.cells #[.int .i64 b, .int .i64 h] 24)).heap.size = w2.heap.size + 1 := by simp
  rw [z25] at b24
  have hr26 := rd_alloc hr20 (.cells #[.int .i64 b, .int .i64 h, .int .i64 (h - 1), .int .i64 (b - 1), .int .i64 (b + 1), .int .i64 5] 3)
  have g27 := g21.alloc (by have := g21.size; first | exact this | (simp; omega) | omega) (.cells #[.int .i64 b, .int .i64 h, .int .i64 (h - 1), .int .i64 (b - 1), .int .i64 (b + 1), .int .i64 5] 3)
  clear b18 b19 z25 hr20 g21
  go_region_held3 (fun w' => w'.cell? ⟨w2.heap.size, 0, none⟩ = some (.int .i64 b) ∧ w'.cell? ⟨w2.heap.size, 1, none⟩ = some (.int .i64 h)) (first | go_keep | (go_split_ands; (repeat' constructor) <;> (refine (gr_cell hg29 (by first | omega | (simp; omega)) (by omega)).trans ?_; first | assumption | (simp [go_sem, *]; done)))) ((go_at_call 35; refine (oneL_any [b, h, (h - 1), (b - 1), (b + 1), 5] _ R (p2) 6 (rd_drew hr26) (by omega) (w2.heap.size + 1) _ b24 rfl rfl (by omega) (by omega) (by omega)).mono ?_; rintro e w3 ⟨t, t_m, rfl, hr28, hg29⟩; have b30 := gr_blk hg29 b22 (by omega); have b31 := gr_blk hg29 b23 (by omega); have g32 := (g27.drew).trans (gr_of_below (B := w.heap.size) hg29 (by have := (g27.drew).size; first | exact this | (simp; omega) | omega) (by omega)); have lt33 := blk_lt b30; have lt34 := blk_lt b31; obtain ⟨s0, s1, sf, sl⟩ := blk2 b30; obtain ⟨m0, m1, mf, ml⟩ := blk2 b31))
  rename_i hHeld
  clear b24 hr26 g27 hg29 hHeld b22 b23
  have t_b : -1001 ≤ t ∧ t ≤ 1999 := by simp at t_m; omega
  clear t_m
  go_wp2
  refine bodyPost_ret (v := .tuple #[.agg #[.int .i64 b, .int .i64 h], .int .i64 t]) (by simp [results, Try.results12, go_sem, s0, s1]) rfl ?_
  refine ⟨b, h, t, rfl, b0, b1, h0, h1, t_b.1, t_b.2, ?_⟩
  · go_grown

set_option maxHeartbeats 4000000 in
theorem drawTriggerEvent_any (w : World) (a : Option Addr) (len cap : Nat) (z : List Int) (h : IsRow .u8 w a len cap z) (hl : len ≤ 1048576) :
    Calls Try.prog 18 #[.slice a len cap] w (TWIIPost w) := by
  go_enter Try.func18, Try.ntmps18
  have g1 := Below.refl w.heap.size w
  have b2 := heap_alloc_new w (.cells #[.int .i64 0, .int .i64 0] 30)
  have g3 := g1.alloc (by have := g1.size; first | exact this | (simp; omega) | omega) (.cells #[.int .i64 0, .int .i64 0] 30)
  clear g1
  have b4 := alloc_blk (.cells #[.int .i64 0, .int .i64 0] 24) b2
  have b5 := heap_alloc_new (w.alloc (.cells #[.int .i64 0, .int .i64 0] 30)) (.cells #[.int .i64 0, .int .i64 0] 24)
  have z6 : (w.alloc (.cells #[.int .i64 0, .int .i64 0] 30)).heap.size = w.heap.size + 1 := by simp
  rw [z6] at b5
  have g7 := g3.alloc (by have := g3.size; first | exact this | (simp; omega) | omega) (.cells #[.int .i64 0, .int .i64 0] 24)
  clear b2 z6 g3
  have ir8 := isRow_keep h g7
  have z9 : ((w.alloc (.cells #[.int .i64 0, .int .i64 0] 30)).alloc (.cells #[.int .i64 0, .int .i64 0] 24)).heap.size = w.heap.size + 2 := by simp
  have zz10 := Lib.hid z9
  clear z9
  clear h
  go_wp2_with fail
  refine (newReader_any _ a len cap z ir8 hl).mono ?_
  rintro e w1 ⟨R, rfl, hR, hrN, hbN⟩
  rw [zz10.out] at hR hbN
  have b11 := below_blk hbN b4 (by omega)
  have b12 := below_blk hbN b5 (by omega)
  have g13 := g7.trans (hbN.mono (by omega))
  have lt14 := rd_lt hrN
  have lt15 := blk_lt b11
  have lt16 := blk_lt b12
  have sz17 := g13.size
  clear ir8 g7 zz10 b4 b5 hbN
  go_wp2_with fail
  refine (anyTrigger_any _ R 0 hrN (by omega)).mono ?_
  rintro e w2 ⟨ev, la, p2, rfl, e0, e1, l0, l1, hp2, hr18, hg19⟩
  have b20 := gr_blk hg19 b11 (by omega)
  have b21 := gr_blk hg19 b12 (by omega)
  have g22 := g13.trans (gr_of_below (B := w.heap.size) hg19 (by have := g13.size; first | exact this | (simp; omega) | omega) (by omega))
  have lt23 := rd_lt hr18
  have lt24 := blk_lt b20
  have lt25 := blk_lt b21
  clear hg19 hrN g13 b11 b12
  have b26 := alloc_blk (.cells #[.int .i64 ev, .int .i64 la] 30) b20
  have b27 := alloc_blk (.cells #[.int .i64 ev, .int .i64 la] 30) b21
  have b28 := heap_alloc_new w2 (.cells #[.int .i64 ev, .int .i64 la] 30)
  have hr29 := rd_alloc hr18 (.cells #[.int .i64 ev, .int .i64 la] 30)
  have g30 := g22.alloc (by have := g22.size; first | exact this | (simp; omega) | omega) (.cells #[.int .i64 ev, .int .i64 la] 30)
  clear b20 b21 hr18 g22
  go_wp2_with fail
  refine (anyWindow_any _ R p2 hr29 (by omega)).mono ?_
  rintro e w3 ⟨b, h, p3, rfl, b0, b1, h0, h1, hp3, hr31, hg32⟩
  have b33 := gr_blk hg32 b26 (by omega)
  have b34 := gr_blk hg32 b27 (by omega)
  have b35 := gr_blk hg32 b28 (by omega)
  have g36 := g30.trans (gr_of_below (B := w.heap.size) hg32 (by have := g30.size; first | exact this | (simp; omega) | omega) (by omega))
  have lt37 := rd_lt hr31
  have lt38 := blk_lt b33
  have lt39 := blk_lt b34
  have lt40 := blk_lt b35
  clear hg32 hr29 g30 b26 b27 b28
  have b41 := alloc_blk (.cells #[.int .i64 b, .int .i64 h] 24) b33
  have b42 := alloc_blk (.cells #[.int .i64 b, .int .i64 h] 24) b34
  have b43 := alloc_blk (.cells #[.int .i64 b, .int .i64 h] 24) b35
  have b44 := heap_alloc_new w3 (.cells #[.int .i64 b, .int .i64 h] 24)
  have hr45 := rd_alloc hr31 (.cells #[.int .i64 b, .int .i64 h] 24)
  have g46 := g36.alloc (by have := g36.size; first | exact this | (simp; omega) | omega) (.cells #[.int .i64 b, .int .i64 h] 24)
  clear b33 b34 b35 hr31 g36
  have b47 := alloc_blk (.cells #[.int .i64 1, .int .i64 2, .int .i64 3, .int .i64 4, .int .i64 6, .int .i64 40, .int .i64 41, .int .i64 0] 3) b41
  have b48 := alloc_blk (.cells #[.int .i64 1, .int .i64 2, .int .i64 3, .int .i64 4, .int .i64 6, .int .i64 40, .int .i64 41, .int .i64 0] 3) b42
  have b49 := alloc_blk (.cells #[.int .i64 1, .int .i64 2, .int .i64 3, .int .i64 4, .int .i64 6, .int .i64 40, .int .i64 41, .int .i64 0] 3) b43
  have b50 := alloc_blk (.cells #[.int .i64 1, .int .i64 2, .int .i64 3, .int .i64 4, .int .i64 6, .int .i64 40, .int .i64 41, .int .i64 0] 3) b44
  have b51 := heap_alloc_new (w3.alloc (.cells #[.int .i64 b, .int .i64 h] 24)) (.cells #[.int .i64 1, .int .i64 2, .int .i64 3, .int .i64 4, .int .i64 6, .int .i64 40, .int .i64 41, .int .i64 0] 3)
  have z52 : (w3.alloc (.cells #[.int .i64 b, .int .i64 h] 24)).heap.size = w3.heap.size + 1 := by simp
  rw [z52] at b51
  have hr53 := rd_alloc hr45 (.cells #[.int .i64 1, .int .i64 2, .int .i64 3, .int .i64 4, .int .i64 6, .int .i64 40, .int .i64 41, .int .i64 0] 3)
  have g54 := g46.alloc (by have := g46.size; first | exact this | (simp; omega) | omega) (.cells #[.int .i64 1, .int .i64 2, .int .i64 3, .int .i64 4, .int .i64 6, .int .i64 40, .int .i64 41, .int .i64 0] 3)
  clear b41 b42 b43 b44 z52 hr45 g46
  go_wp2_with fail
  refine (oneL_any [1, 2, 3, 4, 6, 40, 41, 0] _ R (p3) 8 hr53 (by omega) (w3.heap.size + 1) _ b51 rfl rfl (by omega) (by omega) (by omega)).mono ?_
  rintro e w4 ⟨m, m_m, rfl, hr55, hg56⟩
  have b57 := gr_blk hg56 b47 (by omega)
  have b58 := gr_blk hg56 b48 (by omega)
  have b59 := gr_blk hg56 b49 (by omega)
  have b60 := gr_blk hg56 b50 (by omega)
  have g61 := g54.trans (gr_of_below (B := w.heap.size) hg56 (by have := g54.size; first | exact this | (simp; omega) | omega) (by omega))
  have lt62 := rd_lt hr55
  have lt63 := blk_lt b57
  have lt64 := blk_lt b58
  have lt65 := blk_lt b59
  have lt66 := blk_lt b60
  clear hg56 hr53 g54 b47 b48 b49 b50
  have m_b : 0 ≤ m ∧ m ≤ 41 := by simp at m_m; omega
  clear m_m
  clear b51
  have n1 : w.heap.size ≠ w2.heap.size := by omega
  have n2 : w2.heap.size ≠ w.heap.size := by omega
  have n3 : w.heap.size ≠ w3.heap.size := by omega
  have n4 : w3.heap.size ≠ w.heap.size := by omega
  have n5 : w2.heap.size ≠ w3.heap.size := by omega
  have n6 : w3.heap.size ≠ w2.heap.size := by omega
  have n7 : w.heap.size + 1 ≠ w2.heap.size := by omega
  have n8 : w2.heap.size ≠ w.heap.size + 1 := by omega
  have n9 : w.heap.size + 1 ≠ w3.heap.size := by omega
  have n10 : w3.heap.size ≠ w.heap.size + 1 := by omega
  have q1 : IntKind.i64.wrap (h - 2) = h - 2 := IntWalk.i64_in _ (by omega)
  have q2 : IntKind.i64.wrap (h - 1) = h - 1 := IntWalk.i64_in _ (by omega)
  have q3 : IntKind.i64.wrap (h + 3) = h + 3 := IntWalk.i64_in _ (by omega)
  have q4 : IntKind.i64.wrap (h - 1 + la) = h - 1 + la := IntWalk.i64_in _ (by omega)
  obtain ⟨ia0, ia1, iaf, ial⟩ := blk2 b59
  obtain ⟨ja0, ja1, jaf, jal⟩ := blk2 b60
  go_wp2_with fail
  have b67 := alloc_blk (.cells #[.int .i64 (-1), .int .i64 (h - 2), .int .i64 (h - 1), .int .i64 (h + 3), .int .i64 (h - 1 + la), .int .i64 3000, .int .i64 3001, .int .i64 (-2)] 3) b57
  have b68 := alloc_blk (.cells #[.int .i64 (-1), .int .i64 (h - 2), .int .i64 (h - 1), .int .i64 (h + 3), .int .i64 (h - 1 + la), .int .i64 3000, .int .i64 3001, .int .i64 (-2)] 3) b58
  have b69 := alloc_blk (.cells #[.int .i64 (-1), .int .i64 (h - 2), .int .i64 (h - 1), .int .i64 (h + 3), .int .i64 (h - 1 + la), .int .i64 3000, .int .i64 3001, .int .i64 (-2)] 3) b59
  have b70 := alloc_blk (.cells #[.int .i64 (-1), .int .i64 (h - 2), .int .i64 (h - 1), .int .i64 (h + 3), .int .i64 (h - 1 + la), .int .i64 3000, .int .i64 3001, .int .i64 (-2)] 3) b60
  have b71 := heap_alloc_new w4 (.cells #[.int .i64 (-1), .int .i64 (h - 2), .int .i64 (h - 1), .int .i64 (h + 3), .int .i64 (h - 1 + la), .int .i64 3000, .int .i64 3001, .int .i64 (-2)] 3)
  have hr72 := rd_alloc hr55 (.cells #[.int .i64 (-1), .int .i64 (h - 2), .int .i64 (h - 1), .int .i64 (h + 3), .int .i64 (h - 1 + la), .int .i64 3000, .int .i64 3001, .int .i64 (-2)] 3)
  have g73 := g61.alloc (by have := g61.size; first | exact this | (simp; omega) | omega) (.cells #[.int .i64 (-1), .int .i64 (h - 2), .int .i64 (h - 1), .int .i64 (h + 3), .int .i64 (h - 1 + la), .int .i64 3000, .int .i64 3001, .int .i64 (-2)] 3)
  clear b57 b58 b59 b60 hr55 g61
  go_region_held3 (fun w' => w'.cell? ⟨w2.heap.size, 0, none⟩ = some (.int .i64 ev) ∧ w'.cell? ⟨w2.heap.size, 1, none⟩ = some (.int .i64 la) ∧ w'.cell? ⟨w3.heap.size, 0, none⟩ = some (.int .i64 b) ∧ w'.cell? ⟨w3.heap.size, 1, none⟩ = some (.int .i64 h)) (first | go_keep | (go_split_ands; (repeat' constructor) <;> (refine (gr_cell hg75 (by first | omega | (simp; omega)) (by omega)).trans ?_; first | assumption | (simp [go_sem, *]; done)))) ((go_at_call 35; refine (oneL_any [-1, (h - 2), (h - 1), (h + 3), (h - 1 + la), 3000, 3001, -2] _ R (p3 + 1) 8 (rd_drew hr72) (by omega) (w4.heap.size) _ b71 rfl rfl (by omega) (by omega) (by omega)).mono ?_; rintro e w5 ⟨t, t_m, rfl, hr74, hg75⟩; have b76 := gr_blk hg75 b67 (by omega); have b77 := gr_blk hg75 b68 (by omega); have b78 := gr_blk hg75 b69 (by omega); have b79 := gr_blk hg75 b70 (by omega); have g80 := (g73.drew).trans (gr_of_below (B := w.heap.size) hg75 (by have := (g73.drew).size; first | exact this | (simp; omega) | omega) (by omega)); have lt81 := blk_lt b76; have lt82 := blk_lt b77; have lt83 := blk_lt b78; have lt84 := blk_lt b79; obtain ⟨s0, s1, sf, sl⟩ := blk2 b76; obtain ⟨u0, u1, uf, ul⟩ := blk2 b77; obtain ⟨m0, m1, mf, ml⟩ := blk2 b78; obtain ⟨k0, k1, kf, kl⟩ := blk2 b79))
  rename_i hHeld
  clear b71 hr72 g73 hg75 hHeld b67 b68 b69 b70
  have t_b : -1003 ≤ t ∧ t ≤ 3001 := by simp at t_m; omega
  clear t_m
  go_wp2
  refine bodyPost_ret (v := .tuple #[.agg #[.int .i64 ev, .int .i64 la], .agg #[.int .i64 b, .int .i64 h], .int .i64 m, .int .i64 t]) (by simp [results, Try.results18, go_sem, s0, s1, u0, u1]) rfl ?_
  refine ⟨ev, la, b, h, m, t, rfl, e0, e1, l0, l1, b0, b1, h0, h1, m_b.1, m_b.2, t_b.1, t_b.2, ?_⟩
  · go_grown

set_option maxHeartbeats 4000000 in
theorem drawCleanTime_any (w : World) (a : Option Addr) (len cap : Nat) (z : List Int) (h : IsRow .u8 w a len cap z) (hl : len ≤ 1048576) :
    Calls Try.prog 15 #[.slice a len cap] w (TWPost w) := by
  go_enter Try.func15, Try.ntmps15
  have g1 := Below.refl w.heap.size w
  have b2 := heap_alloc_new w (.cells #[.int .i64 0, .int .i64 0] 30)
  have g3 := g1.alloc (by have := g1.size; first | exact this | (simp; omega) | omega) (.cells #[.int .i64 0, .int .i64 0] 30)
  clear g1
  have b4 := alloc_blk (.cells #[.int .i64 0, .int .i64 0] 24) b2
  have b5 := heap_alloc_new (w.alloc (.cells #[.int .i64 0, .int .i64 0] 30)) (.cells #[.int .i64 0, .int .i64 0] 24)
  have z6 : (w.alloc (.cells #[.int .i64 0, .int .i64 0] 30)).heap.size = w.heap.size + 1 := by simp
  rw [z6] at b5
  have g7 := g3.alloc (by have := g3.size; first | exact this | (simp; omega) | omega) (.cells #[.int .i64 0, .int .i64 0] 24)
  clear b2 z6 g3
  have ir8 := isRow_keep h g7
  have z9 : ((w.alloc (.cells #[.int .i64 0, .int .i64 0] 30)).alloc (.cells #[.int .i64 0, .int .i64 0] 24)).heap.size = w.heap.size + 2 := by simp
  have zz10 := Lib.hid z9
  clear z9
  clear h
  go_wp2_with fail
  refine (newReader_any _ a len cap z ir8 hl).mono ?_
  rintro e w1 ⟨R, rfl, hR, hrN, hbN⟩
  rw [zz10.out] at hR hbN
  have b11 := below_blk hbN b4 (by omega)
  have b12 := below_blk hbN b5 (by omega)
  have g13 := g7.trans (hbN.mono (by omega))
  have lt14 := rd_lt hrN
  have lt15 := blk_lt b11
  have lt16 := blk_lt b12
  have sz17 := g13.size
  clear ir8 g7 zz10 b4 b5 hbN
  go_wp2_with fail
  refine (anyTrigger_any _ R 0 hrN (by omega)).mono ?_
  rintro e w2 ⟨ev, la, p2, rfl, e0, e1, l0, l1, hp2, hr18, hg19⟩
  have b20 := gr_blk hg19 b11 (by omega)
  have b21 := gr_blk hg19 b12 (by omega)
  have g22 := g13.trans (gr_of_below (B := w.heap.size) hg19 (by have := g13.size; first | exact this | (simp; omega) | omega) (by omega))
  have lt23 := rd_lt hr18
  have lt24 := blk_lt b20
  have lt25 := blk_lt b21
  clear hg19 hrN g13 b11 b12
  have b26 := alloc_blk (.cells #[.int .i64 ev, .int .i64 la] 30) b20
  have b27 := alloc_blk (.cells #[.int .i64 ev, .int .i64 la] 30) b21
  have b28 := heap_alloc_new w2 (.cells #[.int .i64 ev, .int .i64 la] 30)
  have hr29 := rd_alloc hr18 (.cells #[.int .i64 ev, .int .i64 la] 30)
  have g30 := g22.alloc (by have := g22.size; first | exact this | (simp; omega) | omega) (.cells #[.int .i64 ev, .int .i64 la] 30)
  clear b20 b21 hr18 g22
  have n1 : w.heap.size ≠ w2.heap.size := by omega
  have n2 : w2.heap.size ≠ w.heap.size := by omega
  have n7 : w.heap.size + 1 ≠ w2.heap.size := by omega
  have n8 : w2.heap.size ≠ w.heap.size + 1 := by omega
  go_wp2_with fail
  go_region_held3 (fun w' => w'.cell? ⟨w2.heap.size, 0, none⟩ = some (.int .i64 ev) ∧ w'.cell? ⟨w2.heap.size, 1, none⟩ = some (.int .i64 la)) (first | go_keep | (rw [World.cell?_setCell_other _ _ _ _ (by simp)]; assumption) | (go_split_ands; (repeat' constructor) <;> (refine (gr_cell hg32 (by first | omega | (simp; omega)) (by omega)).trans ?_; first | assumption | (simp [go_sem, *]; done)))) ((go_at_call 34; refine (anyWindow_any _ R p2 (rd_drew hr29) (by omega)).mono ?_; rintro e w3 ⟨b, h, p3, rfl, b0, b1, h0, h1, hp3, hr31, hg32⟩; have b33 := gr_blk hg32 b26 (by omega); have b34 := gr_blk hg32 b27 (by omega); have b35 := gr_blk hg32 b28 (by omega); have g36 := (g30.drew).trans (gr_of_below (B := w.heap.size) hg32 (by have := (g30.drew).size; first | exact this | (simp; omega) | omega) (by omega)); have lt37 := blk_lt b33; have lt38 := blk_lt b34; have lt39 := blk_lt b35; obtain ⟨s0, s1, sf, sl⟩ := blk2 b33; obtain ⟨u0, u1, uf, ul⟩ := blk2 b34; obtain ⟨m0, m1, mf, ml⟩ := blk2 b35))
  rename_i hHeld
  clear hr29 g30 hg32 hHeld b26 b27 b28
  go_wp2
  refine bodyPost_ret (v := .tuple #[.agg #[.int .i64 ev, .int .i64 la], .agg #[.int .i64 b, .int .i64 h]]) (by simp [results, Try.results15, go_sem, s0, s1, u0, u1]) rfl ?_
  refine ⟨ev, la, b, h, rfl, e0, e1, l0, l1, b0, b1, h0, h1, ?_⟩
  · go_grown

end Go.Proofs.Ytpfcmejcgkfjmab
