import Derived.Test.YtgnogkkdojagcaaOne
namespace Go.Proofs.Ytgnogkkdojagcaa
open Go.RowKit
def TrPost (w : World) (R p d : Nat) (e : Ending) (w' : World) : Prop :=
  ∃ (b h : Int) (p' : Nat), e = .returned (.agg #[.int .i64 b, .int .i64 h]) ∧ -1 ≤ b ∧ b ≤ 1000 ∧ -1 ≤ h ∧ h ≤ 1000 ∧ p' ≤ p + d ∧ Rd w' R p' ∧ Gr w w' R
def WnPost (w : World) (R p d : Nat) (e : Ending) (w' : World) : Prop :=
  ∃ (b h : Int) (p' : Nat), e = .returned (.agg #[.int .i64 b, .int .i64 h]) ∧ -1000 ≤ b ∧ b ≤ 1000 ∧ -1000 ≤ h ∧ h ≤ 1999 ∧ p' ≤ p + d ∧ Rd w' R p' ∧ Gr w w' R

set_option maxHeartbeats 2000000 in
theorem anyWindow_any (w : World) (R p : Nat) (h : Rd w R p) (hp : p + 5 ≤ 1000000000) :
    Calls Try.prog 48 #[.pointer (some ⟨R, 0, none⟩)] w (WnPost w R p 5) := by
  have hR := rd_lt h
  have g1 := gr_refl w R
  have hr2 := h
  have b3 := heap_alloc_new w (.cells #[.int .i64 0, .int .i64 0] 32)
  have hr4 := rd_alloc hr2 (.cells #[.int .i64 0, .int .i64 0] 32)
  have g5 := gr_alloc g1 (.cells #[.int .i64 0, .int .i64 0] 32)
  clear hr2 g1
  go_enter Try.func48, Try.ntmps48
  go_wp2_with fail
  refine (pick_any 40 _ R (p) hr4 (by omega) (by omega)).mono ?_
  rintro e w1 ⟨x, rfl, x_0, x_1, -, hr6, hg7, -⟩
  have b8 := gr_blk hg7 b3 (by omega)
  have g9 := gr_trans g5 hg7
  have lt10 := rd_lt hr6
  have lt11 := blk_lt b8
  clear hg7 hr4 g5 b3
  have x_b : 0 ≤ x ∧ x ≤ 39 := ⟨x_0, by omega⟩
  have q0 : IntKind.i64.wrap (x - 8) = x - 8 := IntWalk.i64_in _ (by omega)
  have q1 : IntKind.i64.wrap (x - 8 + 1) = x - 8 + 1 := IntWalk.i64_in _ (by omega)
  have b12 := alloc_blk (.cells #[.int .i64 (x - 8), .int .i64 0] 32) b8
  have b13 := heap_alloc_new w1 (.cells #[.int .i64 (x - 8), .int .i64 0] 32)
  have hr14 := rd_alloc hr6 (.cells #[.int .i64 (x - 8), .int .i64 0] 32)
  have g15 := gr_alloc g9 (.cells #[.int .i64 (x - 8), .int .i64 0] 32)
  clear b8 hr6 g9
  have n1 : w.heap.size ≠ w1.heap.size := by omega
  have n2 : w1.heap.size ≠ w.heap.size := by omega
  go_wp2_with fail
  go_region_held3 (fun w' => w'.cell? ⟨w1.heap.size, 0, none⟩ = some (.int .i64 (x - 8))) (first | go_keep | (rw [World.cell?_setCell_other _ _ _ _ (by simp)]; assumption) | (go_split_ands; (repeat' constructor) <;> (refine (gr_cell hg17 (by first | omega | (simp; omega)) (by omega)).trans ?_; first | assumption | (simp [go_sem, *]; done)))) ((go_at_call 49; refine (pick_any 9 _ R (p + 1) (rd_drew hr14) (by omega) (by omega)).mono ?_; rintro e w2 ⟨y, rfl, y_0, y_1, -, hr16, hg17, -⟩; have b18 := gr_blk hg17 b12 (by omega); have b19 := gr_blk hg17 b13 (by omega); have g20 := gr_trans (gr_drew g15) hg17; have lt21 := blk_lt b18; have lt22 := blk_lt b19; obtain ⟨e0, e1, ef, el⟩ := blk2 b19; have y_b : 0 ≤ y ∧ y ≤ 8 := ⟨y_0, by omega⟩; have q2 : IntKind.i64.wrap (x - 8 + 1 + y) = x - 8 + 1 + y := IntWalk.i64_in _ (by omega)))
  rename_i hHeld
  clear hr14 g15 hg17 hHeld b12 b13
  clear q0 q1 q2 e0 e1 ef el
  have b23 := blk_far (p := ⟨w1.heap.size, 1, none⟩) b18 (by omega) (.int .i64 (x - 8 + 1 + y))
  have b24 := blk_set b19 1 (.int .i64 (x - 8 + 1 + y))
  rw [show (#[.int .i64 (x - 8), .int .i64 0] : Array Value).setIfInBounds 1 (.int .i64 (x - 8 + 1 + y)) = #[.int .i64 (x - 8), .int .i64 (x - 8 + 1 + y)] from rfl] at b24
  have hr25 := rd_setCell (a := ⟨w1.heap.size, 1, none⟩) hr16 (by first | omega | (simp; omega)) (.int .i64 (x - 8 + 1 + y))
  have g26 := gr_setCell (p := ⟨w1.heap.size, 1, none⟩) g20 (by first | exact Nat.le_refl _ | omega | (simp; omega)) (.int .i64 (x - 8 + 1 + y))
  clear b18 b19 hr16 g20
  go_wp2_with fail
  refine (pick_any 24 _ R (p + 1 + 1) hr25 (by omega) (by omega)).mono ?_
  rintro e w3 ⟨z, rfl, z_0, z_1, -, hr27, hg28, -⟩
  have b29 := gr_blk hg28 b23 (by omega)
  have b30 := gr_blk hg28 b24 (by omega)
  have g31 := gr_trans g26 hg28
  have lt32 := rd_lt hr27
  have lt33 := blk_lt b29
  have lt34 := blk_lt b30
  clear hg28 hr25 g26 b23 b24
  rcases (show z = 0 ∨ z = 1 ∨ z = 2 ∨ 2 < z by omega) with hz | hz | hz | hz
  · subst hz
    obtain ⟨e0, e1, ef, el⟩ := blk2 b30
    obtain ⟨s0, s1, sf, sl⟩ := blk2 b29
    clear b30 b29
    go_wp2
    refine bodyPost_ret (v := .agg #[.int .i64 (x - 8), .int .i64 (x - 8)]) (by simp [results, Try.results48, go_sem, s0, s1, e0, e1]) rfl ?_
    refine ⟨x - 8, x - 8, p + 1 + 1 + 1, rfl, by omega, by omega, by omega, by omega, by omega, ?_, ?_⟩
    · repeat (first | exact hr27 | refine rd_setCell ?_ (by first | omega | (simp; omega)) _ | refine rd_drew ?_ | refine rd_alloc ?_ _)
    · repeat (first | exact g31 | refine gr_setCell ?_ (by first | exact Nat.le_refl _ | omega | (simp; omega)) _ | refine gr_drew ?_ | refine gr_alloc ?_ _)
  · subst hz
    have b35 := alloc_blk (.cells #[.int .i64 (-999), .int .i64 (-1000), .int .i64 999, .int .i64 1000] 3) b29
    have b36 := alloc_blk (.cells #[.int .i64 (-999), .int .i64 (-1000), .int .i64 999, .int .i64 1000] 3) b30
    have b37 := heap_alloc_new w3 (.cells #[.int .i64 (-999), .int .i64 (-1000), .int .i64 999, .int .i64 1000] 3)
    have hr38 := rd_alloc hr27 (.cells #[.int .i64 (-999), .int .i64 (-1000), .int .i64 999, .int .i64 1000] 3)
    have g39 := gr_alloc g31 (.cells #[.int .i64 (-999), .int .i64 (-1000), .int .i64 999, .int .i64 1000] 3)
    clear b29 b30 hr27 g31
    go_wp2_with fail
    refine (oneL_any [-999, -1000, 999, 1000] _ R (p + 1 + 1 + 1) 4 hr38 (by omega) (w3.heap.size) _ b37 rfl rfl (by omega) (by omega) (by omega)).mono ?_
    rintro e w4 ⟨v, v_m, rfl, hr40, hg41⟩
    have b42 := gr_blk hg41 b35 (by omega)
    have b43 := gr_blk hg41 b36 (by omega)
    have g44 := gr_trans g39 hg41
    have lt45 := rd_lt hr40
    have lt46 := blk_lt b42
    have lt47 := blk_lt b43
    clear hg41 hr38 g39 b35 b36
    have v_b : -1000 ≤ v ∧ v ≤ 1000 := by simp at v_m; omega
    clear v_m
    clear b37
    obtain ⟨e0, e1, ef, el⟩ := blk2 b43
    obtain ⟨s0, s1, sf, sl⟩ := blk2 b42
    clear b43 b42
    go_wp2
    refine bodyPost_ret (v := .agg #[.int .i64 (v), .int .i64 (x - 8 + 1 + y)]) (by simp [results, Try.results48, go_sem, s0, s1, e0, e1]) rfl ?_
    refine ⟨v, x - 8 + 1 + y, p + 1 + 1 + 1 + 1, rfl, by omega, by omega, by omega, by omega, by omega, ?_, ?_⟩
    · repeat (first | exact hr40 | refine rd_setCell ?_ (by first | omega | (simp; omega)) _ | refine rd_drew ?_ | refine rd_alloc ?_ _)
    · repeat (first | exact g44 | refine gr_setCell ?_ (by first | exact Nat.le_refl _ | omega | (simp; omega)) _ | refine gr_drew ?_ | refine gr_alloc ?_ _)
  · subst hz
    have b35 := alloc_blk (.cells #[.int .i64 1998, .int .i64 1999] 3) b29
    have b36 := alloc_blk (.cells #[.int .i64 1998, .int .i64 1999] 3) b30
    have b37 := heap_alloc_new w3 (.cells #[.int .i64 1998, .int .i64 1999] 3)
    have hr38 := rd_alloc hr27 (.cells #[.int .i64 1998, .int .i64 1999] 3)
    have g39 := gr_alloc g31 (.cells #[.int .i64 1998, .int .i64 1999] 3)
    clear b29 b30 hr27 g31
    go_wp2_with fail
    refine (oneL_any [1998, 1999] _ R (p + 1 + 1 + 1) 2 hr38 (by omega) (w3.heap.size) _ b37 rfl rfl (by omega) (by omega) (by omega)).mono ?_
    rintro e w4 ⟨v, v_m, rfl, hr40, hg41⟩
    have b42 := gr_blk hg41 b35 (by omega)
    have b43 := gr_blk hg41 b36 (by omega)
    have g44 := gr_trans g39 hg41
    have lt45 := rd_lt hr40
    have lt46 := blk_lt b42
    have lt47 := blk_lt b43
    clear hg41 hr38 g39 b35 b36
    have v_b : 1998 ≤ v ∧ v ≤ 1999 := by simp at v_m; omega
    clear v_m
    clear b37
    obtain ⟨e0, e1, ef, el⟩ := blk2 b43
    obtain ⟨s0, s1, sf, sl⟩ := blk2 b42
    clear b43 b42
    go_wp2
    refine bodyPost_ret (v := .agg #[.int .i64 (x - 8), .int .i64 (v)]) (by simp [results, Try.results48, go_sem, s0, s1, e0, e1]) rfl ?_
    refine ⟨x - 8, v, p + 1 + 1 + 1 + 1, rfl, by omega, by omega, by omega, by omega, by omega, ?_, ?_⟩
    · repeat (first | exact hr40 | refine rd_setCell ?_ (by first | omega | (simp; omega)) _ | refine rd_drew ?_ | refine rd_alloc ?_ _)
    · repeat (first | exact g44 | refine gr_setCell ?_ (by first | exact Nat.le_refl _ | omega | (simp; omega)) _ | refine gr_drew ?_ | refine gr_alloc ?_ _)
  · have z0 : (z == 0) = false := by simp; omega
    have z1 : (z == 1) = false := by simp; omega
    have z2 : (z == 2) = false := by simp; omega
    obtain ⟨e0, e1, ef, el⟩ := blk2 b30
    obtain ⟨s0, s1, sf, sl⟩ := blk2 b29
    clear b30 b29
    go_wp2
    refine bodyPost_ret (v := .agg #[.int .i64 (x - 8), .int .i64 (x - 8 + 1 + y)]) (by simp [results, Try.results48, go_sem, s0, s1, e0, e1]) rfl ?_
    refine ⟨x - 8, x - 8 + 1 + y, p + 1 + 1 + 1, rfl, by omega, by omega, by omega, by omega, by omega, ?_, ?_⟩
    · repeat (first | exact hr27 | refine rd_setCell ?_ (by first | omega | (simp; omega)) _ | refine rd_drew ?_ | refine rd_alloc ?_ _)
    · repeat (first | exact g31 | refine gr_setCell ?_ (by first | exact Nat.le_refl _ | omega | (simp; omega)) _ | refine gr_drew ?_ | refine gr_alloc ?_ _)

def WnIPost (w : World) (e : Ending) (w' : World) : Prop :=
  ∃ b h t : Int, e = .returned (.tuple #[.agg #[.int .i64 b, .int .i64 h], .int .i64 t]) ∧ -1000 ≤ b ∧ b ≤ 1000 ∧ -1000 ≤ h ∧ h ≤ 1999 ∧ -1001 ≤ t ∧ t ≤ 1999 ∧ Below w.heap.size w w'
def TWPost (w : World) (e : Ending) (w' : World) : Prop :=
  ∃ ev la b h : Int, e = .returned (.tuple #[.agg #[.int .i64 ev, .int .i64 la], .agg #[.int .i64 b, .int .i64 h]]) ∧ -1 ≤ ev ∧ ev ≤ 1000 ∧ -1 ≤ la ∧ la ≤ 1000 ∧ -1000 ≤ b ∧ b ≤ 1000 ∧ -1000 ≤ h ∧ h ≤ 1999 ∧ Below w.heap.size w w'
def TWIIPost (w : World) (e : Ending) (w' : World) : Prop :=
  ∃ ev la b h m t : Int, e = .returned (.tuple #[.agg #[.int .i64 ev, .int .i64 la], .agg #[.int .i64 b, .int .i64 h], .int .i64 m, .int .i64 t]) ∧ -1 ≤ ev ∧ ev ≤ 1000 ∧ -1 ≤ la ∧ la ≤ 1000 ∧ -1000 ≤ b ∧ b ≤ 1000 ∧ -1000 ≤ h ∧ h ≤ 1999 ∧ 0 ≤ m ∧ m ≤ 41 ∧ -1003 ≤ t ∧ t ≤ 3001 ∧ Below w.heap.size w w'

end Go.Proofs.Ytgnogkkdojagcaa
