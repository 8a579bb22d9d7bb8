import Derived.Test.YtcpjidbinhfapabOne
namespace Go.Proofs.Ytcpjidbinhfapab
open Go.RowKit
def ItPost (w : World) (R p d : Nat) (e : Ending) (w' : World) : Prop :=
  ∃ (b h : Int) (p' : Nat), e = .returned (.agg #[.int .i64 b, .int .i64 h]) ∧ -1 ≤ b ∧ b ≤ 3 ∧ -2 ≤ h ∧ h ≤ 3001 ∧ p' ≤ p + d ∧ Rd w' R p' ∧ Gr w w' R

set_option maxHeartbeats 2000000 in
theorem anyItem_any (w : World) (R p : Nat) (h : Rd w R p) (hp : p + 3 ≤ 1000000000) :
    Calls Try.prog 47 #[.pointer (some ⟨R, 0, none⟩)] w (ItPost w R p 3) := by
  have hR := rd_lt h
  have g1 := gr_refl w R
  have hr2 := h
  have b3 := heap_alloc_new w (.cells #[.int .i64 0, .int .i64 0] 32)
  have hr4 := rd_alloc hr2 (.cells #[.int .i64 0, .int .i64 0] 32)
  have g5 := gr_alloc g1 (.cells #[.int .i64 0, .int .i64 0] 32)
  clear hr2 g1
  go_enter Try.func47, Try.ntmps47
  go_wp2_with fail
  refine (pick_any 30 _ R (p) hr4 (by omega) (by omega)).mono ?_
  rintro e w1 ⟨v, rfl, v_0, v_1, -, hr6, hg7, -⟩
  have b8 := gr_blk hg7 b3 (by omega)
  have g9 := gr_trans g5 hg7
  have lt10 := rd_lt hr6
  have lt11 := blk_lt b8
  clear hg7 hr4 g5 b3
  rcases (show v = 0 ∨ v = 1 ∨ 1 < v by omega) with hz | hz | hz
  · subst hz
    have b12 := alloc_blk (.cells #[.int .i64 (-1), .int .i64 3] 3) b8
    have b13 := heap_alloc_new w1 (.cells #[.int .i64 (-1), .int .i64 3] 3)
    have hr14 := rd_alloc hr6 (.cells #[.int .i64 (-1), .int .i64 3] 3)
    have g15 := gr_alloc g9 (.cells #[.int .i64 (-1), .int .i64 3] 3)
    clear b8 hr6 g9
    go_wp2_with fail
    refine (oneL_any [-1, 3] _ R (p + 1) 2 hr14 (by omega) (w1.heap.size) _ b13 rfl rfl (by omega) (by omega) (by omega)).mono ?_
    rintro e w2 ⟨x, x_m, rfl, hr16, hg17⟩
    have b18 := gr_blk hg17 b12 (by omega)
    have g19 := gr_trans g15 hg17
    have lt20 := rd_lt hr16
    have lt21 := blk_lt b18
    clear hg17 hr14 g15 b12
    have x_b : -1 ≤ x ∧ x ≤ 3 := by simp at x_m; omega
    clear x_m
    clear b13
    obtain ⟨s0, s1, sf, sl⟩ := blk2 b18
    clear b18
    go_wp2
    refine bodyPost_ret (v := .agg #[.int .i64 x, .int .i64 1]) (by simp [results, Try.results47, go_sem, s0, s1]) rfl ?_
    refine ⟨x, 1, p + 1 + 1, rfl, by omega, by omega, by omega, by omega, by omega, ?_, ?_⟩
    · repeat (first | exact hr16 | refine rd_setCell ?_ (by first | omega | (simp; omega)) _ | refine rd_drew ?_ | refine rd_alloc ?_ _)
    · repeat (first | exact g19 | refine gr_setCell ?_ (by first | exact Nat.le_refl _ | omega | (simp; omega)) _ | refine gr_drew ?_ | refine gr_alloc ?_ _)
  · subst hz
    go_wp2_with fail
    refine (pick_any 3 _ R (p + 1) hr6 (by omega) (by omega)).mono ?_
    rintro e w2 ⟨k, rfl, k_0, k_1, -, hr12, hg13, -⟩
    have b14 := gr_blk hg13 b8 (by omega)
    have g15 := gr_trans g9 hg13
    have lt16 := rd_lt hr12
    have lt17 := blk_lt b14
    clear hg13 hr6 g9 b8
    have k_2 := k_1 (by omega)
    have b18 := alloc_blk (.cells #[.int .i64 (-1), .int .i64 (-2), .int .i64 0, .int .i64 99, .int .i64 100, .int .i64 3000, .int .i64 3001] 3) b14
    have b19 := heap_alloc_new w2 (.cells #[.int .i64 (-1), .int .i64 (-2), .int .i64 0, .int .i64 99, .int .i64 100, .int .i64 3000, .int .i64 3001] 3)
    have hr20 := rd_alloc hr12 (.cells #[.int .i64 (-1), .int .i64 (-2), .int .i64 0, .int .i64 99, .int .i64 100, .int .i64 3000, .int .i64 3001] 3)
    have g21 := gr_alloc g15 (.cells #[.int .i64 (-1), .int .i64 (-2), .int .i64 0, .int .i64 99, .int .i64 100, .int .i64 3000, .int .i64 3001] 3)
    clear b14 hr12 g15
    go_wp2_with fail
    refine (oneL_any [-1, -2, 0, 99, 100, 3000, 3001] _ R (p + 1 + 1) 7 hr20 (by omega) (w2.heap.size) _ b19 rfl rfl (by omega) (by omega) (by omega)).mono ?_
    rintro e w3 ⟨x, x_m, rfl, hr22, hg23⟩
    have b24 := gr_blk hg23 b18 (by omega)
    have g25 := gr_trans g21 hg23
    have lt26 := rd_lt hr22
    have lt27 := blk_lt b24
    clear hg23 hr20 g21 b18
    have x_b : -2 ≤ x ∧ x ≤ 3001 := by simp at x_m; omega
    clear x_m
    clear b19
    obtain ⟨s0, s1, sf, sl⟩ := blk2 b24
    clear b24
    go_wp2
    refine bodyPost_ret (v := .agg #[.int .i64 k, .int .i64 x]) (by simp [results, Try.results47, go_sem, s0, s1]) rfl ?_
    refine ⟨k, x, p + 1 + 1 + 1, rfl, by omega, by omega, by omega, by omega, by omega, ?_, ?_⟩
    · repeat (first | exact hr22 | refine rd_setCell ?_ (by first | omega | (simp; omega)) _ | refine rd_drew ?_ | refine rd_alloc ?_ _)
    · repeat (first | exact g25 | refine gr_setCell ?_ (by first | exact Nat.le_refl _ | omega | (simp; omega)) _ | refine gr_drew ?_ | refine gr_alloc ?_ _)
  · have v0 : (v == 0) = false := by simp; omega
    have v1 : (v == 1) = false := by simp; omega
    go_wp2_with fail
    refine (pick_any 5 _ R (p + 1) hr6 (by omega) (by omega)).mono ?_
    rintro e w2 ⟨y, rfl, y_0, y_1, -, hr12, hg13, -⟩
    have b14 := gr_blk hg13 b8 (by omega)
    have g15 := gr_trans g9 hg13
    have lt16 := rd_lt hr12
    have lt17 := blk_lt b14
    clear hg13 hr6 g9 b8
    rcases (show y = 0 ∨ y ≠ 0 by omega) with hy | hy
    · subst hy
      go_wp2_with fail
      refine (pick_any 20 _ R (p + 1 + 1) hr12 (by omega) (by omega)).mono ?_
      rintro e w3 ⟨z, rfl, z_0, z_1, -, hr18, hg19, -⟩
      have b20 := gr_blk hg19 b14 (by omega)
      have g21 := gr_trans g15 hg19
      have lt22 := rd_lt hr18
      have lt23 := blk_lt b20
      clear hg19 hr12 g15 b14
      have z_2 := z_1 (by omega)
      obtain ⟨s0, s1, sf, sl⟩ := blk2 b20
      clear b20
      go_wp2
      refine bodyPost_ret (v := .agg #[.int .i64 1, .int .i64 z]) (by simp [results, Try.results47, go_sem, s0, s1]) rfl ?_
      refine ⟨1, z, p + 1 + 1 + 1, rfl, by omega, by omega, by omega, by omega, by omega, ?_, ?_⟩
      · repeat (first | exact hr18 | refine rd_setCell ?_ (by first | omega | (simp; omega)) _ | refine rd_drew ?_ | refine rd_alloc ?_ _)
      · repeat (first | exact g21 | refine gr_setCell ?_ (by first | exact Nat.le_refl _ | omega | (simp; omega)) _ | refine gr_drew ?_ | refine gr_alloc ?_ _)
    · have y0 : (y == 0) = false := by simp; omega
      go_wp2_with fail
      refine (pick_any 50 _ R (p + 1 + 1) hr12 (by omega) (by omega)).mono ?_
      rintro e w3 ⟨z, rfl, z_0, z_1, -, hr18, hg19, -⟩
      have b20 := gr_blk hg19 b14 (by omega)
      have g21 := gr_trans g15 hg19
      have lt22 := rd_lt hr18
      have lt23 := blk_lt b20
      clear hg19 hr12 g15 b14
      have z_2 := z_1 (by omega)
      obtain ⟨s0, s1, sf, sl⟩ := blk2 b20
      clear b20
      go_wp2
      refine bodyPost_ret (v := .agg #[.int .i64 0, .int .i64 z]) (by simp [results, Try.results47, go_sem, s0, s1]) rfl ?_
      refine ⟨0, z, p + 1 + 1 + 1, rfl, by omega, by omega, by omega, by omega, by omega, ?_, ?_⟩
      · repeat (first | exact hr18 | refine rd_setCell ?_ (by first | omega | (simp; omega)) _ | refine rd_drew ?_ | refine rd_alloc ?_ _)
      · repeat (first | exact g21 | refine gr_setCell ?_ (by first | exact Nat.le_refl _ | omega | (simp; omega)) _ | refine gr_drew ?_ | refine gr_alloc ?_ _)

end Go.Proofs.Ytcpjidbinhfapab
