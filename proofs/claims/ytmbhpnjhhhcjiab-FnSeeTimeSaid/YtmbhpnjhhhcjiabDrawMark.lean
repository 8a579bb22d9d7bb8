import Derived.Test.YtmbhpnjhhhcjiabOne
namespace Go.Proofs.Ytmbhpnjhhhcjiab
open Go.RowKit
def MarkPost (w : World) (R p d : Nat) (e : Ending) (w' : World) : Prop :=
  ∃ (b h : Int) (p' : Nat), e = .returned (.agg #[.int .i64 b, .int .i64 h]) ∧ -2 ≤ b ∧ b ≤ 1000 ∧ -2 ≤ h ∧ h ≤ 1000 ∧ p' ≤ p + d ∧ Rd w' R p' ∧ Gr w w' R
set_option maxHeartbeats 1000000 in
theorem anyMark_any (w : World) (R p : Nat) (h : Rd w R p) (hp : p + 2 ≤ 1000000000) :
    Calls Try.prog 69 #[.pointer (some ⟨R, 0, none⟩)] w (MarkPost w R p 2) := by
  have hR := rd_lt h
  have hS0 := heap_alloc_new w (.cells #[.int .i64 0, .int .i64 0] 41)
  have h0 := rd_alloc (rd_alloc h (.cells #[.int .i64 0, .int .i64 0] 41)) (.cells #[.int .i64 0, .int .i64 1, .int .i64 3, .int .i64 5, .int .i64 10, .int .i64 999, .int .i64 1000, .int .i64 (-1)] 3)
  have hS1 := alloc_blk (.cells #[.int .i64 0, .int .i64 1, .int .i64 3, .int .i64 5, .int .i64 10, .int .i64 999, .int .i64 1000, .int .i64 (-1)] 3) hS0
  have hz : (w.alloc (.cells #[.int .i64 0, .int .i64 0] 41)).heap.size = w.heap.size + 1 := by simp
  have hL := heap_alloc_new (w.alloc (.cells #[.int .i64 0, .int .i64 0] 41)) (.cells #[.int .i64 0, .int .i64 1, .int .i64 3, .int .i64 5, .int .i64 10, .int .i64 999, .int .i64 1000, .int .i64 (-1)] 3)
  rw [hz] at hL
  have g1 := gr_alloc (gr_alloc (gr_refl w R) (.cells #[.int .i64 0, .int .i64 0] 41)) (.cells #[.int .i64 0, .int .i64 1, .int .i64 3, .int .i64 5, .int .i64 10, .int .i64 999, .int .i64 1000, .int .i64 (-1)] 3)
  clear hz hS0 h
  go_enter Try.func69, Try.ntmps69
  go_wp2_with fail
  refine (oneL_any [0, 1, 3, 5, 10, 999, 1000, -1] _ R p 8 h0 (by omega) (w.heap.size + 1) _ hL rfl rfl (by omega) (by omega) (by omega)).mono ?_
  rintro e w1 ⟨b, hbm, rfl, hr1, hg1⟩
  have hS2 := gr_blk hg1 hS1 (by omega)
  have g2 := gr_trans g1 hg1
  have hb : -2 ≤ b ∧ b ≤ 1000 := by simp at hbm; omega
  clear hbm hS1 g1 hg1 hL h0
  have hS3 := alloc_blk (.cells #[.int .i64 (-1), .int .i64 0, .int .i64 4, .int .i64 10, .int .i64 20, .int .i64 33, .int .i64 999, .int .i64 1000, .int .i64 (-2)] 3) hS2
  have hL := heap_alloc_new w1 (.cells #[.int .i64 (-1), .int .i64 0, .int .i64 4, .int .i64 10, .int .i64 20, .int .i64 33, .int .i64 999, .int .i64 1000, .int .i64 (-2)] 3)
  have hr2 := rd_alloc hr1 (.cells #[.int .i64 (-1), .int .i64 0, .int .i64 4, .int .i64 10, .int .i64 20, .int .i64 33, .int .i64 999, .int .i64 1000, .int .i64 (-2)] 3)
  have g3 := gr_alloc g2 (.cells #[.int .i64 (-1), .int .i64 0, .int .i64 4, .int .i64 10, .int .i64 20, .int .i64 33, .int .i64 999, .int .i64 1000, .int .i64 (-2)] 3)
  have hlt := rd_lt hr1
  clear hS2 hr1 g2
  go_wp2_with fail
  refine (oneL_any [-1, 0, 4, 10, 20, 33, 999, 1000, -2] _ R (p + 1) 9 hr2 (by omega) w1.heap.size _ hL rfl rfl (by omega) (by omega) (by omega)).mono ?_
  rintro e w4 ⟨h, hhm, rfl, hr4, hg4⟩
  have hS4 := gr_blk hg4 hS3 (by omega)
  have g4 := gr_trans g3 hg4
  have hh : -2 ≤ h ∧ h ≤ 1000 := by simp at hhm; omega
  clear hhm hS3 g3 hg4 hL hr2
  obtain ⟨s0, s1, sf, sl⟩ := blk2 hS4
  clear hS4
  go_wp2
  refine bodyPost_ret (v := .agg #[.int .i64 b, .int .i64 h]) (by simp [results, Try.results69, go_sem, s0, s1]) rfl ?_
  refine ⟨b, h, p + 1 + 1, rfl, hb.1, hb.2, hh.1, hh.2, by omega, ?_, ?_⟩
  · repeat (first | exact hr4 | refine rd_setCell ?_ (by first | exact hR | (simp; omega)) _)
  · repeat (first | exact g4 | refine gr_setCell ?_ (by first | exact Nat.le_refl _ | (simp; omega)) _)
end Go.Proofs.Ytmbhpnjhhhcjiab
