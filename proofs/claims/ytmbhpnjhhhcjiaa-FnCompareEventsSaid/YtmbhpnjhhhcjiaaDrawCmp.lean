import Derived.Test.YtmbhpnjhhhcjiaaCmp
import Derived.BigRegion
namespace Go.Proofs.Ytmbhpnjhhhcjiaa
open Go.RowKit
theorem isRow_keep {k : IntKind} {w w' : World} {a : Option Addr} {len cap : Nat} {z : List Int} (h : IsRow k w a len cap z) (hb : Below w.heap.size w w') : IsRow k w' a len cap z := by
  rcases h with h | ⟨x, h1, h2, h3, h4, h5, h6⟩
  · exact .inl h
  · exact .inr ⟨x, h1, h2, h3, h4, fun i hi => (hb.cell (cell_lt (h5 i hi))).trans (h5 i hi), h6⟩
theorem below_blk {B g : Nat} {w w' : World} {x : Obj} (h : Below B w w') (hg : w.heap[g]? = some x) (hlt : g < B) : w'.heap[g]? = some x := (h.block g hlt).trans hg
def TwoEvPost (w : World) (e : Ending) (w' : World) : Prop :=
  ∃ t k v t' k' v' : Int, e = .returned (.tuple #[.agg #[.int .i64 t, .int .i64 k, .int .i64 v], .agg #[.int .i64 t', .int .i64 k', .int .i64 v']]) ∧ -1 ≤ t ∧ t ≤ 1000 ∧ -1 ≤ k ∧ k ≤ 1000 ∧ -1 ≤ v ∧ v ≤ 1000 ∧
    -1 ≤ t' ∧ t' ≤ 1000 ∧ -1 ≤ k' ∧ k' ≤ 1000 ∧ -1 ≤ v' ∧ v' ≤ 1000 ∧ Below w.heap.size w w'
set_option maxHeartbeats 4000000 in
theorem drawCompare_any (w : World) (a : Option Addr) (len cap : Nat) (z : List Int) (h : IsRow .u8 w a len cap z) (hl : len ≤ 1048576) :
    Calls Try.prog 19 #[.slice a len cap] w (TwoEvPost w) := by
  have hb0 : Below w.heap.size w ((w.alloc (.cells #[.int .i64 0, .int .i64 0, .int .i64 0] 24)).alloc (.cells #[.int .i64 0, .int .i64 0, .int .i64 0] 24)) := ((Below.refl _ _).alloc (Nat.le_refl _) _).alloc (by simp) _
  have h0 := isRow_keep h hb0
  have hS0 := alloc_blk (.cells #[.int .i64 0, .int .i64 0, .int .i64 0] 24) (heap_alloc_new w (.cells #[.int .i64 0, .int .i64 0, .int .i64 0] 24))
  have hT0 := heap_alloc_new (w.alloc (.cells #[.int .i64 0, .int .i64 0, .int .i64 0] 24)) (.cells #[.int .i64 0, .int .i64 0, .int .i64 0] 24)
  have hz : (w.alloc (.cells #[.int .i64 0, .int .i64 0, .int .i64 0] 24)).heap.size = w.heap.size + 1 := by simp
  rw [hz] at hT0
  have hz2 : ((w.alloc (.cells #[.int .i64 0, .int .i64 0, .int .i64 0] 24)).alloc (.cells #[.int .i64 0, .int .i64 0, .int .i64 0] 24)).heap.size = w.heap.size + 2 := by simp
  go_enter Try.func19, Try.ntmps19
  clear hz h
  go_wp2_with fail
  refine (newReader_any _ a len cap z h0 hl).mono ?_
  rintro e w1 ⟨R, rfl, hR, hr1, hb1⟩
  rw [hz2] at hR hb1
  have hS1 := below_blk hb1 hS0 (by omega)
  have hT1 := below_blk hb1 hT0 (by omega)
  have g1 : Below w.heap.size w w1 := hb0.trans (hb1.mono (by omega))
  clear hS0 hT0 h0 hb0 hb1 hz2
  go_wp2_with fail
  refine (anyEvent_any _ R 0 hr1 (by omega)).mono ?_
  rintro e w2 ⟨t, k, v, p2, rfl, ht0, ht1, hk0, hk1, hv0, hv1, hp2, hr2, hg2⟩
  have hS2 := gr_blk hg2 hS1 (by omega)
  have hT2 := gr_blk hg2 hT1 (by omega)
  have g2 := g1.trans (gr_of_below (B := w.heap.size) hg2 g1.size (by omega))
  have l2 := rd_lt hr2
  clear hS1 hT1 hr1 hg2 g1

  have hS3 := alloc_blk (.cells #[.int .i64 t, .int .i64 k, .int .i64 v] 24) hS2
  have hT3 := alloc_blk (.cells #[.int .i64 t, .int .i64 k, .int .i64 v] 24) hT2
  have hA3 := heap_alloc_new w2 (.cells #[.int .i64 t, .int .i64 k, .int .i64 v] 24)
  have hr3 := rd_alloc hr2 (.cells #[.int .i64 t, .int .i64 k, .int .i64 v] 24)
  have g3 := g2.alloc g2.size (.cells #[.int .i64 t, .int .i64 k, .int .i64 v] 24)
  clear hS2 hT2 hr2 g2
  go_wp2_with fail
  refine (anyEvent_any _ R p2 hr3 (by omega)).mono ?_
  rintro e w4 ⟨t', k', v', p4, rfl, ht0', ht1', hk0', hk1', hv0', hv1', hp4, hr4, hg4⟩
  have hS4 := gr_blk hg4 hS3 (by omega)
  have hT4 := gr_blk hg4 hT3 (by omega)
  have hA4 := gr_blk hg4 hA3 (by omega)
  have g4 := g3.trans (gr_of_below (B := w.heap.size) hg4 g3.size (by omega))
  have l4 := (blk3 hA4).2.2.2.2
  clear hS3 hT3 hA3 hr3 hg4 g3

  have hS5 := alloc_blk (.cells #[.int .i64 t', .int .i64 k', .int .i64 v'] 24) hS4
  have hT5 := alloc_blk (.cells #[.int .i64 t', .int .i64 k', .int .i64 v'] 24) hT4
  have hA5 := alloc_blk (.cells #[.int .i64 t', .int .i64 k', .int .i64 v'] 24) hA4
  have hB5 := heap_alloc_new w4 (.cells #[.int .i64 t', .int .i64 k', .int .i64 v'] 24)
  have hr5 := rd_alloc hr4 (.cells #[.int .i64 t', .int .i64 k', .int .i64 v'] 24)
  have g5 := g4.alloc g4.size (.cells #[.int .i64 t', .int .i64 k', .int .i64 v'] 24)
  clear hS4 hT4 hA4 hr4 g4
  go_wp2_with fail
  refine (pick_any _ _ R p4 hr5 (by omega) (by omega)).mono ?_
  rintro e w6 ⟨x, rfl, x0, x1, -, hr6, hg6, -⟩
  have hS6 := gr_blk hg6 hS5 (by omega)
  have hT6 := gr_blk hg6 hT5 (by omega)
  have hA6 := gr_blk hg6 hA5 (by omega)
  have hB6 := gr_blk hg6 hB5 (by omega)
  have g6 := g5.trans (gr_of_below (B := w.heap.size) hg6 g5.size (by omega))
  clear hS5 hT5 hA5 hB5 hr5 hg6 g5 hr6
  obtain ⟨s0, s1, s2, sf, sl⟩ := blk3 hS6
  obtain ⟨q0, q1, q2, qf, ql⟩ := blk3 hT6
  obtain ⟨a0, a1, a2, af, al⟩ := blk3 hA6
  obtain ⟨b0, b1, b2, bf, bl⟩ := blk3 hB6
  have n1 : w.heap.size ≠ w2.heap.size := by omega
  have n2 : w.heap.size + 1 ≠ w2.heap.size := by omega
  have n3 : w.heap.size ≠ w4.heap.size := by omega
  have n4 : w.heap.size + 1 ≠ w4.heap.size := by omega
  have n5 : w2.heap.size ≠ w4.heap.size := by omega
  clear hS6 hT6 hA6 hB6
  rcases (show x = 0 ∨ x = 1 ∨ x = 2 ∨ 2 < x by omega) with hx | hx | hx | hx
  · subst hx
    go_wp2
    go_region
    all_goals go_wp2
    all_goals refine bodyPost_ret (v := .tuple #[.agg #[.int .i64 t, .int .i64 k, .int .i64 v], .agg #[.int .i64 t, .int .i64 k', .int .i64 v']]) (by simp [results, Try.results19, go_sem, s0, s1, s2, q0, q1, q2]) rfl ?_
    all_goals refine ⟨t, k, v, t, k', v', rfl, by omega, by omega, by omega, by omega, by omega, by omega, by omega, by omega, by omega, by omega, by omega, by omega, ?_⟩
    all_goals go_grown
  · subst hx
    go_wp2
    go_region
    all_goals go_wp2
    all_goals refine bodyPost_ret (v := .tuple #[.agg #[.int .i64 t, .int .i64 k, .int .i64 v], .agg #[.int .i64 t, .int .i64 k, .int .i64 v']]) (by simp [results, Try.results19, go_sem, s0, s1, s2, q0, q1, q2]) rfl ?_
    all_goals refine ⟨t, k, v, t, k, v', rfl, by omega, by omega, by omega, by omega, by omega, by omega, by omega, by omega, by omega, by omega, by omega, by omega, ?_⟩
    all_goals go_grown
  · subst hx
    go_wp2
    go_region
    all_goals go_wp2
    all_goals refine bodyPost_ret (v := .tuple #[.agg #[.int .i64 t, .int .i64 k, .int .i64 v], .agg #[.int .i64 t, .int .i64 k, .int .i64 v]]) (by simp [results, Try.results19, go_sem, s0, s1, s2, q0, q1, q2]) rfl ?_
    all_goals refine ⟨t, k, v, t, k, v, rfl, by omega, by omega, by omega, by omega, by omega, by omega, by omega, by omega, by omega, by omega, by omega, by omega, ?_⟩
    all_goals go_grown
  · have m0 : (x == 0) = false := by simp; omega
    have m1 : (x == 1) = false := by simp; omega
    have m2 : (x == 2) = false := by simp; omega
    go_wp2
    go_region
    all_goals go_wp2
    all_goals refine bodyPost_ret (v := .tuple #[.agg #[.int .i64 t, .int .i64 k, .int .i64 v], .agg #[.int .i64 t', .int .i64 k', .int .i64 v']]) (by simp [results, Try.results19, go_sem, s0, s1, s2, q0, q1, q2]) rfl ?_
    all_goals refine ⟨t, k, v, t', k', v', rfl, by omega, by omega, by omega, by omega, by omega, by omega, by omega, by omega, by omega, by omega, by omega, by omega, ?_⟩
    all_goals go_grown
end Go.Proofs.Ytmbhpnjhhhcjiaa
