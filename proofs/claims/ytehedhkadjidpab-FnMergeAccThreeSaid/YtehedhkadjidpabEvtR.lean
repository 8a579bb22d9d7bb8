import Derived.Test.YtehedhkadjidpabPick
namespace Go.Proofs.Ytehedhkadjidpab
open Go.RowKit
def EvPost (w : World) (R p d : Nat) (lo hi : Int) (e : Ending) (w' : World) : Prop :=
  ∃ (t k v : Int) (p' : Nat), e = .returned (.agg #[.int .i64 t, .int .i64 k, .int .i64 v]) ∧ lo ≤ t ∧ t ≤ hi ∧ lo ≤ k ∧ k ≤ hi ∧ lo ≤ v ∧ v ≤ hi ∧ p' ≤ p + d ∧ Rd w' R p' ∧ Gr w w' R
set_option maxHeartbeats 400000 in
theorem randomEvent_any (w : World) (R p : Nat) (h : Rd w R p) (hp : p + 3 ≤ 1000000000) :
    Calls Try.prog 85 #[.pointer (some ⟨R, 0, none⟩)] w (EvPost w R p 3 0 49) := by
  have hR := rd_lt h
  have h' := rd_alloc h (.cells #[.int .i64 0, .int .i64 0, .int .i64 0] 95)
  go_enter Try.func85, Try.ntmps85
  go_wp2_with fail
  refine (pick_any _ _ R p h' (by omega) (by omega)).mono ?_
  rintro e w1 ⟨t, rfl, t0, t1, _, hr1, hg1, hs1⟩
  go_wp2_with fail
  refine (pick_any _ _ R (p + 1) hr1 (by omega) (by omega)).mono ?_
  rintro e w2 ⟨k, rfl, k0, k1, _, hr2, hg2, hs2⟩
  go_wp2_with fail
  refine (pick_any _ _ R (p + 2) hr2 (by omega) (by omega)).mono ?_
  rintro e w3 ⟨v, rfl, v0, v1, _, hr3, hg3, hs3⟩
  have hs : w3.heap.size = w.heap.size + 1 := by rw [hs3, hs2, hs1]; simp
  have hb3 : w3.heap[w.heap.size]? = some (.cells #[.int .i64 0, .int .i64 0, .int .i64 0] 95 (0, 0)) := by
    rw [hg3.block _ (by omega) (fun e => by injection e; omega), hg2.block _ (by rw [hs1]; simp) (fun e => by injection e; omega), hg1.block _ (by simp) (fun e => by injection e; omega)]
    exact heap_alloc_new _ _
  have q0 := cell_of_row w3 w.heap.size 0 _ _ _ hb3
  have q1 := cell_of_row w3 w.heap.size 1 _ _ _ hb3
  have q2 := cell_of_row w3 w.heap.size 2 _ _ _ hb3
  simp at q0 q1 q2
  have f0 : ∀ o, w3.frozen? ⟨w.heap.size, o, none⟩ = false := fun o => by simp [World.frozen?, hb3]
  clear hb3 h h' hr1 hr2
  go_wp2
  refine bodyPost_ret (v := .agg #[.int .i64 t, .int .i64 k, .int .i64 v]) (by simp [results, Try.results85, go_sem, q0, q1, q2]) rfl ?_
  refine ⟨t, k, v, p + 3, rfl, by omega, by omega, by omega, by omega, by omega, by omega, Nat.le_refl _, ?_, ?_⟩
  · exact rd_setCell (rd_setCell (rd_setCell hr3 hR _) hR _) hR _
  · exact gr_setCell (gr_setCell (gr_setCell (gr_trans (gr_trans (gr_trans (gr_alloc (gr_refl w R) _) hg1) hg2) hg3) (Nat.le_refl _) _) (Nat.le_refl _) _) (Nat.le_refl _) _
end Go.Proofs.Ytehedhkadjidpab
