import Derived.Test.YtehedhkadjidpabAcSb
import Derived.Test.YtehedhkadjidpabDrEvR
import Derived.Deep.RegionWith
namespace Go.Proofs.Ytehedhkadjidpab
open Go.RowKit
theorem accF_bd (l : List EventR) : 0 ≤ (accF l).c ∧ (accF l).c ≤ 40 ∧ 0 ≤ (accF l).s ∧ (accF l).s ≤ 3960 ∧ 0 ≤ (accF l).l ∧ (accF l).l ≤ 99 ∧ 0 ≤ (accF l).m ∧ (accF l).m ≤ 99 := by
  unfold accF
  split
  · rename_i hv
    have h := acc_take_ok hv (Nat.le_refl l.length)
    rw [List.take_length] at h
    have h40 := vEvs_40 hv
    obtain ⟨h1, h2, h3, h4, h5⟩ := h
    by_cases h0 : l.length = 0
    · obtain ⟨e1, e2, e3⟩ := h4 h0; omega
    · have := h5 h0; omega
  · simp
def AnyAc (w : World) (R p : Nat) (e : Ending) (w' : World) : Prop :=
  ∃ (c s l m : Int) (p' : Nat), e = .returned (.agg #[.int .i64 c, .int .i64 s, .int .i64 l, .int .i64 m]) ∧ -1 ≤ c ∧ c ≤ 1000 ∧ -100 ≤ s ∧ s ≤ 4060 ∧ 0 ≤ l ∧ l ≤ 99 ∧ 0 ≤ m ∧ m ≤ 100 ∧ p' ≤ p + 82 ∧ Rd w' R p' ∧ Gr w w' R
set_option maxRecDepth 100000 in
set_option maxHeartbeats 100000000 in
theorem anyAcc_any (w : World) (R p : Nat) (h : Rd w R p) (hp : p + 82 ≤ 1000000000) : Calls Try.prog 69 #[.pointer (some ⟨R, 0, none⟩)] w (AnyAc w R p) := by
  have hR := rd_lt h
  have g1 := gr_refl w R
  have hr2 := h
  have b3 := heap_alloc_new w (.cells #[.int .i64 0, .int .i64 0, .int .i64 0, .int .i64 0] 48)
  have hr4 := rd_alloc hr2 (.cells #[.int .i64 0, .int .i64 0, .int .i64 0, .int .i64 0] 48)
  have g5 := gr_alloc g1 (.cells #[.int .i64 0, .int .i64 0, .int .i64 0, .int .i64 0] 48)
  clear hr2 g1
  go_enter Try.func69, Try.ntmps69
  go_wp2_with fail
  refine (randomEvents_any _ R p hr4 (by omega)).mono ?_
  rintro e w1 ⟨A, c, l, p2, rfl, o1, l12, hp2, hr6, hg7⟩
  have zs_w1 := hg7.size
  have b8 := gr_blk hg7 b3 (by omega)
  have g9 := gr_trans g5 hg7
  have lt10 := rd_lt hr6
  have lt11 := blk_lt b8
  clear hg7 hr4 g5 b3
  go_wp2_with fail
  refine (specAccOf_any A c l _ (o1.row EventR.enc_len)).mono ?_
  rintro e w2 ⟨rfl, bA⟩
  have b12 := below_blk bA b8 (blk_lt b8)
  have hr13 := rd_below hr6 bA
  have g14 := gr_below g9 bA
  have zs_w2 := bA.size
  have ltw2 := rd_lt hr13
  have lt15 := blk_lt b12
  clear hr6 g9 b8
  clear bA o1
  have hbd := accF_bd l
  obtain ⟨x, y, z, u, hac⟩ : ∃ x y z u, accF l = ⟨x, y, z, u⟩ := ⟨_, _, _, _, rfl⟩
  rw [hac] at hbd ⊢
  simp only [A4.V]
  simp only at hbd
  obtain ⟨x0, x1, y0, y1, z0, z1, u0, u1⟩ := hbd
  clear hac
  have b16 := alloc_blk (.cells #[.int .i64 x, .int .i64 y, .int .i64 z, .int .i64 u] 48) b12
  have b17 := heap_alloc_new w2 (.cells #[.int .i64 x, .int .i64 y, .int .i64 z, .int .i64 u] 48)
  have hr18 := rd_alloc hr13 (.cells #[.int .i64 x, .int .i64 y, .int .i64 z, .int .i64 u] 48)
  have g19 := gr_alloc g14 (.cells #[.int .i64 x, .int .i64 y, .int .i64 z, .int .i64 u] 48)
  clear b12 hr13 g14
  go_wp2_with fail
  refine (pick_any 24 _ R (p2) hr18 (by omega) (by omega)).mono ?_
  rintro e w3 ⟨v, rfl, v_0, v_1, -, hr20, hg21, -⟩
  have zs_w3 := hg21.size
  have b22 := gr_blk hg21 b16 (by omega)
  have b23 := gr_blk hg21 b17 (by omega)
  have g24 := gr_trans g19 hg21
  have lt25 := rd_lt hr20
  have lt26 := blk_lt b22
  have lt27 := blk_lt b23
  clear hg21 hr18 g19 b16 b17
  have v_2 := v_1 (by omega)
  rcases (show v = 0 ∨ v = 1 ∨ v = 2 ∨ v = 3 ∨ (v ≠ 0 ∧ v ≠ 1 ∧ v ≠ 2 ∧ v ≠ 3) by omega) with hv | hv | hv | hv | hv
  · subst hv
    have b28 := alloc_blk (.cells #[.int .i64 0, .int .i64 (-1), .int .i64 999, .int .i64 1000] 3) b22
    have b29 := alloc_blk (.cells #[.int .i64 0, .int .i64 (-1), .int .i64 999, .int .i64 1000] 3) b23
    have b30 := heap_alloc_new w3 (.cells #[.int .i64 0, .int .i64 (-1), .int .i64 999, .int .i64 1000] 3)
    have hr31 := rd_alloc hr20 (.cells #[.int .i64 0, .int .i64 (-1), .int .i64 999, .int .i64 1000] 3)
    have g32 := gr_alloc g24 (.cells #[.int .i64 0, .int .i64 (-1), .int .i64 999, .int .i64 1000] 3)
    clear b22 b23 hr20 g24
    go_wp2_with fail
    refine (oneL_any [0, -1, 999, 1000] _ R (p2 + 1) 4 hr31 (by omega) (w3.heap.size) _ b30 rfl rfl (by omega) (by omega) (by omega)).mono ?_
    rintro e w4 ⟨k, k_m, rfl, hr33, hg34⟩
    have zs_w4 := hg34.size
    have b35 := gr_blk hg34 b28 (by omega)
    have b36 := gr_blk hg34 b29 (by omega)
    have g37 := gr_trans g32 hg34
    have lt38 := rd_lt hr33
    have lt39 := blk_lt b35
    have lt40 := blk_lt b36
    clear hg34 hr31 g32 b28 b29
    have k_b : -1 ≤ k ∧ k ≤ 1000 := by simp at k_m; omega
    clear k_m
    clear b30
    obtain ⟨a0, a1, a2, a3, af, al⟩ := blk4 b36
    have b41 := blk_far (p := ⟨w2.heap.size, 0, none⟩) b35 (show w.heap.size ≠ w2.heap.size by omega) (.int .i64 k)
    have b42 := blk_set b36 0 (.int .i64 k)
    rw [show (#[.int .i64 x, .int .i64 y, .int .i64 z, .int .i64 u] : Array Value).setIfInBounds 0 (.int .i64 k) = #[.int .i64 k, .int .i64 y, .int .i64 z, .int .i64 u] from rfl] at b42
    have hr43 := rd_setCell (a := ⟨w2.heap.size, 0, none⟩) hr33 (by first | omega | (simp; omega)) (.int .i64 k)
    have g44 := gr_setCell (p := ⟨w2.heap.size, 0, none⟩) g37 (by first | exact Nat.le_refl _ | omega | (simp; omega)) (.int .i64 k)
    clear b35 b36 hr33 g37
    obtain ⟨r0, r1, r2, r3, rf, rl⟩ := blk4 b41
    obtain ⟨q0, q1, q2, q3, qf, ql⟩ := blk4 b42
    have zz := g44.size
    clear b42 b41
    go_wp2
    (try simp only [Exit.inBlock, Exit.then])
    refine bodyPost_ret (v := .agg #[.int .i64 k, .int .i64 y, .int .i64 z, .int .i64 u]) (by simp [results, Try.results69, go_sem, r0, r1, r2, r3]) rfl ?_
    refine ⟨k, y, z, u, p2 + 1 + 1, rfl, by omega, by omega, by omega, by omega, by omega, by omega, by omega, by omega, by omega, ?_, ?_⟩
    · repeat (first | with_reducible exact hr43 | refine rd_setCell ?_ (by first | omega | (simp; omega)) _ | refine rd_drew ?_ | refine rd_alloc ?_ _)
    · repeat (first | with_reducible exact g44 | refine gr_setCell ?_ (by first | exact Nat.le_refl _ | omega | (simp; omega)) _ | refine gr_drew ?_ | refine gr_alloc ?_ _)
  · subst hv
    obtain ⟨a0, a1, a2, a3, af, al⟩ := blk4 b23
    go_wp2_with fail
    have b28 := alloc_blk (.cells #[.int .i64 1, .int .i64 100, .int .i64 (-100)] 3) b22
    have b29 := alloc_blk (.cells #[.int .i64 1, .int .i64 100, .int .i64 (-100)] 3) b23
    have b30 := heap_alloc_new w3 (.cells #[.int .i64 1, .int .i64 100, .int .i64 (-100)] 3)
    have hr31 := rd_alloc hr20 (.cells #[.int .i64 1, .int .i64 100, .int .i64 (-100)] 3)
    have g32 := gr_alloc g24 (.cells #[.int .i64 1, .int .i64 100, .int .i64 (-100)] 3)
    clear b22 b23 hr20 g24
    have a1L : (w3.alloc (.cells #[.int .i64 1, .int .i64 100, .int .i64 (-100)] 3)).cell? ⟨w2.heap.size, 1, none⟩ = some (.int .i64 y) := ((alloc_below _ _).cell al).trans a1
    go_region_with ((go_at_call 46; refine (oneL_any [1, 100, -100] _ R (p2 + 1) 3 (rd_drew hr31) (by omega) (w3.heap.size) _ b30 rfl rfl (by omega) (by omega) (by omega)).mono ?_; rintro e w4 ⟨k, k_m, rfl, hr33, hg34⟩; have b35 := gr_blk hg34 b28 (by omega); have b36 := gr_blk hg34 b29 (by omega); have g37 := gr_trans (gr_drew g32) hg34; have lt38 := blk_lt b35; have lt39 := blk_lt b36; obtain ⟨n0, n1, n2, n3, nf, nl⟩ := blk4 b36; have k_b : -100 ≤ k ∧ k ≤ 100 := by (simp at k_m; omega)))
    all_goals
      clear b30 hr31 g32 hg34 a1L k_m b28 b29
      have b40 := blk_far (p := ⟨w2.heap.size, 1, none⟩) b35 (show w.heap.size ≠ w2.heap.size by omega) (.int .i64 (y + k))
      have b41 := blk_set b36 1 (.int .i64 (y + k))
      rw [show (#[.int .i64 x, .int .i64 y, .int .i64 z, .int .i64 u] : Array Value).setIfInBounds 1 (.int .i64 (y + k)) = #[.int .i64 x, .int .i64 (y + k), .int .i64 z, .int .i64 u] from rfl] at b41
      have hr42 := rd_setCell (a := ⟨w2.heap.size, 1, none⟩) hr33 (by first | omega | (simp; omega)) (.int .i64 (y + k))
      have g43 := gr_setCell (p := ⟨w2.heap.size, 1, none⟩) g37 (by first | exact Nat.le_refl _ | omega | (simp; omega)) (.int .i64 (y + k))
      clear b35 b36 hr33 g37
      obtain ⟨r0, r1, r2, r3, rf, rl⟩ := blk4 b40
      obtain ⟨q0, q1, q2, q3, qf, ql⟩ := blk4 b41
      have zz := g43.size
      clear b41 b40
      go_wp2
      (try simp only [Exit.inBlock, Exit.then])
      refine bodyPost_ret (v := .agg #[.int .i64 x, .int .i64 (y + k), .int .i64 z, .int .i64 u]) (by simp [results, Try.results69, go_sem, r0, r1, r2, r3]) rfl ?_
      refine ⟨x, (y + k), z, u, p2 + 1 + 1, rfl, by omega, by omega, by omega, by omega, by omega, by omega, by omega, by omega, by omega, ?_, ?_⟩
      · repeat (first | with_reducible exact hr42 | refine rd_setCell ?_ (by first | omega | (simp; omega)) _ | refine rd_drew ?_ | refine rd_alloc ?_ _)
      · repeat (first | with_reducible exact g43 | refine gr_setCell ?_ (by first | exact Nat.le_refl _ | omega | (simp; omega)) _ | refine gr_drew ?_ | refine gr_alloc ?_ _)
  · subst hv
    have b28 := alloc_blk (.cells #[.int .i64 99, .int .i64 100, .int .i64 0] 3) b22
    have b29 := alloc_blk (.cells #[.int .i64 99, .int .i64 100, .int .i64 0] 3) b23
    have b30 := heap_alloc_new w3 (.cells #[.int .i64 99, .int .i64 100, .int .i64 0] 3)
    have hr31 := rd_alloc hr20 (.cells #[.int .i64 99, .int .i64 100, .int .i64 0] 3)
    have g32 := gr_alloc g24 (.cells #[.int .i64 99, .int .i64 100, .int .i64 0] 3)
    clear b22 b23 hr20 g24
    go_wp2_with fail
    refine (oneL_any [99, 100, 0] _ R (p2 + 1) 3 hr31 (by omega) (w3.heap.size) _ b30 rfl rfl (by omega) (by omega) (by omega)).mono ?_
    rintro e w4 ⟨k, k_m, rfl, hr33, hg34⟩
    have zs_w4 := hg34.size
    have b35 := gr_blk hg34 b28 (by omega)
    have b36 := gr_blk hg34 b29 (by omega)
    have g37 := gr_trans g32 hg34
    have lt38 := rd_lt hr33
    have lt39 := blk_lt b35
    have lt40 := blk_lt b36
    clear hg34 hr31 g32 b28 b29
    have k_b : 0 ≤ k ∧ k ≤ 100 := by simp at k_m; omega
    clear k_m
    clear b30
    obtain ⟨a0, a1, a2, a3, af, al⟩ := blk4 b36
    have b41 := blk_far (p := ⟨w2.heap.size, 3, none⟩) b35 (show w.heap.size ≠ w2.heap.size by omega) (.int .i64 k)
    have b42 := blk_set b36 3 (.int .i64 k)
    rw [show (#[.int .i64 x, .int .i64 y, .int .i64 z, .int .i64 u] : Array Value).setIfInBounds 3 (.int .i64 k) = #[.int .i64 x, .int .i64 y, .int .i64 z, .int .i64 k] from rfl] at b42
    have hr43 := rd_setCell (a := ⟨w2.heap.size, 3, none⟩) hr33 (by first | omega | (simp; omega)) (.int .i64 k)
    have g44 := gr_setCell (p := ⟨w2.heap.size, 3, none⟩) g37 (by first | exact Nat.le_refl _ | omega | (simp; omega)) (.int .i64 k)
    clear b35 b36 hr33 g37
    obtain ⟨r0, r1, r2, r3, rf, rl⟩ := blk4 b41
    obtain ⟨q0, q1, q2, q3, qf, ql⟩ := blk4 b42
    have zz := g44.size
    clear b42 b41
    go_wp2
    (try simp only [Exit.inBlock, Exit.then])
    refine bodyPost_ret (v := .agg #[.int .i64 x, .int .i64 y, .int .i64 z, .int .i64 k]) (by simp [results, Try.results69, go_sem, r0, r1, r2, r3]) rfl ?_
    refine ⟨x, y, z, k, p2 + 1 + 1, rfl, by omega, by omega, by omega, by omega, by omega, by omega, by omega, by omega, by omega, ?_, ?_⟩
    · repeat (first | with_reducible exact hr43 | refine rd_setCell ?_ (by first | omega | (simp; omega)) _ | refine rd_drew ?_ | refine rd_alloc ?_ _)
    · repeat (first | with_reducible exact g44 | refine gr_setCell ?_ (by first | exact Nat.le_refl _ | omega | (simp; omega)) _ | refine gr_drew ?_ | refine gr_alloc ?_ _)
  · subst hv
    obtain ⟨a0, a1, a2, a3, af, al⟩ := blk4 b23
    have b28 := blk_far (p := ⟨w2.heap.size, 0, none⟩) b22 (show w.heap.size ≠ w2.heap.size by omega) (.int .i64 999)
    have b29 := blk_set b23 0 (.int .i64 999)
    rw [show (#[.int .i64 x, .int .i64 y, .int .i64 z, .int .i64 u] : Array Value).setIfInBounds 0 (.int .i64 999) = #[.int .i64 999, .int .i64 y, .int .i64 z, .int .i64 u] from rfl] at b29
    have hr30 := rd_setCell (a := ⟨w2.heap.size, 0, none⟩) hr20 (by first | omega | (simp; omega)) (.int .i64 999)
    have g31 := gr_setCell (p := ⟨w2.heap.size, 0, none⟩) g24 (by first | exact Nat.le_refl _ | omega | (simp; omega)) (.int .i64 999)
    clear b22 b23 hr20 g24
    have b32 := blk_far (p := ⟨w2.heap.size, 1, none⟩) b28 (show w.heap.size ≠ w2.heap.size by omega) (.int .i64 999)
    have b33 := blk_set b29 1 (.int .i64 999)
    rw [show (#[.int .i64 999, .int .i64 y, .int .i64 z, .int .i64 u] : Array Value).setIfInBounds 1 (.int .i64 999) = #[.int .i64 999, .int .i64 999, .int .i64 z, .int .i64 u] from rfl] at b33
    have hr34 := rd_setCell (a := ⟨w2.heap.size, 1, none⟩) hr30 (by first | omega | (simp; omega)) (.int .i64 999)
    have g35 := gr_setCell (p := ⟨w2.heap.size, 1, none⟩) g31 (by first | exact Nat.le_refl _ | omega | (simp; omega)) (.int .i64 999)
    clear b28 b29 hr30 g31
    have b36 := blk_far (p := ⟨w2.heap.size, 2, none⟩) b32 (show w.heap.size ≠ w2.heap.size by omega) (.int .i64 1)
    have b37 := blk_set b33 2 (.int .i64 1)
    rw [show (#[.int .i64 999, .int .i64 999, .int .i64 z, .int .i64 u] : Array Value).setIfInBounds 2 (.int .i64 1) = #[.int .i64 999, .int .i64 999, .int .i64 1, .int .i64 u] from rfl] at b37
    have hr38 := rd_setCell (a := ⟨w2.heap.size, 2, none⟩) hr34 (by first | omega | (simp; omega)) (.int .i64 1)
    have g39 := gr_setCell (p := ⟨w2.heap.size, 2, none⟩) g35 (by first | exact Nat.le_refl _ | omega | (simp; omega)) (.int .i64 1)
    clear b32 b33 hr34 g35
    have b40 := blk_far (p := ⟨w2.heap.size, 3, none⟩) b36 (show w.heap.size ≠ w2.heap.size by omega) (.int .i64 1)
    have b41 := blk_set b37 3 (.int .i64 1)
    rw [show (#[.int .i64 999, .int .i64 999, .int .i64 1, .int .i64 u] : Array Value).setIfInBounds 3 (.int .i64 1) = #[.int .i64 999, .int .i64 999, .int .i64 1, .int .i64 1] from rfl] at b41
    have hr42 := rd_setCell (a := ⟨w2.heap.size, 3, none⟩) hr38 (by first | omega | (simp; omega)) (.int .i64 1)
    have g43 := gr_setCell (p := ⟨w2.heap.size, 3, none⟩) g39 (by first | exact Nat.le_refl _ | omega | (simp; omega)) (.int .i64 1)
    clear b36 b37 hr38 g39
    obtain ⟨r0, r1, r2, r3, rf, rl⟩ := blk4 b40
    obtain ⟨q0, q1, q2, q3, qf, ql⟩ := blk4 b41
    have zz := g43.size
    clear b41 b40
    go_wp2
    (try simp only [Exit.inBlock, Exit.then])
    refine bodyPost_ret (v := .agg #[.int .i64 999, .int .i64 999, .int .i64 1, .int .i64 1]) (by simp [results, Try.results69, go_sem, r0, r1, r2, r3]) rfl ?_
    refine ⟨999, 999, 1, 1, p2 + 1, rfl, by omega, by omega, by omega, by omega, by omega, by omega, by omega, by omega, by omega, ?_, ?_⟩
    · repeat (first | with_reducible exact hr42 | refine rd_setCell ?_ (by first | omega | (simp; omega)) _ | refine rd_drew ?_ | refine rd_alloc ?_ _)
    · repeat (first | with_reducible exact g43 | refine gr_setCell ?_ (by first | exact Nat.le_refl _ | omega | (simp; omega)) _ | refine gr_drew ?_ | refine gr_alloc ?_ _)
  · have e0 : (v == 0) = false := by simp [hv.1]
    have e1 : (v == 1) = false := by simp [hv.2.1]
    have e2 : (v == 2) = false := by simp [hv.2.2.1]
    have e3 : (v == 3) = false := by simp [hv.2.2.2]
    clear hv
    obtain ⟨r0, r1, r2, r3, rf, rl⟩ := blk4 b22
    obtain ⟨q0, q1, q2, q3, qf, ql⟩ := blk4 b23
    have zz := g24.size
    clear b23 b22
    go_wp2
    (try simp only [Exit.inBlock, Exit.then])
    refine bodyPost_ret (v := .agg #[.int .i64 x, .int .i64 y, .int .i64 z, .int .i64 u]) (by simp [results, Try.results69, go_sem, r0, r1, r2, r3]) rfl ?_
    refine ⟨x, y, z, u, p2 + 1, rfl, by omega, by omega, by omega, by omega, by omega, by omega, by omega, by omega, by omega, ?_, ?_⟩
    · repeat (first | with_reducible exact hr20 | refine rd_setCell ?_ (by first | omega | (simp; omega)) _ | refine rd_drew ?_ | refine rd_alloc ?_ _)
    · repeat (first | with_reducible exact g24 | refine gr_setCell ?_ (by first | exact Nat.le_refl _ | omega | (simp; omega)) _ | refine gr_drew ?_ | refine gr_alloc ?_ _)
end Go.Proofs.Ytehedhkadjidpab
