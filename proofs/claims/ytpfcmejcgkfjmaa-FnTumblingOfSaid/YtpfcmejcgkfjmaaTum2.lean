import Derived.Test.YtpfcmejcgkfjmaaOne
import Derived.Test.YtpfcmejcgkfjmaaTum
namespace Go.Proofs.Ytpfcmejcgkfjmaa
open Go.RowKit
def III (w : World) (e : Ending) (w' : World) : Prop :=
  ∃ t z o : Int, e = .returned (.tuple #[.int .i64 t, .int .i64 z, .int .i64 o]) ∧ -1 ≤ t ∧ t ≤ 1000 ∧ 0 ≤ z ∧ z ≤ 1000 ∧ -1 ≤ o ∧ o ≤ 1000 ∧ Below w.heap.size w w'

set_option maxHeartbeats 1000000 in
theorem drawTumblingOf_any (w : World) (a : Option Addr) (len cap : Nat) (z : List Int) (h : IsRow .u8 w a len cap z) (hl : len ≤ 1048576) :
    Calls Try.prog 33 #[.slice a len cap] w (III w) := by
  go_enter Try.func33, Try.ntmps33
  have g1 := Below.refl w.heap.size w
  have ir2 := isRow_keep h g1
  clear h
  go_wp2_with fail
  refine (newReader_any _ a len cap z ir2 hl).mono ?_
  rintro e w1 ⟨R, rfl, hR, hrN, hbN⟩
  have g4 := g1.trans (hbN.mono (by omega))
  have lt5 := rd_lt hrN
  have sz6 := g4.size
  clear ir2 g1 hbN
  have b7 := heap_alloc_new w1 (.cells #[.int .i64 0, .int .i64 3, .int .i64 7, .int .i64 12, .int .i64 25, .int .i64 30, .int .i64 999, .int .i64 1000, .int .i64 (-1)] 3)
  have hr8 := rd_alloc hrN (.cells #[.int .i64 0, .int .i64 3, .int .i64 7, .int .i64 12, .int .i64 25, .int .i64 30, .int .i64 999, .int .i64 1000, .int .i64 (-1)] 3)
  have g9 := g4.alloc (by have := g4.size; first | exact this | (simp; omega) | omega) (.cells #[.int .i64 0, .int .i64 3, .int .i64 7, .int .i64 12, .int .i64 25, .int .i64 30, .int .i64 999, .int .i64 1000, .int .i64 (-1)] 3)
  clear hrN g4
  go_wp2_with fail
  refine (oneL_any [0, 3, 7, 12, 25, 30, 999, 1000, -1] _ R (0) 9 hr8 (by omega) (w1.heap.size) _ b7 rfl rfl (by omega) (by omega) (by omega)).mono ?_
  rintro e w2 ⟨t, t_m, rfl, hr10, hg11⟩
  have g12 := g9.trans (gr_of_below (B := w.heap.size) hg11 (by have := g9.size; first | exact this | (simp; omega) | omega) (by omega))
  have lt13 := rd_lt hr10
  clear hg11 hr8 g9
  have t_b : -1 ≤ t ∧ t ≤ 1000 := by simp at t_m; omega
  clear t_m
  clear b7
  have b14 := heap_alloc_new w2 (.cells #[.int .i64 5, .int .i64 10, .int .i64 7, .int .i64 1, .int .i64 999, .int .i64 1000, .int .i64 0, .int .i64 3] 3)
  have hr15 := rd_alloc hr10 (.cells #[.int .i64 5, .int .i64 10, .int .i64 7, .int .i64 1, .int .i64 999, .int .i64 1000, .int .i64 0, .int .i64 3] 3)
  have g16 := g12.alloc (by have := g12.size; first | exact this | (simp; omega) | omega) (.cells #[.int .i64 5, .int .i64 10, .int .i64 7, .int .i64 1, .int .i64 999, .int .i64 1000, .int .i64 0, .int .i64 3] 3)
  clear hr10 g12
  go_wp2_with fail
  refine (oneL_any [5, 10, 7, 1, 999, 1000, 0, 3] _ R (0 + 1) 8 hr15 (by omega) (w2.heap.size) _ b14 rfl rfl (by omega) (by omega) (by omega)).mono ?_
  rintro e w3 ⟨z, z_m, rfl, hr17, hg18⟩
  have g19 := g16.trans (gr_of_below (B := w.heap.size) hg18 (by have := g16.size; first | exact this | (simp; omega) | omega) (by omega))
  have lt20 := rd_lt hr17
  clear hg18 hr15 g16
  have z_b : 0 ≤ z ∧ z ≤ 1000 := by simp at z_m; omega
  clear z_m
  clear b14
  have b21 := heap_alloc_new w3 (.cells #[.int .i64 0, .int .i64 1, .int .i64 2, .int .i64 (z - 1), .int .i64 z, .int .i64 (-1), .int .i64 0] 3)
  have hr22 := rd_alloc hr17 (.cells #[.int .i64 0, .int .i64 1, .int .i64 2, .int .i64 (z - 1), .int .i64 z, .int .i64 (-1), .int .i64 0] 3)
  have g23 := g19.alloc (by have := g19.size; first | exact this | (simp; omega) | omega) (.cells #[.int .i64 0, .int .i64 1, .int .i64 2, .int .i64 (z - 1), .int .i64 z, .int .i64 (-1), .int .i64 0] 3)
  clear hr17 g19
  go_wp2_with fail
  refine (oneL_any [0, 1, 2, (z - 1), z, -1, 0] _ R (0 + 1 + 1) 7 hr22 (by omega) (w3.heap.size) _ b21 rfl rfl (by omega) (by omega) (by omega)).mono ?_
  rintro e w4 ⟨o, o_m, rfl, hr24, hg25⟩
  have g26 := g23.trans (gr_of_below (B := w.heap.size) hg25 (by have := g23.size; first | exact this | (simp; omega) | omega) (by omega))
  have lt27 := rd_lt hr24
  clear hg25 hr22 g23
  clear b21
  have o_b : -1 ≤ o ∧ o ≤ 1000 := by simp at o_m; omega
  clear o_m
  go_wp2
  go_returns
  exact ⟨t, z, o, rfl, by omega, by omega, by omega, by omega, by omega, by omega, by first | exact g26 | go_grown⟩

def TC (f : Nat) (t z o s d : Int) (k : Bool) : Prop := ∀ w : World, Calls Try.prog f #[.int .i64 t, .int .i64 z, .int .i64 o] w fun e w' => e = .returned (.tuple #[.agg #[.int .i64 s, .int .i64 d], .bool k]) ∧ Below w.heap.size w w'
def HC (s d t : Int) : Prop := ∀ w : World, Calls Try.prog 17 #[.agg #[.int .i64 s, .int .i64 d], .int .i64 t] w fun e w' => e = .returned (.bool true) ∧ Below w.heap.size w w'
theorem tum_pos {t z o : Int} (hv : tumV t z o) : tumS t z o = t - (t - o) % z ∧ tumE t z o = t - (t - o) % z + z ∧ tumK t z o = true := by
  unfold tumS tumE tumK
  rw [if_pos hv, if_pos hv]
  exact ⟨rfl, rfl, decide_eq_true hv⟩
theorem tum_neg {t z o : Int} (hv : ¬ tumV t z o) : tumS t z o = 0 ∧ tumE t z o = 0 ∧ tumK t z o = false := by
  unfold tumS tumE tumK
  rw [if_neg hv, if_neg hv]
  exact ⟨rfl, rfl, decide_eq_false hv⟩
theorem tum_two (t z o : Int) : (TC 13 t z o 0 0 false ∧ TC 12 t z o 0 0 false) ∨
    ∃ r : Int, 0 ≤ r ∧ r < z ∧ 0 ≤ t ∧ t ≤ 999 ∧ z ≤ 999 ∧ TC 13 t z o (t - r) (t - r + z) true ∧ TC 12 t z o (t - r) (t - r + z) true ∧
      HC (t - r) (t - r + z) t ∧ (t + z ≤ 999 → TC 13 (t + z) z o (t - r + z) (t - r + z + z) true) := by
  by_cases hv : tumV t z o
  · right
    obtain ⟨e1, e2, e3⟩ := tum_pos hv
    have hv' := hv
    unfold tumV at hv'
    have r0 := Int.emod_nonneg (t - o) (show z ≠ 0 by omega)
    have r1 := Int.emod_lt_of_pos (t - o) (show 0 < z by omega)
    refine ⟨(t - o) % z, r0, r1, by omega, by omega, by omega, fun w => ?_, fun w => ?_, fun w => ?_, fun h w => ?_⟩
    · exact (tumI_any t z o w).mono fun e w' h => by rw [e1, e2, e3] at h; exact h
    · exact (tumS_any t z o w).mono fun e w' h => by rw [e1, e2, e3] at h; exact h
    · refine (hasI_any (t - (t - o) % z) (t - (t - o) % z + z) t w).mono fun e w' h => ?_
      have : hasF (t - (t - o) % z) (t - (t - o) % z + z) t = true := by unfold hasF winV; exact decide_eq_true (by omega)
      rw [this] at h; exact h
    · have hv2 : tumV (t + z) z o := by unfold tumV; omega
      obtain ⟨f1, f2, f3⟩ := tum_pos hv2
      have em : (t + z - o) % z = (t - o) % z := by
        have : t + z - o = (t - o) + z := by omega
        rw [this, Int.add_emod_right]
      refine (tumI_any (t + z) z o w).mono fun e w' h => ?_
      rw [f1, f2, f3, em] at h
      have q : t + z - (t - o) % z = t - (t - o) % z + z := by omega
      rw [q] at h
      exact h
  · left
    obtain ⟨e1, e2, e3⟩ := tum_neg hv
    exact ⟨fun w => (tumI_any t z o w).mono fun e w' h => by rw [e1, e2, e3] at h; exact h, fun w => (tumS_any t z o w).mono fun e w' h => by rw [e1, e2, e3] at h; exact h⟩

end Go.Proofs.Ytpfcmejcgkfjmaa
