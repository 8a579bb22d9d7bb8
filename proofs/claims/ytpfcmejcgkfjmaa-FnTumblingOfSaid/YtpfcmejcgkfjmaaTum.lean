import Derived.Test.YtpfcmejcgkfjmaaSc
namespace Go.Proofs.Ytpfcmejcgkfjmaa
open Go.RowKit
theorem tm_bd (a z : Int) (hz : 0 < z) : -z < a.tmod z ∧ a.tmod z < z := by
  have h1 := Int.tmod_lt_of_pos a hz
  have h2 : -z < a.tmod z := by
    by_cases h : a < 0
    · have : a.tmod z = -((-a).tmod z) := by rw [Int.neg_tmod, Int.neg_neg]
      rw [this]
      have := Int.tmod_lt_of_pos (-a) hz
      omega
    · have := Int.tmod_nonneg z (show 0 ≤ a by omega)
      omega
  exact ⟨h2, h1⟩
theorem tm_em (a z : Int) (hz : 0 < z) : (a.tmod z + z) % z = a % z := by
  have h := Int.tmod_add_mul_tdiv a z
  have e : a.tmod z + z = a + z * (1 - a.tdiv z) := by rw [Int.mul_sub]; omega
  rw [e, Int.add_mul_emod_self_left]
theorem td_ed (a z : Int) (hz : 0 < z) : (if a.tmod z < 0 then a.tdiv z - 1 else a.tdiv z) = a / z := by
  have h := Int.tmod_add_mul_tdiv a z
  obtain ⟨b1, b2⟩ := tm_bd a z hz
  generalize a.tmod z = r at *
  generalize a.tdiv z = q at *
  subst h
  rw [Int.add_mul_ediv_left _ _ (by omega)]
  split
  · have hr : r / z = -1 := by
      have e : r = (r + z) + z * (-1) := by omega
      rw [e, Int.add_mul_ediv_left _ _ (by omega), Int.ediv_eq_zero_of_lt (by omega) (by omega)]
      rfl
    omega
  · rw [Int.ediv_eq_zero_of_lt (by omega) (by omega)]
    omega

set_option maxRecDepth 100000 in
set_option maxHeartbeats 1000000 in
theorem floorTo_any (x z : Int) (w : World) (h0 : -1000 ≤ x) (h1 : x ≤ 1000) (z0 : 1 ≤ z) (z1 : z ≤ 999) : Calls Try.prog 38 #[.int .i64 x, .int .i64 z] w
    fun e w' => e = .returned (.int .i64 (x - x % z)) ∧ w = w' := by
  obtain ⟨b1, b2⟩ := tm_bd x z (by omega)
  have e0 := tm_em x z (by omega)
  have E0 := Lib.hid e0
  clear e0
  have b3 := Int.emod_nonneg (x.tmod z + z) (show z ≠ 0 by omega)
  have b4 := Int.emod_lt_of_pos (x.tmod z + z) (show 0 < z by omega)
  go_enter Try.func38, Try.ntmps38
  go_wp2
  all_goals go_returns
  all_goals refine ⟨ret_int ?_, rfl⟩
  all_goals
    rw [← E0.out]
    try rfl
    try (clear E0; go_arith)

set_option maxRecDepth 100000 in
set_option maxHeartbeats 1000000 in
theorem floorDiv_any (x z : Int) (w : World) (h0 : -1000 ≤ x) (h1 : x ≤ 1000) (z0 : 1 ≤ z) (z1 : z ≤ 999) : Calls Try.prog 35 #[.int .i64 x, .int .i64 z] w
    fun e w' => e = .returned (.int .i64 (x / z)) ∧ w = w' := by
  have e0 := td_ed x z (by omega)
  have E0 := Lib.hid e0
  clear e0
  have hd := Int.tmod_add_mul_tdiv x z
  obtain ⟨b1, b2⟩ := tm_bd x z (by omega)
  have b3 : -2000 ≤ x.tdiv z ∧ x.tdiv z ≤ 2000 := by
    have q := Int.natAbs_tdiv_le_natAbs x z
    omega
  clear hd
  go_enter Try.func35, Try.ntmps35
  go_wp2
  all_goals go_returns
  all_goals refine ⟨ret_int ?_, rfl⟩
  all_goals
    rw [← E0.out]
    clear E0
    split <;> go_arith

set_option maxRecDepth 100000 in
set_option maxHeartbeats 2000000 in
theorem tumI_any (t z o : Int) (w : World)  : Calls Try.prog 13 #[.int .i64 t, .int .i64 z, .int .i64 o] w
    fun e w' => e = .returned (.tuple #[.agg #[.int .i64 (tumS t z o), .int .i64 (tumE t z o)], .bool (tumK t z o)]) ∧ Below w.heap.size w w' := by
  by_cases hv : tumV t z o
  · have hS : tumS t z o = t - (t - o) % z := by unfold tumS; rw [if_pos hv]
    have hE : tumE t z o = t - (t - o) % z + z := by unfold tumE; rw [if_pos hv]
    have hK : tumK t z o = true := by unfold tumK; exact decide_eq_true hv
    rw [hS, hE, hK]
    clear hS hE hK
    obtain ⟨a1, a2, a3, a4, a5, a6⟩ := hv
    have m0 := Int.emod_nonneg (t - o) (show z ≠ 0 by omega)
    have m1 := Int.emod_lt_of_pos (t - o) (show 0 < z by omega)
    go_enter Try.func13, Try.ntmps13
    go_wp2_with (first | (go_at_call 38; refine (floorTo_any _ _ _ (by omega) (by omega) (by omega) (by omega)).mono ?_; rintro e w1 ⟨rfl, rfl⟩) | go_in)
    all_goals go_returns
    all_goals refine ⟨ret_tup2 (agg2_eq ?_ ?_) rfl, by go_grown⟩
    all_goals go_arith
  · have hS : tumS t z o = 0 := by unfold tumS; rw [if_neg hv]
    have hE : tumE t z o = 0 := by unfold tumE; rw [if_neg hv]
    have hK : tumK t z o = false := by unfold tumK; exact decide_eq_false hv
    rw [hS, hE, hK]
    clear hS hE hK
    unfold tumV at hv
    go_enter Try.func13, Try.ntmps13
    go_wp2_with (first | (go_at_call 38; exfalso; apply hv; clear hv; first | omega | (simp only [Bool.not_eq_eq_eq_not, Bool.not_true, Bool.not_false, decide_eq_false_iff_not, decide_eq_true_eq] at *; omega)) | go_in)
    all_goals first | (go_returns; exact ⟨rfl, by go_grown⟩) | (exfalso; apply hv; clear hv; first | omega | (simp only [Bool.not_eq_eq_eq_not, Bool.not_true, Bool.not_false, decide_eq_false_iff_not, decide_eq_true_eq] at *; omega))

set_option maxRecDepth 100000 in
set_option maxHeartbeats 2000000 in
theorem tumS_any (t z o : Int) (w : World)  : Calls Try.prog 12 #[.int .i64 t, .int .i64 z, .int .i64 o] w
    fun e w' => e = .returned (.tuple #[.agg #[.int .i64 (tumS t z o), .int .i64 (tumE t z o)], .bool (tumK t z o)]) ∧ Below w.heap.size w w' := by
  by_cases hv : tumV t z o
  · have hS : tumS t z o = t - (t - o) % z := by unfold tumS; rw [if_pos hv]
    have hE : tumE t z o = t - (t - o) % z + z := by unfold tumE; rw [if_pos hv]
    have hK : tumK t z o = true := by unfold tumK; exact decide_eq_true hv
    rw [hS, hE, hK]
    clear hS hE hK
    obtain ⟨a1, a2, a3, a4, a5, a6⟩ := hv
    have m0 := Int.emod_nonneg (t - o) (show z ≠ 0 by omega)
    have m1 := Int.emod_lt_of_pos (t - o) (show 0 < z by omega)
    have m2 : (t - o) / z * z = t - o - (t - o) % z := by have := Int.emod_add_mul_ediv (t - o) z; rw [Int.mul_comm z] at this; omega
    have m3 : -2000 ≤ (t - o) / z * z := by omega
    have m4 : (t - o) / z * z ≤ 1000 := by omega
    have M2 := Lib.hid m2
    clear m2
    go_enter Try.func12, Try.ntmps12
    go_wp2_with (first | (go_at_call 35; refine (floorDiv_any _ _ _ (by omega) (by omega) (by omega) (by omega)).mono ?_; rintro e w1 ⟨rfl, rfl⟩) | go_in)
    all_goals go_returns
    all_goals refine ⟨ret_tup2 (agg2_eq ?_ ?_) rfl, by go_grown⟩
    all_goals (have m2 := M2.out; clear M2; go_arith)
  · have hS : tumS t z o = 0 := by unfold tumS; rw [if_neg hv]
    have hE : tumE t z o = 0 := by unfold tumE; rw [if_neg hv]
    have hK : tumK t z o = false := by unfold tumK; exact decide_eq_false hv
    rw [hS, hE, hK]
    clear hS hE hK
    unfold tumV at hv
    go_enter Try.func12, Try.ntmps12
    go_wp2_with (first | (go_at_call 35; exfalso; apply hv; clear hv; first | omega | (simp only [Bool.not_eq_eq_eq_not, Bool.not_true, Bool.not_false, decide_eq_false_iff_not, decide_eq_true_eq] at *; omega)) | go_in)
    all_goals first | (go_returns; exact ⟨rfl, by go_grown⟩) | (exfalso; apply hv; clear hv; first | omega | (simp only [Bool.not_eq_eq_eq_not, Bool.not_true, Bool.not_false, decide_eq_false_iff_not, decide_eq_true_eq] at *; omega))

end Go.Proofs.Ytpfcmejcgkfjmaa
