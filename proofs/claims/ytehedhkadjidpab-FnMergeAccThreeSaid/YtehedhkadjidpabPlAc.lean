import Derived.Test.YtehedhkadjidpabDrAc2
import Derived.Test.YtehedhkadjidpabAvgP
import Derived.Test.YtehedhkadjidpabAdAP
import Derived.Test.YtehedhkadjidpabBo
namespace Go.Proofs.Ytehedhkadjidpab
open Go.RowKit
theorem avg_cases (c s l m : Int) : (avgF c s l m = -1) ∨ (0 ≤ avgF c s l m ∧ l ≤ avgF c s l m ∧ avgF c s l m ≤ m ∧ avgF c s l m * c ≤ s ∧ s < (avgF c s l m + 1) * c ∧ 1 ≤ c ∧ c ≤ 999 ∧ 0 ≤ s ∧ s ≤ 98901 ∧ 0 ≤ avgF c s l m * c ∧ (avgF c s l m + 1) * c ≤ 99900) := by
  unfold avgF
  split
  · rename_i h
    right
    obtain ⟨h, hc⟩ := h
    unfold vAccP at h
    rcases h with h | ⟨h1, h2, h3, h4, h5, h6, h7⟩
    · exact absurd h.1 hc
    · have p1 := prod_bd h1 h2 h3 (by omega : l ≤ 99)
      have p2 := prod_bd h1 h2 (by omega : 0 ≤ m) h5
      have a1 : l ≤ s / c := Int.le_ediv_of_mul_le (by omega) (by rw [Int.mul_comm]; exact h6)
      have a2 : s / c ≤ m := Int.ediv_le_of_le_mul (by omega) (by rw [Int.mul_comm]; exact h7)
      have a3 : s / c * c ≤ s := Int.ediv_mul_le s (by omega)
      have a4 : s < (s / c + 1) * c := Int.lt_ediv_add_one_mul_self s (by omega)
      have a5 : 0 ≤ s / c := by omega
      have a6 : 0 ≤ s / c * c := Int.mul_nonneg a5 (by omega)
      have a7 : (s / c + 1) * c = s / c * c + c := by rw [Int.add_mul]; omega
      exact ⟨a5, a1, a2, a3, a4, h1, h2, by omega, by omega, a6, by omega⟩
  · left; rfl
theorem neq4_same (p q r t : Int) (W : World) : (binOp .neq 48 (.agg #[.int .i64 p, .int .i64 q, .int .i64 r, .int .i64 t]) (.agg #[.int .i64 p, .int .i64 q, .int .i64 r, .int .i64 t])).run Try.prog W = .ok (.bool false) W := by simp [go_sem]
theorem eql4_same (p q r t : Int) (W : World) : (binOp .eql 48 (.agg #[.int .i64 p, .int .i64 q, .int .i64 r, .int .i64 t]) (.agg #[.int .i64 p, .int .i64 q, .int .i64 r, .int .i64 t])).run Try.prog W = .ok (.bool true) W := by simp [go_sem]
theorem mgP_comm {c s l m c2 s2 l2 m2 : Int} : mgP c2 s2 l2 m2 c s l m ↔ mgP c s l m c2 s2 l2 m2 := by unfold mgP; constructor <;> rintro ⟨h1, h2, h3⟩ <;> exact ⟨h2, h1, by omega⟩
theorem mg_comm (c s l m c2 s2 l2 m2 : Int) : MG c2 s2 l2 m2 c s l m = MG c s l m c2 s2 l2 m2 := by
  by_cases h : mgP c s l m c2 s2 l2 m2
  · by_cases hc : c = 0
    · subst hc
      rw [mg_a0 h]
      by_cases hc2 : c2 = 0
      · subst hc2
        have h1 := h.1; have h2 := h.2.1
        unfold vAccP at h1 h2
        rw [mg_a0 (mgP_comm.2 h)]
        obtain ⟨e1, e2, e3⟩ : s = 0 ∧ l = 0 ∧ m = 0 := by omega
        obtain ⟨e4, e5, e6⟩ : s2 = 0 ∧ l2 = 0 ∧ m2 = 0 := by omega
        subst e1 e2 e3 e4 e5 e6; rfl
      · exact mg_b0 hc2 (mgP_comm.2 h)
    · by_cases hc2 : c2 = 0
      · subst hc2; rw [mg_b0 hc h, mg_a0 (mgP_comm.2 h)]
      · rw [mg_ab hc hc2 h, mg_ab hc2 hc (mgP_comm.2 h)]
        unfold MV mnI mxI
        rw [Int.add_comm c2 c, Int.add_comm s2 s, show (if l < l2 then l else l2) = (if l2 < l then l2 else l) by (repeat' split) <;> omega, show (if m2 < m then m else m2) = (if m < m2 then m2 else m) by (repeat' split) <;> omega]
  · rw [mg_no h, mg_no (fun k => h (mgP_comm.1 k))]
theorem mg_zero {c s l m : Int} (h : vAccP c s l m) : MG c s l m 0 0 0 0 = MV c s l m true := by
  have hz : vAccP 0 0 0 0 := .inl ⟨rfl, rfl, rfl, rfl⟩
  have hp : mgP c s l m 0 0 0 0 := ⟨h, hz, by unfold vAccP at h; omega⟩
  by_cases hc : c = 0
  · subst hc
    obtain ⟨e1, e2, e3⟩ : s = 0 ∧ l = 0 ∧ m = 0 := by unfold vAccP at h; omega
    subst e1 e2 e3; exact mg_a0 hp
  · exact mg_b0 hc hp
theorem vAcc_bd {c s l m : Int} (h : vAccP c s l m) : 0 ≤ c ∧ c ≤ 999 ∧ 0 ≤ s ∧ s ≤ 98901 := by
  unfold vAccP at h
  rcases h with ⟨rfl, rfl, rfl, rfl⟩ | ⟨h1, h2, h3, h4, h5, h6, h7⟩
  · omega
  · have p1 := prod_bd h1 h2 h3 (by omega : l ≤ 99)
    have p2 := prod_bd h1 h2 (by omega : 0 ≤ m) h5
    omega
theorem mg_all (c s l m c2 s2 l2 m2 : Int) : ∃ (C S L M : Int) (K : Bool),
    (∀ w, Calls Try.prog 34 #[.agg #[.int .i64 c, .int .i64 s, .int .i64 l, .int .i64 m], .agg #[.int .i64 c2, .int .i64 s2, .int .i64 l2, .int .i64 m2]] w fun e w' => e = .returned (.tuple #[.agg #[.int .i64 C, .int .i64 S, .int .i64 L, .int .i64 M], .bool K]) ∧ Below w.heap.size w w') ∧
    (∀ w, Calls Try.prog 35 #[.agg #[.int .i64 c, .int .i64 s, .int .i64 l, .int .i64 m], .agg #[.int .i64 c2, .int .i64 s2, .int .i64 l2, .int .i64 m2]] w fun e w' => e = .returned (.tuple #[.agg #[.int .i64 C, .int .i64 S, .int .i64 L, .int .i64 M], .bool K]) ∧ Below w.heap.size w w') ∧
    (∀ w, Calls Try.prog 34 #[.agg #[.int .i64 c2, .int .i64 s2, .int .i64 l2, .int .i64 m2], .agg #[.int .i64 c, .int .i64 s, .int .i64 l, .int .i64 m]] w fun e w' => e = .returned (.tuple #[.agg #[.int .i64 C, .int .i64 S, .int .i64 L, .int .i64 M], .bool K]) ∧ Below w.heap.size w w') ∧
    ((K = false ∧ C = 0 ∧ S = 0 ∧ L = 0 ∧ M = 0) ∨ (K = true ∧ C = c + c2 ∧ S = s + s2 ∧ (∀ w, Calls Try.prog 34 #[.agg #[.int .i64 c, .int .i64 s, .int .i64 l, .int .i64 m], .agg #[.int .i64 0, .int .i64 0, .int .i64 0, .int .i64 0]] w fun e w' => e = .returned (.tuple #[.agg #[.int .i64 c, .int .i64 s, .int .i64 l, .int .i64 m], .bool true]) ∧ Below w.heap.size w w') ∧ 0 ≤ c + c2 ∧ c + c2 ≤ 999 ∧ 0 ≤ s + s2 ∧ s + s2 ≤ 1000000)) := by
  refine ⟨mgC c s l m c2 s2 l2 m2, mgS c s l m c2 s2 l2 m2, mgL c s l m c2 s2 l2 m2, mgM c s l m c2 s2 l2 m2, mgK c s l m c2 s2 l2 m2, fun w => mgI_any c s l m c2 s2 l2 m2 w, fun w => mgS_any c s l m c2 s2 l2 m2 w, fun w => by have h := mgI_any c2 s2 l2 m2 c s l m w; rw [mg_comm] at h; exact h, ?_⟩
  by_cases h : mgP c s l m c2 s2 l2 m2
  · have b1 := vAcc_bd h.1
    have b2 := vAcc_bd h.2.1
    have b3 := h.2.2
    refine .inr ⟨by unfold mgK; exact decide_eq_true h, by unfold mgC; rw [if_pos h], by unfold mgS; rw [if_pos h], fun w => ?_, by omega, by omega, by omega, by omega⟩
    have hh := mgI_any c s l m 0 0 0 0 w
    rw [mg_zero h.1] at hh; exact hh
  · exact .inl ⟨by unfold mgK; exact decide_eq_false h, by unfold mgC; rw [if_neg h], by unfold mgS; rw [if_neg h], by unfold mgL; rw [if_neg h], by unfold mgM; rw [if_neg h]⟩
theorem mg_vals {c s l m c2 s2 l2 m2 : Int} (h : mgP c s l m c2 s2 l2 m2) : mgC c s l m c2 s2 l2 m2 = c + c2 ∧ mgS c s l m c2 s2 l2 m2 = s + s2 ∧ mgL c s l m c2 s2 l2 m2 = (if c = 0 then l2 else if c2 = 0 then l else mnI l l2) ∧ mgM c s l m c2 s2 l2 m2 = (if c = 0 then m2 else if c2 = 0 then m else mxI m m2) := by
  unfold mgC mgS mgL mgM; rw [if_pos h, if_pos h, if_pos h, if_pos h]; exact ⟨rfl, rfl, rfl, rfl⟩
theorem mg_valid {c s l m c2 s2 l2 m2 : Int} (h : mgP c s l m c2 s2 l2 m2) : vAccP (mgC c s l m c2 s2 l2 m2) (mgS c s l m c2 s2 l2 m2) (mgL c s l m c2 s2 l2 m2) (mgM c s l m c2 s2 l2 m2) := by
  obtain ⟨e1, e2, e3, e4⟩ := mg_vals h
  rw [e1, e2, e3, e4]
  obtain ⟨h1, h2, h3⟩ := h
  by_cases hc : c = 0
  · have hz : s = 0 := by unfold vAccP at h1; omega
    subst hc hz; rw [if_pos rfl, if_pos rfl, Int.zero_add, Int.zero_add]; exact h2
  · by_cases hc2 : c2 = 0
    · have hz : s2 = 0 := by unfold vAccP at h2; omega
      subst hc2 hz; rw [if_neg hc, if_neg hc, if_pos rfl, if_pos rfl, Int.add_zero, Int.add_zero]; exact h1
    · rw [if_neg hc, if_neg hc, if_neg hc2, if_neg hc2]
      unfold vAccP at h1 h2 ⊢
      rcases h1 with h1 | ⟨a1, a2, a3, a4, a5, a6, a7⟩
      · exact absurd h1.1 hc
      rcases h2 with h2 | ⟨b1, b2, b3, b4, b5, b6, b7⟩
      · exact absurd h2.1 hc2
      have l1 : mnI l l2 ≤ l ∧ mnI l l2 ≤ l2 ∧ 0 ≤ mnI l l2 := by unfold mnI; split <;> omega
      have m1 : m ≤ mxI m m2 ∧ m2 ≤ mxI m m2 ∧ mxI m m2 ≤ 99 := by unfold mxI; split <;> omega
      have q1 : c * mnI l l2 ≤ c * l := Int.mul_le_mul_of_nonneg_left l1.1 (by omega)
      have q2 : c2 * mnI l l2 ≤ c2 * l2 := Int.mul_le_mul_of_nonneg_left l1.2.1 (by omega)
      have q3 : c * m ≤ c * mxI m m2 := Int.mul_le_mul_of_nonneg_left m1.1 (by omega)
      have q4 : c2 * m2 ≤ c2 * mxI m m2 := Int.mul_le_mul_of_nonneg_left m1.2.1 (by omega)
      exact .inr ⟨by omega, h3, l1.2.2, by omega, m1.2.2, by rw [Int.add_mul]; omega, by rw [Int.add_mul]; omega⟩
theorem mg_three (c s l m c2 s2 l2 m2 : Int) : ∃ (C S L M : Int) (K : Bool),
    (∀ w, Calls Try.prog 34 #[.agg #[.int .i64 c, .int .i64 s, .int .i64 l, .int .i64 m], .agg #[.int .i64 c2, .int .i64 s2, .int .i64 l2, .int .i64 m2]] w fun e w' => e = .returned (.tuple #[.agg #[.int .i64 C, .int .i64 S, .int .i64 L, .int .i64 M], .bool K]) ∧ Below w.heap.size w w') ∧
    (∀ w, Calls Try.prog 35 #[.agg #[.int .i64 c, .int .i64 s, .int .i64 l, .int .i64 m], .agg #[.int .i64 c2, .int .i64 s2, .int .i64 l2, .int .i64 m2]] w fun e w' => e = .returned (.tuple #[.agg #[.int .i64 C, .int .i64 S, .int .i64 L, .int .i64 M], .bool K]) ∧ Below w.heap.size w w') ∧
    ((K = false ∧ C = 0 ∧ S = 0 ∧ L = 0 ∧ M = 0) ∨ (K = true ∧ ∃ (D1 D2 D3 D4 : Int) (K1 : Bool) (E1 E2 E3 E4 : Int) (K2 : Bool) (F1 F2 F3 F4 : Int) (K3 : Bool),
      (∀ w, Calls Try.prog 34 #[.agg #[.int .i64 C, .int .i64 S, .int .i64 L, .int .i64 M], .agg #[.int .i64 2, .int .i64 9, .int .i64 2, .int .i64 7]] w fun e w' => e = .returned (.tuple #[.agg #[.int .i64 D1, .int .i64 D2, .int .i64 D3, .int .i64 D4], .bool K1]) ∧ Below w.heap.size w w') ∧
      (∀ w, Calls Try.prog 34 #[.agg #[.int .i64 c2, .int .i64 s2, .int .i64 l2, .int .i64 m2], .agg #[.int .i64 2, .int .i64 9, .int .i64 2, .int .i64 7]] w fun e w' => e = .returned (.tuple #[.agg #[.int .i64 E1, .int .i64 E2, .int .i64 E3, .int .i64 E4], .bool K2]) ∧ Below w.heap.size w w') ∧
      (∀ w, Calls Try.prog 34 #[.agg #[.int .i64 c, .int .i64 s, .int .i64 l, .int .i64 m], .agg #[.int .i64 E1, .int .i64 E2, .int .i64 E3, .int .i64 E4]] w fun e w' => e = .returned (.tuple #[.agg #[.int .i64 F1, .int .i64 F2, .int .i64 F3, .int .i64 F4], .bool K3]) ∧ Below w.heap.size w w') ∧
      (K1 = true → K2 = true ∧ K3 = true ∧ F1 = D1 ∧ F2 = D2 ∧ F3 = D3 ∧ F4 = D4))) := by
  refine ⟨_, _, _, _, _, fun w => mgI_any c s l m c2 s2 l2 m2 w, fun w => mgS_any c s l m c2 s2 l2 m2 w, ?_⟩
  by_cases h : mgP c s l m c2 s2 l2 m2
  · have hv := mg_valid h
    obtain ⟨v1, v2, v3, v4⟩ := mg_vals h
    refine .inr ⟨by unfold mgK; exact decide_eq_true h, _, _, _, _, _, _, _, _, _, _, _, _, _, _, _, fun w => mgI_any _ _ _ _ 2 9 2 7 w, fun w => mgI_any c2 s2 l2 m2 2 9 2 7 w, fun w => mgI_any c s l m _ _ _ _ w, fun hK => ?_⟩
    have hp1 := of_decide_eq_true hK
    have b1 := vAcc_bd h.1
    have b2 := vAcc_bd h.2.1
    have hs1 := hp1.2.2
    rw [v1] at hs1
    have hp2 : mgP c2 s2 l2 m2 2 9 2 7 := ⟨h.2.1, hp1.2.1, by omega⟩
    have hv2 := mg_valid hp2
    obtain ⟨w1, w2, w3, w4⟩ := mg_vals hp2
    have hp3 : mgP c s l m (mgC c2 s2 l2 m2 2 9 2 7) (mgS c2 s2 l2 m2 2 9 2 7) (mgL c2 s2 l2 m2 2 9 2 7) (mgM c2 s2 l2 m2 2 9 2 7) := ⟨h.1, hv2, by rw [w1]; omega⟩
    obtain ⟨x1, x2, x3, x4⟩ := mg_vals hp3
    obtain ⟨y1, y2, y3, y4⟩ := mg_vals hp1
    have hz1 : c = 0 → l = 0 ∧ m = 0 := fun e => by have := h.1; unfold vAccP at this; omega
    have hz2 : c2 = 0 → l2 = 0 ∧ m2 = 0 := fun e => by have := h.2.1; unfold vAccP at this; omega
    refine ⟨by unfold mgK; exact decide_eq_true hp2, by unfold mgK; exact decide_eq_true hp3, ?_, ?_, ?_, ?_⟩
    · rw [x1, y1, v1, w1]; omega
    · rw [x2, y2, v2, w2]; omega
    · rw [x3, y3, v1, v3, w1, w3]; unfold mnI; (repeat' split) <;> omega
    · rw [x4, y4, v1, v4, w1, w4]; unfold mxI; (repeat' split) <;> omega
  · exact .inl ⟨by unfold mgK; exact decide_eq_false h, by unfold mgC; rw [if_neg h], by unfold mgS; rw [if_neg h], by unfold mgL; rw [if_neg h], by unfold mgM; rw [if_neg h]⟩
theorem ad_all (c s l m v : Int) : ∃ (C S L M : Int) (K : Bool),
    (∀ w, Calls Try.prog 37 #[.agg #[.int .i64 c, .int .i64 s, .int .i64 l, .int .i64 m], .int .i64 v] w fun e w' => e = .returned (.tuple #[.agg #[.int .i64 C, .int .i64 S, .int .i64 L, .int .i64 M], .bool K]) ∧ Below w.heap.size w w') ∧
    (∀ w, Calls Try.prog 38 #[.agg #[.int .i64 c, .int .i64 s, .int .i64 l, .int .i64 m], .int .i64 v] w fun e w' => e = .returned (.tuple #[.agg #[.int .i64 C, .int .i64 S, .int .i64 L, .int .i64 M], .bool K]) ∧ Below w.heap.size w w') ∧
    ((K = false ∧ C = 0 ∧ S = 0 ∧ L = 0 ∧ M = 0) ∨ (K = true ∧ C = c + 1 ∧ S = s + v ∧ 0 ≤ c ∧ c ≤ 998 ∧ 0 ≤ s ∧ s ≤ 98901 ∧ 0 ≤ v ∧ v ≤ 99 ∧ L ≤ v ∧ v ≤ M ∧ (c ≠ 0 → L ≤ l ∧ m ≤ M))) := by
  refine ⟨_, _, _, _, _, fun w => adI_any c s l m v w, fun w => adS_any c s l m v w, ?_⟩
  by_cases h : mgP c s l m 1 v v v
  · obtain ⟨e1, e2, e3, e4⟩ := mg_vals h
    have b1 := vAcc_bd h.1
    have b3 := h.2.2
    have b2 : 0 ≤ v ∧ v ≤ 99 := by have := h.2.1; unfold vAccP at this; omega
    refine .inr ⟨by unfold mgK; exact decide_eq_true h, e1, e2, by omega, by omega, by omega, by omega, b2.1, b2.2, ?_, ?_, ?_⟩
    · rw [e3]; unfold mnI; (repeat' split) <;> omega
    · rw [e4]; unfold mxI; (repeat' split) <;> omega
    · intro hc; rw [e3, e4, if_neg hc, if_neg hc, if_neg (by omega), if_neg (by omega)]; unfold mnI mxI; constructor <;> (split <;> omega)
  · exact .inl ⟨by unfold mgK; exact decide_eq_false h, by unfold mgC; rw [if_neg h], by unfold mgS; rw [if_neg h], by unfold mgL; rw [if_neg h], by unfold mgM; rw [if_neg h]⟩
end Go.Proofs.Ytehedhkadjidpab
