import Derived.Test.YtgnogkkdojagcaaQb
import Derived.Test.YtgnogkkdojagcaaTyPair
namespace Go.Proofs.Ytgnogkkdojagcaa
open Go.RowKit
set_option maxHeartbeats 1000000 in
theorem neqEPair_run (x t : PairR) (w : World) : (binOp .neq 44 (.agg #[.int .i64 x.a0, .int .i64 x.a1, .int .i64 x.a2, .int .i64 x.a3, .int .i64 x.a4, .int .i64 x.a5]) (.agg #[.int .i64 t.a0, .int .i64 t.a1, .int .i64 t.a2, .int .i64 t.a3, .int .i64 t.a4, .int .i64 t.a5])).run Try.prog w = .ok (.bool (!decide (x = t))) w := by
  have e : (x = t) ↔ (x.a0 = t.a0 ∧ x.a1 = t.a1 ∧ x.a2 = t.a2 ∧ x.a3 = t.a3 ∧ x.a4 = t.a4 ∧ x.a5 = t.a5) := by
    constructor
    · rintro rfl; exact ⟨rfl, rfl, rfl, rfl, rfl, rfl⟩
    · rintro ⟨h0, h1, h2, h3, h4, h5⟩; cases x; cases t; simp_all
  have hne : decide (x = t) = decide (x.a0 = t.a0 ∧ x.a1 = t.a1 ∧ x.a2 = t.a2 ∧ x.a3 = t.a3 ∧ x.a4 = t.a4 ∧ x.a5 = t.a5) := decide_eq_decide.2 e
  rw [hne]
  clear hne e
  by_cases h0 : x.a0 = t.a0 <;> by_cases h1 : x.a1 = t.a1 <;> by_cases h2 : x.a2 = t.a2 <;> by_cases h3 : x.a3 = t.a3 <;> by_cases h4 : x.a4 = t.a4 <;> by_cases h5 : x.a5 = t.a5 <;> simp [go_sem, h0, h1, h2, h3, h4, h5]
set_option maxRecDepth 100000 in
set_option maxHeartbeats 2000000 in
theorem equalPairs_same (A B : Option Addr) (c d : Nat) (l : List PairR) (w : World) (ha : Row PairR.enc 6 w A l) (hb : Row PairR.enc 6 w B l) :
    Calls Try.prog 15 #[.slice A l.length c, .slice B l.length d] w fun e w' => e = .returned (.bool true) ∧ Below w.heap.size w w' := by
  have hal := ha.1
  go_enter Try.func15, Try.ntmps15
  go_wp2
  go_loopw [5] (fun i wr => ∃ k : Nat, k ≤ l.length ∧ i = .int .i64 k ∧ Below w.heap.size w wr) (fun i _ => l.length - (intOf i).toNat)
  case atStart => exact ⟨0, Nat.zero_le _, rfl, Below.refl _ _⟩
  case round =>
    obtain ⟨k, hk, rfl, hbw⟩ := hrel
    by_cases hlt : k < l.length
    · obtain ⟨b, off, rfl, hbk, q0, q1, q2, q3, q4, q5⟩ := (ha.keep hbw).atPair hlt
      obtain ⟨b', off', rfl, hbk', r0, r1, r2, r3, r4, r5⟩ := (hb.keep hbw).atPair hlt
      generalize l[k] = x at *
      have hne : ∀ W, (binOp .neq 44 (.agg #[.int .i64 x.a0, .int .i64 x.a1, .int .i64 x.a2, .int .i64 x.a3, .int .i64 x.a4, .int .i64 x.a5]) (.agg #[.int .i64 x.a0, .int .i64 x.a1, .int .i64 x.a2, .int .i64 x.a3, .int .i64 x.a4, .int .i64 x.a5])).run Try.prog W = .ok (.bool false) W := fun W => by
        have h := neqEPair_run x x W
        rwa [decide_eq_true rfl] at h
      have Q0 := Bw.cellOf hbk q0
      have R0 := Bw.cellOf hbk' r0
      have Q1 := Bw.cellOf hbk q1
      have R1 := Bw.cellOf hbk' r1
      have Q2 := Bw.cellOf hbk q2
      have R2 := Bw.cellOf hbk' r2
      have Q3 := Bw.cellOf hbk q3
      have R3 := Bw.cellOf hbk' r3
      have Q4 := Bw.cellOf hbk q4
      have R4 := Bw.cellOf hbk' r4
      have Q5 := Bw.cellOf hbk q5
      have R5 := Bw.cellOf hbk' r5
      have i0 : (0 : Int) ≤ (k : Int) := by omega
      have i1 : (k : Int) < (l.length : Int) := by omega
      have i5 : ((k : Int)).toNat = k := by omega
      go_wp2_with fail
      refine wp_region_quiet_below (by kernel_rfl) (by kernel_rfl) ?_
      repeat (any_goals (go_big_quiet_step (fail)))
      refine wpQuiet_nil ?_
      intro w1 hb1
      have hbw1 := hbw.trans (hb1.mono hbw.size)
      go_wp2
      go_roundw
      case rel => exact ⟨k + 1, by omega, by go_num, hbw1⟩
      case measure => simp [intOf]; omega
    · go_wp2
      all_goals go_returns
      all_goals exact ⟨rfl, hbw⟩
set_option maxHeartbeats 1000000 in
theorem eqE6_run (x t : PairR) (w : World) : (binOp .eql 44 (.agg #[.int .i64 x.a0, .int .i64 x.a1, .int .i64 x.a2, .int .i64 x.a3, .int .i64 x.a4, .int .i64 x.a5]) (.agg #[.int .i64 t.a0, .int .i64 t.a1, .int .i64 t.a2, .int .i64 t.a3, .int .i64 t.a4, .int .i64 t.a5])).run Try.prog w = .ok (.bool (decide (x = t))) w := by
  have e : (x = t) ↔ (x.a0 = t.a0 ∧ x.a1 = t.a1 ∧ x.a2 = t.a2 ∧ x.a3 = t.a3 ∧ x.a4 = t.a4 ∧ x.a5 = t.a5) := by
    constructor
    · rintro rfl; exact ⟨rfl, rfl, rfl, rfl, rfl, rfl⟩
    · rintro ⟨h0, h1, h2, h3, h4, h5⟩; cases x; cases t; simp_all
  have hne : decide (x = t) = decide (x.a0 = t.a0 ∧ x.a1 = t.a1 ∧ x.a2 = t.a2 ∧ x.a3 = t.a3 ∧ x.a4 = t.a4 ∧ x.a5 = t.a5) := decide_eq_decide.2 e
  rw [hne]
  clear hne e
  by_cases h0 : x.a0 = t.a0 <;> by_cases h1 : x.a1 = t.a1 <;> by_cases h2 : x.a2 = t.a2 <;> by_cases h3 : x.a3 = t.a3 <;> by_cases h4 : x.a4 = t.a4 <;> by_cases h5 : x.a5 = t.a5 <;> simp [go_sem, h0, h1, h2, h3, h4, h5]
set_option maxRecDepth 100000 in
set_option maxHeartbeats 2000000 in
theorem hasPair_t (A : Option Addr) (c : Nat) (l : List PairR) (p : PairR) (hp : p ∈ l) (w : World) (ha : Row PairR.enc 6 w A l) :
    Calls Try.prog 17 #[.slice A l.length c, .agg #[.int .i64 p.a0, .int .i64 p.a1, .int .i64 p.a2, .int .i64 p.a3, .int .i64 p.a4, .int .i64 p.a5]] w fun e w' => e = .returned (.bool true) ∧ Below w.heap.size w w' := by
  have hal := ha.1
  have hB : Below w.heap.size w (w.alloc (.cells #[.int .i64 p.a0, .int .i64 p.a1, .int .i64 p.a2, .int .i64 p.a3, .int .i64 p.a4, .int .i64 p.a5] 44)) := (Below.refl _ _).alloc (Nat.le_refl _) _
  have m0 : (w.alloc (.cells #[.int .i64 p.a0, .int .i64 p.a1, .int .i64 p.a2, .int .i64 p.a3, .int .i64 p.a4, .int .i64 p.a5] 44)).cell? ⟨w.heap.size, 0, none⟩ = some (.int .i64 p.a0) := by simp [go_sem]
  have m1 : (w.alloc (.cells #[.int .i64 p.a0, .int .i64 p.a1, .int .i64 p.a2, .int .i64 p.a3, .int .i64 p.a4, .int .i64 p.a5] 44)).cell? ⟨w.heap.size, 1, none⟩ = some (.int .i64 p.a1) := by simp [go_sem]
  have m2 : (w.alloc (.cells #[.int .i64 p.a0, .int .i64 p.a1, .int .i64 p.a2, .int .i64 p.a3, .int .i64 p.a4, .int .i64 p.a5] 44)).cell? ⟨w.heap.size, 2, none⟩ = some (.int .i64 p.a2) := by simp [go_sem]
  have m3 : (w.alloc (.cells #[.int .i64 p.a0, .int .i64 p.a1, .int .i64 p.a2, .int .i64 p.a3, .int .i64 p.a4, .int .i64 p.a5] 44)).cell? ⟨w.heap.size, 3, none⟩ = some (.int .i64 p.a3) := by simp [go_sem]
  have m4 : (w.alloc (.cells #[.int .i64 p.a0, .int .i64 p.a1, .int .i64 p.a2, .int .i64 p.a3, .int .i64 p.a4, .int .i64 p.a5] 44)).cell? ⟨w.heap.size, 4, none⟩ = some (.int .i64 p.a4) := by simp [go_sem]
  have m5 : (w.alloc (.cells #[.int .i64 p.a0, .int .i64 p.a1, .int .i64 p.a2, .int .i64 p.a3, .int .i64 p.a4, .int .i64 p.a5] 44)).cell? ⟨w.heap.size, 5, none⟩ = some (.int .i64 p.a5) := by simp [go_sem]
  have hml : w.heap.size < (w.alloc (.cells #[.int .i64 p.a0, .int .i64 p.a1, .int .i64 p.a2, .int .i64 p.a3, .int .i64 p.a4, .int .i64 p.a5] 44)).heap.size := by simp
  have ha0 := ha.keep hB
  go_enter Try.func17, Try.ntmps17
  go_wp2_with fail
  generalize w.alloc (.cells #[.int .i64 p.a0, .int .i64 p.a1, .int .i64 p.a2, .int .i64 p.a3, .int .i64 p.a4, .int .i64 p.a5] 44) = wA at *
  go_loopw [5] (fun i wr => ∃ k : Nat, k ≤ l.length ∧ i = .int .i64 k ∧ p ∈ l.drop k ∧ Below wA.heap.size wA wr) (fun i _ => l.length - (intOf i).toNat)
  case atStart => exact ⟨0, Nat.zero_le _, rfl, by simpa using hp, Below.refl _ _⟩
  case round =>
    obtain ⟨k, hk, rfl, he, hbw⟩ := hrel
    have hlt : k < l.length := by
      rcases Nat.lt_or_ge k l.length with h | h
      · exact h
      · rw [List.drop_of_length_le h] at he; exact absurd he (by simp)
    obtain ⟨b, off, rfl, hbk, q0, q1, q2, q3, q4, q5⟩ := (ha0.keep hbw).atPair hlt
    have hd : l.drop k = l[k] :: l.drop (k + 1) := List.drop_eq_getElem_cons hlt
    rw [hd] at he
    generalize l[k] = x at *
    have hbl : w.heap.size < wr.heap.size := Nat.lt_of_lt_of_le hml hbw.size
    have n0 := (hbw.cell (p := ⟨w.heap.size, 0, none⟩) hml).trans m0
    have n1 := (hbw.cell (p := ⟨w.heap.size, 1, none⟩) hml).trans m1
    have n2 := (hbw.cell (p := ⟨w.heap.size, 2, none⟩) hml).trans m2
    have n3 := (hbw.cell (p := ⟨w.heap.size, 3, none⟩) hml).trans m3
    have n4 := (hbw.cell (p := ⟨w.heap.size, 4, none⟩) hml).trans m4
    have n5 := (hbw.cell (p := ⟨w.heap.size, 5, none⟩) hml).trans m5
    have Q0 := Bw.cellOf hbk q0
    have N0 := Bw.cellOf hbl n0
    have Q1 := Bw.cellOf hbk q1
    have N1 := Bw.cellOf hbl n1
    have Q2 := Bw.cellOf hbk q2
    have N2 := Bw.cellOf hbl n2
    have Q3 := Bw.cellOf hbk q3
    have N3 := Bw.cellOf hbl n3
    have Q4 := Bw.cellOf hbk q4
    have N4 := Bw.cellOf hbl n4
    have Q5 := Bw.cellOf hbk q5
    have N5 := Bw.cellOf hbl n5
    have i0 : (0 : Int) ≤ (k : Int) := by omega
    have i1 : (k : Int) < (l.length : Int) := by omega
    have i5 : ((k : Int)).toNat = k := by omega
    clear hd
    by_cases h1 : x = p
    · have hr : ∀ W, (binOp .eql 44 (.agg #[.int .i64 x.a0, .int .i64 x.a1, .int .i64 x.a2, .int .i64 x.a3, .int .i64 x.a4, .int .i64 x.a5]) (.agg #[.int .i64 p.a0, .int .i64 p.a1, .int .i64 p.a2, .int .i64 p.a3, .int .i64 p.a4, .int .i64 p.a5])).run Try.prog W = .ok (.bool true) W := fun W => by
        have h := eqE6_run x p W
        rwa [decide_eq_true h1] at h
      clear h1 he
      go_wp2_with fail
      refine wp_region_quiet_below (by kernel_rfl) (by kernel_rfl) ?_
      repeat (any_goals (go_big_quiet_step (fail)))
      refine wpQuiet_nil ?_
      intro w1 hb1
      have hbw1 := hbw.trans (hb1.mono hbw.size)
      go_wp2
      all_goals go_returns
      all_goals exact ⟨rfl, hB.trans (hbw1.mono hB.size)⟩
    · have he2 : p ∈ l.drop (k + 1) := by
        rcases List.mem_cons.1 he with h | h
        · exact absurd h.symm h1
        · exact h
      have hr : ∀ W, (binOp .eql 44 (.agg #[.int .i64 x.a0, .int .i64 x.a1, .int .i64 x.a2, .int .i64 x.a3, .int .i64 x.a4, .int .i64 x.a5]) (.agg #[.int .i64 p.a0, .int .i64 p.a1, .int .i64 p.a2, .int .i64 p.a3, .int .i64 p.a4, .int .i64 p.a5])).run Try.prog W = .ok (.bool false) W := fun W => by
        have h := eqE6_run x p W
        rwa [decide_eq_false h1] at h
      have He := Lib.hid he2
      clear h1 he he2
      go_wp2_with fail
      refine wp_region_quiet_below (by kernel_rfl) (by kernel_rfl) ?_
      repeat (any_goals (go_big_quiet_step (fail)))
      refine wpQuiet_nil ?_
      intro w1 hb1
      have hbw1 := hbw.trans (hb1.mono hbw.size)
      go_wp2
      go_roundw
      case rel => exact ⟨k + 1, by omega, by go_num, He.out, hbw1⟩
      case measure => simp [intOf]; omega
end Go.Proofs.Ytgnogkkdojagcaa
