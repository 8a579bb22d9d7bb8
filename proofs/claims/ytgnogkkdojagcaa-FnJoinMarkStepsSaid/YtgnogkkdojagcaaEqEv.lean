import Derived.Test.YtgnogkkdojagcaaQb
import Derived.Test.YtgnogkkdojagcaaTyEvent
namespace Go.Proofs.Ytgnogkkdojagcaa
open Go.RowKit
set_option maxHeartbeats 1000000 in
theorem neqEEvent_run (x t : EventR) (w : World) : (binOp .neq 42 (.agg #[.int .i64 x.a0, .int .i64 x.a1, .int .i64 x.a2]) (.agg #[.int .i64 t.a0, .int .i64 t.a1, .int .i64 t.a2])).run Try.prog w = .ok (.bool (!decide (x = t))) w := by
  have e : (x = t) ↔ (x.a0 = t.a0 ∧ x.a1 = t.a1 ∧ x.a2 = t.a2) := by
    constructor
    · rintro rfl; exact ⟨rfl, rfl, rfl⟩
    · rintro ⟨h0, h1, h2⟩; cases x; cases t; simp_all
  have hne : decide (x = t) = decide (x.a0 = t.a0 ∧ x.a1 = t.a1 ∧ x.a2 = t.a2) := decide_eq_decide.2 e
  rw [hne]
  clear hne e
  by_cases h0 : x.a0 = t.a0 <;> by_cases h1 : x.a1 = t.a1 <;> by_cases h2 : x.a2 = t.a2 <;> simp [go_sem, h0, h1, h2]
set_option maxRecDepth 100000 in
set_option maxHeartbeats 2000000 in
theorem equalEvents_same (A B : Option Addr) (c d : Nat) (l : List EventR) (w : World) (ha : Row EventR.enc 3 w A l) (hb : Row EventR.enc 3 w B l) :
    Calls Try.prog 47 #[.slice A l.length c, .slice B l.length d] w fun e w' => e = .returned (.bool true) ∧ Below w.heap.size w w' := by
  have hal := ha.1
  go_enter Try.func47, Try.ntmps47
  go_wp2
  go_loopw [5] (fun i wr => ∃ k : Nat, k ≤ l.length ∧ i = .int .i64 k ∧ Below w.heap.size w wr) (fun i _ => l.length - (intOf i).toNat)
  case atStart => exact ⟨0, Nat.zero_le _, rfl, Below.refl _ _⟩
  case round =>
    obtain ⟨k, hk, rfl, hbw⟩ := hrel
    by_cases hlt : k < l.length
    · obtain ⟨b, off, rfl, hbk, q0, q1, q2⟩ := (ha.keep hbw).atEvent hlt
      obtain ⟨b', off', rfl, hbk', r0, r1, r2⟩ := (hb.keep hbw).atEvent hlt
      generalize l[k] = x at *
      have hne : ∀ W, (binOp .neq 42 (.agg #[.int .i64 x.a0, .int .i64 x.a1, .int .i64 x.a2]) (.agg #[.int .i64 x.a0, .int .i64 x.a1, .int .i64 x.a2])).run Try.prog W = .ok (.bool false) W := fun W => by
        have h := neqEEvent_run x x W
        rwa [decide_eq_true rfl] at h
      have Q0 := Bw.cellOf hbk q0
      have R0 := Bw.cellOf hbk' r0
      have Q1 := Bw.cellOf hbk q1
      have R1 := Bw.cellOf hbk' r1
      have Q2 := Bw.cellOf hbk q2
      have R2 := Bw.cellOf hbk' r2
      have i0 : (0 : Int) ≤ (k : Int) := by omega
      have i1 : (k : Int) < (l.length : Int) := by omega
      have i5 : ((k : Int)).toNat = k := by omega
      go_wp2_with fail
      refine wp_region_quiet_below (by kernel_rfl) (by kernel_rfl) ?_
      repeat (any_goals (go_big_quiet_step (fail)))
      refine wpQuiet_nil ?_
      intro w1 hb1
      have hbw1 := hbw.trans (hb1.mono hbw.size)
      go_wp2
      go_roundw
      case rel => exact ⟨k + 1, by omega, by go_num, hbw1⟩
      case measure => simp [intOf]; omega
    · go_wp2
      all_goals go_returns
      all_goals exact ⟨rfl, hbw⟩
end Go.Proofs.Ytgnogkkdojagcaa
