import Derived.Test.YtcpjidbinhfapabChF
namespace Go.Proofs.Ytcpjidbinhfapab
open Go.RowKit
set_option maxHeartbeats 1000000 in
theorem neqIt_run (x t : ItemR) (w : World) : (binOp .neq 32 (.agg #[.int .i64 x.a0, .int .i64 x.a1]) (.agg #[.int .i64 t.a0, .int .i64 t.a1])).run Try.prog w = .ok (.bool (!decide (x = t))) w := by
  have e : (x = t) ↔ (x.a0 = t.a0 ∧ x.a1 = t.a1) := by
    constructor
    · rintro rfl; exact ⟨rfl, rfl⟩
    · rintro ⟨h0, h1⟩; cases x; cases t; simp_all
  have hne : decide (x = t) = decide (x.a0 = t.a0 ∧ x.a1 = t.a1) := decide_eq_decide.2 e
  rw [hne]
  clear hne e
  by_cases h0 : x.a0 = t.a0 <;> by_cases h1 : x.a1 = t.a1 <;> simp [go_sem, h0, h1]
set_option maxRecDepth 100000 in
set_option maxHeartbeats 2000000 in
theorem equalItems_same (A B : Option Addr) (c d : Nat) (l : List ItemR) (w : World) (ha : Row ItemR.enc 2 w A l) (hb : Row ItemR.enc 2 w B l) :
    Calls Try.prog 16 #[.slice A l.length c, .slice B l.length d] w fun e w' => e = .returned (.bool true) ∧ Below w.heap.size w w' := by
  have hal := ha.1
  go_enter Try.func16, Try.ntmps16
  go_wp2
  go_loopw [5] (fun i wr => ∃ k : Nat, k ≤ l.length ∧ i = .int .i64 k ∧ Below w.heap.size w wr) (fun i _ => l.length - (intOf i).toNat)
  case atStart => exact ⟨0, Nat.zero_le _, rfl, Below.refl _ _⟩
  case round =>
    obtain ⟨k, hk, rfl, hbw⟩ := hrel
    by_cases hlt : k < l.length
    · obtain ⟨b, off, rfl, hbk, q0, q1⟩ := (ha.keep hbw).atItem hlt
      obtain ⟨b', off', rfl, hbk', r0, r1⟩ := (hb.keep hbw).atItem hlt
      generalize l[k] = x at *
      have hne : ∀ W, (binOp .neq 32 (.agg #[.int .i64 x.a0, .int .i64 x.a1]) (.agg #[.int .i64 x.a0, .int .i64 x.a1])).run Try.prog W = .ok (.bool false) W := fun W => by
        have h := neqIt_run x x W
        rwa [decide_eq_true rfl] at h
      have Q0 := Bw.cellOf hbk q0
      have Q1 := Bw.cellOf hbk q1
      have R0 := Bw.cellOf hbk' r0
      have R1 := Bw.cellOf hbk' r1
      have i0 : (0 : Int) ≤ (k : Int) := by omega
      have i1 : (k : Int) < (l.length : Int) := by omega
      have i5 : ((k : Int)).toNat = k := by omega
      go_wp2_with fail
      refine wp_region_quiet_below (by kernel_rfl) (by kernel_rfl) ?_
      repeat (any_goals (go_big_quiet_step (fail)))
      refine wpQuiet_nil ?_
      intro w1 hb1
      have hbw1 := hbw.trans (hb1.mono hbw.size)
      go_wp2
      go_roundw
      case rel => exact ⟨k + 1, by omega, by go_num, hbw1⟩
      case measure => simp [intOf]; omega
    · go_wp2
      all_goals go_returns
      all_goals exact ⟨rfl, hbw⟩
set_option maxRecDepth 100000 in
set_option maxHeartbeats 2000000 in
theorem equalChannel_same (a b : Int) (A : Option Addr) (c : Nat) (A' : Option Addr) (c' : Nat) (l : List ItemR) (w : World) (ha : Row ItemR.enc 2 w A l) (ha' : Row ItemR.enc 2 w A' l) :
    Calls Try.prog 11 #[.agg #[.int .i64 a, .int .i64 b, .slice A l.length c], .agg #[.int .i64 a, .int .i64 b, .slice A' l.length c']] w fun e w' => e = .returned (.bool true) ∧ Below w.heap.size w w' := by
  have x0 := (Bx.made w (.int .i64 a) (.int .i64 b) (.slice A l.length c) 26).keep ((Below.refl _ _).alloc (Nat.le_refl _) (.cells #[.int .i64 a, .int .i64 b, .slice A' l.length c'] 26))
  have x1 := Bx.made (w.alloc (.cells #[.int .i64 a, .int .i64 b, .slice A l.length c] 26)) (.int .i64 a) (.int .i64 b) (.slice A' l.length c') 26
  have hB : Below w.heap.size w ((w.alloc (.cells #[.int .i64 a, .int .i64 b, .slice A l.length c] 26)).alloc (.cells #[.int .i64 a, .int .i64 b, .slice A' l.length c'] 26)) := ((Below.refl _ _).alloc (Nat.le_refl _) _).alloc (by simp) _
  simp only [World.size_alloc] at x1
  obtain ⟨p00, p01, p02, pf0, pl0⟩ := x0
  obtain ⟨p10, p11, p12, pf1, pl1⟩ := x1
  go_enter Try.func11, Try.ntmps11
  go_wp2_with fail
  refine (equalItems_same A A' c c' l _ (ha.keep hB) (ha'.keep hB)).mono ?_
  rintro e w1 ⟨rfl, b1⟩
  have B1 := hB.trans (b1.mono hB.size)
  clear p00 p01 p02 pf0 pl0 p10 p11 p12 pf1 pl1
  go_wp2
  all_goals go_returns
  all_goals exact ⟨rfl, B1⟩
end Go.Proofs.Ytcpjidbinhfapab
