import Derived.Test.YtjjjlpnbniofjaaQb
import Derived.Test.YtjjjlpnbniofjaaTyInt
namespace Go.Proofs.Ytjjjlpnbniofjaa
open Go.RowKit
set_option maxRecDepth 100000 in
set_option maxHeartbeats 2000000 in
theorem equalInts_same (A B : Option Addr) (c d : Nat) (l : List Int) (w : World) (ha : Row IntR.enc 1 w A l) (hb : Row IntR.enc 1 w B l) :
    Calls Try.prog 33 #[.slice A l.length c, .slice B l.length d] w fun e w' => e = .returned (.bool true) ∧ Below w.heap.size w w' := by
  have hal := ha.1
  go_enter Try.func33, Try.ntmps33
  go_wp2
  go_loopw [5] (fun i wr => ∃ k : Nat, k ≤ l.length ∧ i = .int .i64 k ∧ Below w.heap.size w wr) (fun i _ => l.length - (intOf i).toNat)
  case atStart => exact ⟨0, Nat.zero_le _, rfl, Below.refl _ _⟩
  case round =>
    obtain ⟨k, hk, rfl, hbw⟩ := hrel
    by_cases hlt : k < l.length
    · obtain ⟨b, off, rfl, hbk, q0⟩ := (ha.keep hbw).atInt hlt
      obtain ⟨b', off', rfl, hbk', r0⟩ := (hb.keep hbw).atInt hlt
      generalize l[k] = x at *
      have Q0 := Bw.cellOf hbk q0
      have R0 := Bw.cellOf hbk' r0
      have i0 : (0 : Int) ≤ (k : Int) := by omega
      have i1 : (k : Int) < (l.length : Int) := by omega
      have i5 : ((k : Int)).toNat = k := by omega
      go_wp2_with fail
      refine wp_region_quiet_below (by kernel_rfl) (by kernel_rfl) ?_
      repeat (any_goals (go_big_quiet_step (fail)))
      refine wpQuiet_nil ?_
      intro w1 hb1
      have hbw1 := hbw.trans (hb1.mono hbw.size)
      go_wp2
      go_roundw
      case rel => exact ⟨k + 1, by omega, by go_num, hbw1⟩
      case measure => simp [intOf]; omega
    · go_wp2
      all_goals go_returns
      all_goals exact ⟨rfl, hbw⟩
end Go.Proofs.Ytjjjlpnbniofjaa
