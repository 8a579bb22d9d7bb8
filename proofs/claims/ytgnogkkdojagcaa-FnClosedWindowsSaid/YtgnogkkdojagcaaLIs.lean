import Derived.Test.YtgnogkkdojagcaaTyInt
namespace Go.Proofs.Ytgnogkkdojagcaa
open Go.RowKit
set_option maxHeartbeats 1000000 in
theorem lawIsIn_b (A : Option Addr) (c : Nat) (l : List Int) (f : Int) (v : Bool) (hv : decide (f ∈ l) = v) (w : World) (ha : Row IntR.enc 1 w A l) :
    Calls Try.prog 11 #[.slice A l.length c, .int .i64 f] w fun e w' => e = .returned (.bool v) ∧ w = w' := by
  subst hv
  have hal := ha.1
  go_enter Try.func11, Try.ntmps11
  go_wp2
  go_loop [5] (fun i => ∃ k : Nat, k ≤ l.length ∧ i = .int .i64 k ∧ decide (f ∈ l.drop k) = decide (f ∈ l)) (fun i => l.length - (intOf i).toNat)
  case atStart => exact ⟨0, Nat.zero_le _, rfl, rfl⟩
  case round =>
    obtain ⟨k, hk, rfl, he⟩ := hrel
    have He := Lib.hid he
    clear he
    by_cases hlt : k < l.length
    · obtain ⟨b, off, rfl, hblt, q0⟩ := ha.atInt hlt
      have hd : l.drop k = l[k] :: l.drop (k + 1) := List.drop_eq_getElem_cons hlt
      generalize l[k] = x at *
      have Hd := Lib.hid hd
      clear hd ha
      by_cases h1 : x = f
      · have Hn := Lib.hid (show true = decide (f ∈ l) by rw [← He.out, Hd.out, h1]; simp)
        go_wp2
        all_goals go_returns
        all_goals exact ⟨ret_bool Hn.out, rfl⟩
      · have Hn := Lib.hid (show decide (f ∈ l.drop (k + 1)) = decide (f ∈ l) by rw [← He.out, Hd.out]; simp [Ne.symm h1])
        have h1' : (x == f) = false := by simp [h1]
        go_wp2
        go_round
        case rel => exact ⟨k + 1, by omega, by go_num, Hn.out⟩
        case measure => simp [intOf]; omega
    · have Hn := Lib.hid (show false = decide (f ∈ l) by rw [← He.out, List.drop_of_length_le (by omega)]; rfl)
      go_wp2
      all_goals go_returns
      all_goals exact ⟨ret_bool Hn.out, rfl⟩
end Go.Proofs.Ytgnogkkdojagcaa
