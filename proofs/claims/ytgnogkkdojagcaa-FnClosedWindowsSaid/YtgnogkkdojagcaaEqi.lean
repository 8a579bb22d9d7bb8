import Derived.Test.YtgnogkkdojagcaaTyInt
namespace Go.Proofs.Ytgnogkkdojagcaa
open Go.RowKit
set_option maxHeartbeats 1000000 in
theorem equalInts_any (A B : Option Addr) (c d : Nat) (l m : List Int) (w : World) (ha : Row IntR.enc 1 w A l) (hb : Row IntR.enc 1 w B m) :
    Calls Try.prog 9 #[.slice A l.length c, .slice B m.length d] w fun e w' => e = .returned (.bool (decide (l = m))) ∧ Below w.heap.size w w' := by
  have hal := ha.1
  have hbl := hb.1
  by_cases hlen : l.length = m.length
  · have hne : ((l.length : Int) != (m.length : Int)) = false := by simp [hlen]
    have Hlen := Lib.hid hlen
    clear hlen
    go_enter Try.func9, Try.ntmps9
    go_wp2
    go_loopw [5] (fun i wr => ∃ k : Nat, k ≤ l.length ∧ i = .int .i64 k ∧ l.take k = m.take k ∧ Below w.heap.size w wr) (fun i _ => l.length - (intOf i).toNat)
    case atStart => exact ⟨0, Nat.zero_le _, rfl, by simp, Below.refl _ _⟩
    case round =>
      obtain ⟨k, hk, rfl, htake, hbw⟩ := hrel
      have Htake := Lib.hid htake
      clear htake
      by_cases hlt : k < l.length
      · obtain ⟨b, off, rfl, _, q0⟩ := (ha.keep hbw).atInt hlt
        have hlt' : k < m.length := by have := Hlen.out; omega
        obtain ⟨b', off', rfl, _, r0⟩ := (hb.keep hbw).atInt hlt'
        have hnt := @take_next _ l m k hlt hlt' Htake.out
        generalize hx : l[k] = x at *
        generalize hy : m[k] = y at *
        have Hx := Lib.hid hx
        have Hy := Lib.hid hy
        clear hx hy ha hb
        by_cases hxy : x = y
        · have he : (x != y) = false := by simp [hxy]
          have hnt' := hnt hxy
          have Hxy := Lib.hid hxy
          clear hxy hnt
          go_wp2_with fail
          go_quiet (fail)
          go_wp2
          go_roundw
          case rel => exact ⟨k + 1, by omega, by go_num, hnt', by first | exact hbw | exact hbw.drew | exact below_drewN hbw _⟩
          case measure => simp [intOf]; omega
        · have he : (x != y) = true := by simp [hxy]
          have hlm : decide (l = m) = false := by
            rw [decide_eq_false_iff_not]
            intro h
            subst h
            exact hxy (Hx.out.symm.trans Hy.out)
          clear hxy hnt
          go_wp2_with fail
          go_quiet (fail)
          go_wp2
          go_returns
          exact ⟨ret_bool hlm.symm, by first | exact hbw | exact hbw.drew | exact below_drewN hbw _⟩
      · have hlm : decide (l = m) = true := by
          rw [decide_eq_true_eq]
          have h := Htake.out
          have hl := Hlen.out
          rwa [List.take_of_length_le (by omega), List.take_of_length_le (by omega)] at h
        go_wp2
        go_returns
        exact ⟨ret_bool hlm.symm, hbw⟩
  · have hne : ((l.length : Int) != (m.length : Int)) = true := by simp; omega
    have hlm : decide (l = m) = false := by
      rw [decide_eq_false_iff_not]
      intro h
      exact hlen (by rw [h])
    go_enter Try.func9, Try.ntmps9
    go_wp2
    go_returns
    exact ⟨ret_bool hlm.symm, by go_grown⟩
theorem equalInts_same (A B : Option Addr) (c d : Nat) (l : List Int) (w : World) (ha : Row IntR.enc 1 w A l) (hb : Row IntR.enc 1 w B l) :
    Calls Try.prog 9 #[.slice A l.length c, .slice B l.length d] w fun e w' => e = .returned (.bool true) ∧ Below w.heap.size w w' :=
  (equalInts_any A B c d l l w ha hb).mono fun e w' h => by rw [decide_eq_true rfl] at h; exact h
end Go.Proofs.Ytgnogkkdojagcaa
