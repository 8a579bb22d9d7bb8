import Derived.Test.YtjjjlpnbniofjaaFrP
import Derived.Test.YtjjjlpnbniofjaaInR
import Derived.Test.YtjjjlpnbniofjaaQb
import Derived.IntWalk
import Derived.Outline
namespace Go.Proofs.Ytjjjlpnbniofjaa
open Go.RowKit
def inB (lo hi x : Int) : Bool := decide (lo ≤ x ∧ x ≤ hi)
theorem inRS_any (x lo hi : Int) (w : World) : Calls Try.prog 71 #[.int .i64 x, .int .i64 lo, .int .i64 hi] w fun e w' => e = .returned (.bool (inB lo hi x)) ∧ w = w' := by
  by_cases h : lo ≤ x ∧ x ≤ hi
  · have e : inB lo hi x = true := decide_eq_true h
    rw [e]; exact inRS_t x lo hi w h.1 h.2
  · have e : inB lo hi x = false := decide_eq_false h
    rw [e]; exact inRS_f x lo hi w h
theorem vRefB_eq (x : FileRefR) : vRefB x = (inB 0 99 x.a0 && inB 1 999 x.a1) := by
  unfold vRefB inB
  rw [Bool.eq_iff_iff]; simp; omega
set_option maxRecDepth 100000 in
set_option maxHeartbeats 4000000 in
theorem specRefs_any (A : Option Addr) (c : Nat) (l : List FileRefR) (w : World) (ha : Row FileRefR.enc 2 w A l) :
    Calls Try.prog 56 #[.slice A l.length c] w fun e w' => e = .returned (.bool (vRefs l)) ∧ Below w.heap.size w w' := by
  have hal := ha.1
  go_enter Try.func56, Try.ntmps56
  go_wp2
  go_loopw [3] (fun i wr => ∃ k : Nat, k ≤ l.length ∧ i = .int .i64 k ∧ ((l.take k).all vRefB = true ∧ ascB cmpRef (l.take k) = true) ∧ Below w.heap.size w wr) (fun i _ => l.length - (intOf i).toNat)
  case atStart => exact ⟨0, Nat.zero_le _, rfl, ⟨by simp, asc_zero _ _⟩, Below.refl _ _⟩
  case round =>
    obtain ⟨k0, hk, rfl, hall, hbw⟩ := hrel
    have Hall := Lib.hid hall
    clear hall
    by_cases hlt0 : k0 < l.length
    · have hb := vRefB_eq l[k0]
      rcases k0 with _ | k
      · obtain ⟨b, off, rfl, hblt, r0, r1⟩ := (ha.keep hbw).atFileRef hlt0
        have hy : l[0]? = some l[0] := List.getElem?_eq_getElem hlt0
        generalize l[0] = y at *
        have Hy := Lib.hid hy
        have Hb := Lib.hid hb
        simp only [Nat.zero_mul, Nat.add_zero] at r0 r1
        have R0 := Bw.cellOf hblt r0
        have R1 := Bw.cellOf hblt r1
        clear hy ha hb
        have i3 : (0 : Int) < (l.length : Int) := by omega
        rcases Bool.eq_false_or_eq_true (inB 0 99 y.a0) with h1 | h1
        · rcases Bool.eq_false_or_eq_true (inB 1 999 y.a1) with h2 | h2
          · have Hv := Lib.hid (show vRefB y = true by rw [Hb.out, h1, h2]; rfl)
            go_wp2_with fail
            refine wp_region_quiet_below (by kernel_rfl) (by kernel_rfl) ?_
            repeat (any_goals (go_big_quiet_step (first | (go_at_call 71; refine Calls.below_same (inRS_any _ _ _ _)))))
            refine wpQuiet_nil ?_
            intro w1 hb1
            clear h1 h2
            have hall2 := all_next Hall.out.1 Hy.out Hv.out
            have Hn := Lib.hid (show (l.take (0 + 1)).all vRefB = true ∧ ascB cmpRef (l.take (0 + 1)) = true from ⟨hall2, asc_one _ _⟩)
            have hbw1 := hbw.trans (hb1.mono hbw.size)
            clear hall2
            go_wp2
            go_roundw
            case rel => exact ⟨1, by omega, rfl, Hn.out, hbw1⟩
            case measure => simp [intOf]; omega
          · have Hv := Lib.hid (show vRefB y = false by rw [Hb.out, h1, h2]; rfl)
            go_wp2_with fail
            refine wp_region_quiet_below (by kernel_rfl) (by kernel_rfl) ?_
            repeat (any_goals (go_big_quiet_step (first | (go_at_call 71; refine Calls.below_same (inRS_any _ _ _ _)))))
            refine wpQuiet_nil ?_
            intro w1 hb1
            have hn : vRefs l = false := by unfold vRefs; rw [all_stop Hy.out Hv.out, Bool.false_and]
            have Hn := Lib.hid hn
            have hbw1 := hbw.trans (hb1.mono hbw.size)
            clear hn
            go_wp2
            all_goals go_returns
            all_goals exact ⟨ret_bool Hn.out.symm, hbw1⟩
        · have Hv := Lib.hid (show vRefB y = false by rw [Hb.out, h1]; rfl)
          go_wp2_with fail
          refine wp_region_quiet_below (by kernel_rfl) (by kernel_rfl) ?_
          repeat (any_goals (go_big_quiet_step (first | (go_at_call 71; refine Calls.below_same (inRS_any _ _ _ _)))))
          refine wpQuiet_nil ?_
          intro w1 hb1
          have hn : vRefs l = false := by unfold vRefs; rw [all_stop Hy.out Hv.out, Bool.false_and]
          have Hn := Lib.hid hn
          have hbw1 := hbw.trans (hb1.mono hbw.size)
          clear hn
          go_wp2
          all_goals go_returns
          all_goals exact ⟨ret_bool Hn.out.symm, hbw1⟩
      · obtain ⟨b, off, hA, hblt, q0, q1⟩ := (ha.keep hbw).atFileRef (i := k) (by omega)
        obtain ⟨b', off', hA', _, r0, r1⟩ := (ha.keep hbw).atFileRef hlt0
        subst hA
        injection hA' with hA'
        injection hA' with e1 e2
        subst e1 e2
        have hx : l[k]? = some l[k] := List.getElem?_eq_getElem (by omega)
        have hy : l[k + 1]? = some l[k + 1] := List.getElem?_eq_getElem hlt0
        generalize l[k] = x at *
        generalize l[k + 1] = y at *
        have Hx := Lib.hid hx
        have Hy := Lib.hid hy
        have Hb := Lib.hid hb
        have Q0 := Bw.cellOf hblt q0
        have R0 := Bw.cellOf hblt r0
        have R1 := Bw.cellOf hblt r1
        clear hx hy ha hb
        have i0 : (0 : Int) ≤ (k : Int) := by omega
        have i2 : (0 : Int) ≤ (k : Int) + 1 := by omega
        have i1 : ((k : Int) + 1) < (l.length : Int) := by omega
        have i3 : (k : Int) < (l.length : Int) := by omega
        have i4 : k < l.length := by omega
        have i5 : ((k : Int) + 1).toNat = k + 1 := by omega
        have i6 : decide ((0 : Int) < (k : Int) + 1) = true := by simp
        have hwk : IntKind.i64.wrap (k : Int) = (k : Int) := IntWalk.i64_in _ (by omega)
        rcases Bool.eq_false_or_eq_true (inB 0 99 y.a0) with h1 | h1
        · rcases Bool.eq_false_or_eq_true (inB 1 999 y.a1) with h2 | h2
          · have Hv := Lib.hid (show vRefB y = true by rw [Hb.out, h1, h2]; rfl)
            by_cases hc : y.a0 ≤ x.a0
            · have hn : vRefs l = false := by unfold vRefs; rw [asc_stop Hx.out Hy.out (by unfold cmpRef; rw [cmpI_neg]; omega), Bool.and_false]
              have Hn := Lib.hid hn
              have Hc := Lib.hid hc
              go_wp2_with fail
              refine wp_region_quiet_below (by kernel_rfl) (by kernel_rfl) ?_
              repeat (any_goals (go_big_quiet_step (first | (go_at_call 71; refine Calls.below_same (inRS_any _ _ _ _)))))
              refine wpQuiet_nil ?_
              intro w1 hb1
              have hbw1 := hbw.trans (hb1.mono hbw.size)
              clear hn h1 h2 hc
              have hc := Hc.out
              go_wp2
              go_returns
              exact ⟨ret_bool Hn.out.symm, hbw1⟩
            · have hall2 := all_next Hall.out.1 Hy.out Hv.out
              have Hn := Lib.hid (show (l.take (k + 1 + 1)).all vRefB = true ∧ ascB cmpRef (l.take (k + 1 + 1)) = true from ⟨hall2, asc_next Hall.out.2 Hx.out Hy.out (by unfold cmpRef; rw [cmpI_neg]; omega)⟩)
              have Hc := Lib.hid hc
              go_wp2_with fail
              refine wp_region_quiet_below (by kernel_rfl) (by kernel_rfl) ?_
              repeat (any_goals (go_big_quiet_step (first | (go_at_call 71; refine Calls.below_same (inRS_any _ _ _ _)))))
              refine wpQuiet_nil ?_
              intro w1 hb1
              have hbw1 := hbw.trans (hb1.mono hbw.size)
              clear hall2 h1 h2 hc hwk
              have hc := Hc.out
              go_wp2
              go_roundw
              case rel => exact ⟨k + 1 + 1, by omega, by go_num, Hn.out, hbw1⟩
              case measure => simp [intOf]; omega
          · have Hv := Lib.hid (show vRefB y = false by rw [Hb.out, h1, h2]; rfl)
            go_wp2_with fail
            refine wp_region_quiet_below (by kernel_rfl) (by kernel_rfl) ?_
            repeat (any_goals (go_big_quiet_step (first | (go_at_call 71; refine Calls.below_same (inRS_any _ _ _ _)))))
            refine wpQuiet_nil ?_
            intro w1 hb1
            have hn : vRefs l = false := by unfold vRefs; rw [all_stop Hy.out Hv.out, Bool.false_and]
            have Hn := Lib.hid hn
            have hbw1 := hbw.trans (hb1.mono hbw.size)
            clear hn
            go_wp2
            all_goals go_returns
            all_goals exact ⟨ret_bool Hn.out.symm, hbw1⟩
        · have Hv := Lib.hid (show vRefB y = false by rw [Hb.out, h1]; rfl)
          go_wp2_with fail
          refine wp_region_quiet_below (by kernel_rfl) (by kernel_rfl) ?_
          repeat (any_goals (go_big_quiet_step (first | (go_at_call 71; refine Calls.below_same (inRS_any _ _ _ _)))))
          refine wpQuiet_nil ?_
          intro w1 hb1
          have hn : vRefs l = false := by unfold vRefs; rw [all_stop Hy.out Hv.out, Bool.false_and]
          have Hn := Lib.hid hn
          have hbw1 := hbw.trans (hb1.mono hbw.size)
          clear hn
          go_wp2
          all_goals go_returns
          all_goals exact ⟨ret_bool Hn.out.symm, hbw1⟩
    · have hn : vRefs l = true := by
        have h := Hall.out
        rw [List.take_of_length_le (by omega)] at h
        unfold vRefs
        rw [h.1, h.2]; rfl
      have Hn := Lib.hid hn
      clear hn
      go_wp2
      all_goals go_returns
      all_goals exact ⟨ret_bool Hn.out.symm, hbw⟩
set_option maxHeartbeats 1000000 in
theorem specRefC_any (A : Option Addr) (c : Nat) (l : List FileRefR) (f : Int) (w : World) (ha : Row FileRefR.enc 2 w A l) :
    Calls Try.prog 57 #[.slice A l.length c, .int .i64 f] w fun e w' => e = .returned (.int .i64 (refC l f)) ∧ w = w' := by
  have hal := ha.1
  go_enter Try.func57, Try.ntmps57
  go_wp2
  go_loop [5] (fun i => ∃ k : Nat, k ≤ l.length ∧ i = .int .i64 k ∧ refC (l.drop k) f = refC l f) (fun i => l.length - (intOf i).toNat)
  case atStart => exact ⟨0, Nat.zero_le _, rfl, rfl⟩
  case round =>
    obtain ⟨k, hk, rfl, he⟩ := hrel
    have He := Lib.hid he
    clear he
    by_cases hlt : k < l.length
    · obtain ⟨b, off, rfl, hblt, q0, q1⟩ := ha.atFileRef hlt
      have hd : l.drop k = l[k] :: l.drop (k + 1) := List.drop_eq_getElem_cons hlt
      generalize l[k] = x at *
      have Hd := Lib.hid hd
      clear hd ha
      by_cases h1 : x.a0 = f
      · have Hn := Lib.hid (show x.a1 = refC l f by rw [← He.out, Hd.out]; unfold refC; rw [if_pos h1])
        go_wp2
        all_goals go_returns
        all_goals exact ⟨ret_int Hn.out, rfl⟩
      · have Hn := Lib.hid (show refC (l.drop (k + 1)) f = refC l f by rw [← He.out, Hd.out]; conv => rhs; unfold refC; rw [if_neg h1])
        have h1' : (x.a0 == f) = false := by simp [h1]
        go_wp2
        go_round
        case rel => exact ⟨k + 1, by omega, by go_num, Hn.out⟩
        case measure => simp [intOf]; omega
    · have Hn := Lib.hid (show (0 : Int) = refC l f by rw [← He.out, List.drop_of_length_le (by omega)]; rfl)
      go_wp2
      all_goals go_returns
      all_goals exact ⟨ret_int Hn.out, rfl⟩
set_option maxHeartbeats 1000000 in
theorem specIsIn_any (A : Option Addr) (c : Nat) (l : List Int) (f : Int) (w : World) (ha : Row IntR.enc 1 w A l) :
    Calls Try.prog 64 #[.slice A l.length c, .int .i64 f] w fun e w' => e = .returned (.bool (decide (f ∈ l))) ∧ w = w' := by
  have hal := ha.1
  go_enter Try.func64, Try.ntmps64
  go_wp2
  go_loop [5] (fun i => ∃ k : Nat, k ≤ l.length ∧ i = .int .i64 k ∧ decide (f ∈ l.drop k) = decide (f ∈ l)) (fun i => l.length - (intOf i).toNat)
  case atStart => exact ⟨0, Nat.zero_le _, rfl, rfl⟩
  case round =>
    obtain ⟨k, hk, rfl, he⟩ := hrel
    have He := Lib.hid he
    clear he
    by_cases hlt : k < l.length
    · obtain ⟨b, off, rfl, hblt, q0⟩ := ha.atInt hlt
      have hd : l.drop k = l[k] :: l.drop (k + 1) := List.drop_eq_getElem_cons hlt
      generalize l[k] = x at *
      have Hd := Lib.hid hd
      clear hd ha
      by_cases h1 : x = f
      · have Hn := Lib.hid (show true = decide (f ∈ l) by rw [← He.out, Hd.out, h1]; simp)
        go_wp2
        all_goals go_returns
        all_goals exact ⟨ret_bool Hn.out, rfl⟩
      · have Hn := Lib.hid (show decide (f ∈ l.drop (k + 1)) = decide (f ∈ l) by rw [← He.out, Hd.out]; simp [Ne.symm h1])
        have h1' : (x == f) = false := by simp [h1]
        go_wp2
        go_round
        case rel => exact ⟨k + 1, by omega, by go_num, Hn.out⟩
        case measure => simp [intOf]; omega
    · have Hn := Lib.hid (show false = decide (f ∈ l) by rw [← He.out, List.drop_of_length_le (by omega)]; rfl)
      go_wp2
      all_goals go_returns
      all_goals exact ⟨ret_bool Hn.out, rfl⟩
set_option maxHeartbeats 1000000 in
theorem specAllIn_any (A : Option Addr) (c : Nat) (l : List Int) (lo hi : Int) (w : World) (ha : Row IntR.enc 1 w A l) :
    Calls Try.prog 100 #[.slice A l.length c, .int .i64 lo, .int .i64 hi] w fun e w' => e = .returned (.bool (l.all (inB lo hi))) ∧ w = w' := by
  have hal := ha.1
  go_enter Try.func100, Try.ntmps100
  go_wp2
  go_loop [7] (fun i => ∃ k : Nat, k ≤ l.length ∧ i = .int .i64 k ∧ (l.take k).all (inB lo hi) = true) (fun i => l.length - (intOf i).toNat)
  case atStart => exact ⟨0, Nat.zero_le _, rfl, by simp⟩
  case round =>
    obtain ⟨k, hk, rfl, he⟩ := hrel
    have He := Lib.hid he
    clear he
    by_cases hlt : k < l.length
    · obtain ⟨b, off, rfl, hblt, q0⟩ := ha.atInt hlt
      have hx : l[k]? = some l[k] := List.getElem?_eq_getElem hlt
      generalize l[k] = x at *
      have Hx := Lib.hid hx
      clear hx ha
      rcases Bool.eq_false_or_eq_true (inB lo hi x) with h1 | h1
      · have Hn := Lib.hid (all_next He.out Hx.out h1)
        go_wp2_with (go_at_call 71; refine (inRS_any _ _ _ _).mono ?_; rintro e w' ⟨rfl, rfl⟩)
        go_round
        case rel => exact ⟨k + 1, by omega, by go_num, Hn.out⟩
        case measure => simp [intOf]; omega
      · have Hn := Lib.hid (all_stop Hx.out h1)
        go_wp2_with (go_at_call 71; refine (inRS_any _ _ _ _).mono ?_; rintro e w' ⟨rfl, rfl⟩)
        all_goals go_returns
        all_goals exact ⟨ret_bool Hn.out.symm, rfl⟩
    · have Hn := Lib.hid (show l.all (inB lo hi) = true by have h := He.out; rwa [List.take_of_length_le (by omega)] at h)
      go_wp2
      all_goals go_returns
      all_goals exact ⟨ret_bool Hn.out.symm, rfl⟩
set_option maxRecDepth 100000 in
set_option maxHeartbeats 2000000 in
theorem specFiles_any (A : Option Addr) (c : Nat) (l : List Int) (w : World) (ha : Row IntR.enc 1 w A l) :
    Calls Try.prog 62 #[.slice A l.length c, .int .i64 0, .int .i64 99] w fun e w' => e = .returned (.bool (vFiles l)) ∧ Below w.heap.size w w' := by
  have hal := ha.1
  have hV : vFiles l = (l.all (inB 0 99) && ascB cmpI l) := rfl
  have HV := Lib.hid hV
  clear hV
  have Hr := Lib.hid ha
  go_enter Try.func62, Try.ntmps62
  go_wp2
  go_loopw [7] (fun i wr => ∃ k : Nat, k ≤ l.length ∧ i = .int .i64 (k + 1) ∧ ascB cmpI (l.take (k + 1)) = true ∧ Below w.heap.size w wr) (fun i _ => l.length + 1 - (intOf i).toNat)
  case atStart => exact ⟨0, Nat.zero_le _, rfl, asc_one _ _, Below.refl _ _⟩
  case round =>
    obtain ⟨k, hk, rfl, hall, hbw⟩ := hrel
    have Hall := Lib.hid hall
    clear hall
    by_cases hlt : k + 1 < l.length
    · obtain ⟨b, off, hA, hblt, q0⟩ := (ha.keep hbw).atInt (i := k) (by omega)
      obtain ⟨b', off', hA', _, r0⟩ := (ha.keep hbw).atInt hlt
      subst hA
      injection hA' with hA'
      injection hA' with e1 e2
      subst e1 e2
      have hx : l[k]? = some l[k] := List.getElem?_eq_getElem (by omega)
      have hy : l[k + 1]? = some l[k + 1] := List.getElem?_eq_getElem hlt
      generalize l[k] = x at *
      generalize l[k + 1] = y at *
      have Hx := Lib.hid hx
      have Hy := Lib.hid hy
      have Q0 := Bw.cellOf hblt q0
      have R0 := Bw.cellOf hblt r0
      clear hx hy ha
      have i0 : (0 : Int) ≤ (k : Int) := by omega
      have i2 : (0 : Int) ≤ (k : Int) + 1 := by omega
      have i1 : ((k : Int) + 1) < (l.length : Int) := by omega
      have i3 : (k : Int) < (l.length : Int) := by omega
      have i4 : k < l.length := by omega
      have i5 : ((k : Int) + 1).toNat = k + 1 := by omega
      have hwk : IntKind.i64.wrap (k : Int) = (k : Int) := IntWalk.i64_in _ (by omega)
      by_cases hc : y ≤ x
      · have Hn := Lib.hid (show vFiles l = false by rw [HV.out, asc_stop Hx.out Hy.out (by rw [cmpI_neg]; omega), Bool.and_false])
        have Hc := Lib.hid hc
        go_wp2_with fail
        refine wp_region_quiet_below (by kernel_rfl) (by kernel_rfl) ?_
        repeat (any_goals (go_big_quiet_step (fail)))
        refine wpQuiet_nil ?_
        intro w1 hb1
        have hbw1 := hbw.trans (hb1.mono hbw.size)
        clear hc
        have hc := Hc.out
        go_wp2
        all_goals go_returns
        all_goals exact ⟨ret_bool Hn.out.symm, hbw1⟩
      · have Hn := Lib.hid (asc_next Hall.out Hx.out Hy.out (show cmpI x y < 0 by rw [cmpI_neg]; omega))
        have Hc := Lib.hid hc
        go_wp2_with fail
        refine wp_region_quiet_below (by kernel_rfl) (by kernel_rfl) ?_
        repeat (any_goals (go_big_quiet_step (fail)))
        refine wpQuiet_nil ?_
        intro w1 hb1
        have hbw1 := hbw.trans (hb1.mono hbw.size)
        clear hc hwk
        have hc := Hc.out
        go_wp2
        go_roundw
        case rel => exact ⟨k + 1, by omega, val_int (by omega), Hn.out, hbw1⟩
        case measure => simp [intOf]; omega
    · have Hn := Lib.hid (show vFiles l = l.all (inB 0 99) by
        have h := Hall.out
        rw [List.take_of_length_le (by omega)] at h
        rw [HV.out, h, Bool.and_true])
      go_wp2_with fail
      refine (specAllIn_any A c l 0 99 _ (Hr.out.keep hbw)).mono ?_
      rintro e w1 ⟨rfl, rfl⟩
      go_wp2
      all_goals go_returns
      all_goals exact ⟨ret_bool Hn.out.symm, hbw⟩
end Go.Proofs.Ytjjjlpnbniofjaa
