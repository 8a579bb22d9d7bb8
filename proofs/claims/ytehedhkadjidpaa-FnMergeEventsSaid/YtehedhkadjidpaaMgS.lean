import Derived.Test.YtehedhkadjidpaaMgA
import Derived.Test.YtehedhkadjidpaaDrEv2
import Derived.Test.YtehedhkadjidpaaLtA
import Derived.Test.YtehedhkadjidpaaBoxB
namespace Go.Proofs.Ytehedhkadjidpaa
open Go.RowKit
theorem cmpImplE_any (x y : EventR) (w : World) : Calls Try.prog 30 #[.agg #[.int .i64 x.a0, .int .i64 x.a1, .int .i64 x.a2], .agg #[.int .i64 y.a0, .int .i64 y.a1, .int .i64 y.a2]] w fun e w' => e = .returned (.int .i64 (cfE x y)) ∧ Below w.heap.size w w' := cmpImpl_any x.a0 x.a1 x.a2 y.a0 y.a1 y.a2 w
set_option maxRecDepth 100000 in
set_option maxHeartbeats 2000000 in
theorem isSoF_any (A : Option Addr) (c : Nat) (l : List EventR) (w : World) (ha : Row EventR.enc 3 w A l) :
    Calls Try.prog 83 #[.slice A l.length c, .func (.func 30) #[] #[]] w fun e w' => e = .returned (.bool (isSo l)) ∧ Below w.heap.size w w' := by
  have hal := ha.1
  go_enter Try.func83, Try.ntmps83
  go_wp2
  go_loopw [5] (fun i wr => ∃ q : Int, -1 ≤ q ∧ q < l.length ∧ i = .int .i64 q ∧ SoFrom l q.toNat ∧ Below w.heap.size w wr) (fun i _ => (intOf i + 1).toNat)
  case atStart => exact ⟨(l.length : Int) - 1, by omega, by omega, rfl, fun j x y h1 h2 h3 => by have := (List.getElem?_eq_some_iff.1 h3).1; omega, Below.refl _ _⟩
  case round =>
    obtain ⟨q, hq0, hq1, rfl, hso, hbw⟩ := hrel
    have Hso := Lib.hid hso
    clear hso
    by_cases hlt : 0 < q
    · obtain ⟨k, rfl⟩ : ∃ k : Nat, q = (k : Int) + 1 := ⟨(q - 1).toNat, by omega⟩
      have hk1 : k + 1 < l.length := by omega
      obtain ⟨b, off, hA, hblt, q0, q1, q2⟩ := (ha.keep hbw).atEvent (i := k) (by omega)
      obtain ⟨b', off', hA', _, r0, r1, r2⟩ := (ha.keep hbw).atEvent hk1
      subst hA
      injection hA' with hA'
      injection hA' with e1 e2
      subst e1 e2
      have hx : l[k]? = some l[k] := List.getElem?_eq_getElem (by omega)
      have hy : l[k + 1]? = some l[k + 1] := List.getElem?_eq_getElem hk1
      generalize l[k] = x at *
      generalize l[k + 1] = y at *
      have Hx := Lib.hid hx
      have Hy := Lib.hid hy
      clear hx hy ha
      have Q0 := Bw.cellOf hblt q0
      have Q1 := Bw.cellOf hblt q1
      have Q2 := Bw.cellOf hblt q2
      have R0 := Bw.cellOf hblt r0
      have R1 := Bw.cellOf hblt r1
      have R2 := Bw.cellOf hblt r2
      have i0 : (0 : Int) ≤ (k : Int) := by omega
      have i2 : (0 : Int) ≤ (k : Int) + 1 := by omega
      have i1 : ((k : Int) + 1) < (l.length : Int) := by omega
      have i3 : (k : Int) < (l.length : Int) := by omega
      have i5 : ((k : Int) + 1).toNat = k + 1 := by omega
      have i6 : ((k : Int)).toNat = k := by omega
      have i7 : (k : Int) + 1 - 1 = (k : Int) := by omega
      have i8 : IntKind.i64.wrap (k : Int) = (k : Int) := IntWalk.i64_in _ (by omega)
      clear q0 q1 q2 r0 r1 r2
      by_cases hc : cfE y x < 0
      all_goals
        go_wp2_with fail
        refine wp_region_quiet_below (by kernel_rfl) (by kernel_rfl) ?_
        repeat (any_goals (go_big_quiet_step (first | (go_at_call 30; refine Calls.below_of (cmpImplE_any y x _)))))
        refine wpQuiet_nil ?_
        intro w1 hb1
        have hbw1 := hbw.trans (hb1.mono hbw.size)
        clear i7 i8
      · have Hn := Lib.hid (isSo_stop Hx.out Hy.out hc)
        go_wp2
        all_goals go_returns
        all_goals exact ⟨ret_bool Hn.out.symm, hbw1⟩
      · have hn : SoFrom l k := fun j x' y' h1 h2 h3 => by
          by_cases hj : j = k
          · subst hj
            rw [Hx.out] at h2; rw [Hy.out] at h3
            injection h2 with h2; injection h3 with h3; subst h2 h3; omega
          · exact Hso.out j x' y' (by omega) h2 h3
        have Hn := Lib.hid hn
        clear hn
        go_wp2
        go_roundw
        case rel => exact ⟨(k : Int), by omega, by omega, val_int (by omega), Hn.out, hbw1⟩
        case measure => simp [intOf]; omega
    · have hn : isSo l = true := soFrom_all (by have h := Hso.out; rwa [show q.toNat = 0 by omega] at h)
      have Hn := Lib.hid hn
      clear hn
      go_wp2
      all_goals go_returns
      all_goals exact ⟨ret_bool Hn.out.symm, hbw⟩
set_option maxRecDepth 100000 in
set_option maxHeartbeats 2000000 in
theorem specIsSo_any (A : Option Addr) (c : Nat) (l : List EventR) (w : World) (ha : Row EventR.enc 3 w A l) :
    Calls Try.prog 52 #[.slice A l.length c] w fun e w' => e = .returned (.bool (isSo l)) ∧ Below w.heap.size w w' := by
  have hal := ha.1
  go_enter Try.func52, Try.ntmps52
  go_wp2
  go_loopw [3] (fun i wr => ∃ k : Nat, k ≤ l.length ∧ i = .int .i64 ((k : Int) + 1) ∧ SoTo l k ∧ Below w.heap.size w wr) (fun i _ => l.length + 1 - (intOf i).toNat)
  case atStart => exact ⟨0, Nat.zero_le _, rfl, fun j x y h => by omega, Below.refl _ _⟩
  case round =>
    obtain ⟨k, hk, rfl, hso, hbw⟩ := hrel
    have Hso := Lib.hid hso
    clear hso
    by_cases hlt : k + 1 < l.length
    · obtain ⟨b, off, hA, hblt, q0, q1, q2⟩ := (ha.keep hbw).atEvent (i := k) (by omega)
      obtain ⟨b', off', hA', _, r0, r1, r2⟩ := (ha.keep hbw).atEvent hlt
      subst hA
      injection hA' with hA'
      injection hA' with e1 e2
      subst e1 e2
      have hx : l[k]? = some l[k] := List.getElem?_eq_getElem (by omega)
      have hy : l[k + 1]? = some l[k + 1] := List.getElem?_eq_getElem hlt
      generalize l[k] = x at *
      generalize l[k + 1] = y at *
      have Hx := Lib.hid hx
      have Hy := Lib.hid hy
      clear hx hy ha
      have Q0 := Bw.cellOf hblt q0
      have Q1 := Bw.cellOf hblt q1
      have Q2 := Bw.cellOf hblt q2
      have R0 := Bw.cellOf hblt r0
      have R1 := Bw.cellOf hblt r1
      have R2 := Bw.cellOf hblt r2
      have i0 : (0 : Int) ≤ (k : Int) := by omega
      have i2 : (0 : Int) ≤ (k : Int) + 1 := by omega
      have i1 : ((k : Int) + 1) < (l.length : Int) := by omega
      have i3 : (k : Int) < (l.length : Int) := by omega
      have i4 : k < l.length := by omega
      have i5 : ((k : Int) + 1).toNat = k + 1 := by omega
      have i6 : ((k : Int)).toNat = k := by omega
      have i7 : (k : Int) + 1 - 1 = (k : Int) := by omega
      have i8 : IntKind.i64.wrap (k : Int) = (k : Int) := IntWalk.i64_in _ (by omega)
      clear q0 q1 q2 r0 r1 r2
      by_cases hc : cfE y x < 0
      all_goals
        go_wp2_with fail
        refine wp_region_quiet_below (by kernel_rfl) (by kernel_rfl) ?_
        repeat (any_goals (go_big_quiet_step (first | (go_at_call 82; refine Calls.below_of (cmpSpecE_any y x _)))))
        refine wpQuiet_nil ?_
        intro w1 hb1
        have hbw1 := hbw.trans (hb1.mono hbw.size)
        clear i7 i8
      · have Hn := Lib.hid (isSo_stop Hx.out Hy.out hc)
        go_wp2
        all_goals go_returns
        all_goals exact ⟨ret_bool Hn.out.symm, hbw1⟩
      · have hn : SoTo l (k + 1) := fun j x' y' h1 h2 h3 => by
          by_cases hj : j = k
          · subst hj
            rw [Hx.out] at h2; rw [Hy.out] at h3
            injection h2 with h2; injection h3 with h3; subst h2 h3; omega
          · exact Hso.out j x' y' (by omega) h2 h3
        have Hn := Lib.hid hn
        clear hn
        go_wp2
        go_roundw
        case rel => exact ⟨k + 1, by omega, val_int (by omega), Hn.out, hbw1⟩
        case measure => simp [intOf]; omega
    · have Hn := Lib.hid (soTo_all Hso.out (by omega))
      go_wp2
      all_goals go_returns
      all_goals exact ⟨ret_bool Hn.out.symm, hbw⟩
set_option maxHeartbeats 1000000 in
theorem sortedEvs_any (A : Option Addr) (c : Nat) (l : List EventR) (w : World) (ha : Row EventR.enc 3 w A l) :
    Calls Try.prog 56 #[.slice A l.length c] w fun e w' => e = .returned (.bool (vEvs l && isSo l)) ∧ Below w.heap.size w w' := by
  have hal := ha.1
  rcases Bool.eq_false_or_eq_true (vEvs l) with hv | hv
  all_goals
    have Hv := Lib.hid hv
    clear hv
    go_enter Try.func56, Try.ntmps56
    go_wp2_with fail
    refine (implValidEvents_any A c l w ha).mono ?_
    rintro e w1 ⟨rfl, hb1⟩
    rw [Hv.out]
  · go_wp2_with fail
    refine (isSoF_any A c l _ (ha.keep hb1)).mono ?_
    rintro e w2 ⟨rfl, hb2⟩
    have hb3 := hb1.trans (hb2.mono hb1.size)
    go_wp2
    all_goals go_returns
    all_goals exact ⟨ret_bool (by rw [Hv.out]; simp), hb3⟩
  · go_wp2
    all_goals go_returns
    all_goals exact ⟨ret_bool (by rw [Hv.out]; simp), hb1⟩
end Go.Proofs.Ytehedhkadjidpaa
