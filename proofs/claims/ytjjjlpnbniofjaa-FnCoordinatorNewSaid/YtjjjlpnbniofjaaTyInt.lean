import Derived.Test.YtjjjlpnbniofjaaSlk2
namespace Go.Proofs.Ytjjjlpnbniofjaa
open Go.RowKit
def IntR.enc (e : Int) : List Value := [.int .i64 e]
theorem IntR.enc_len (e : Int) : (IntR.enc e).length = 1 := rfl
theorem Row.atInt {w : World} {A : Option Addr} {l : List Int} (h : Row IntR.enc 1 w A l) {i : Nat} (hi : i < l.length) :
    ∃ b off, A = some ⟨b, off, none⟩ ∧ b < w.heap.size ∧ w.cell? ⟨b, off + i, none⟩ = some (.int .i64 l[i]) := by
  obtain ⟨b, off, hA, hlt, hc⟩ := h.2 (by omega)
  have hx : l[i]? = some l[i] := List.getElem?_eq_getElem hi
  exact ⟨b, off, hA, hlt, by simpa using hc i _ hx 0 _ rfl⟩
theorem IntR.zero_info : (Try.prog.info? 3).map (fun i => (i.zero, i.size, i.bytes)) = some (some (.int .i64 0), 1, 8) := by kernel_rfl
theorem filled_nextInt {w wr w1 : World} {N : Nat} {l : List Int} {j : Nat} {x : Int} (h : Filled IntR.enc 1 3 w N l j wr) (hj : j < N) (hx : l[j]? = some x) (hb : Below wr.heap.size wr w1) :
    Filled IntR.enc 1 3 w N l (j + 1) (w1.setCell ⟨w.heap.size, j, none⟩ (.int .i64 x)) := by
  obtain ⟨xs, ho, ht, hB⟩ := h
  have ho1 := ho.kept (gb_of_below hb) (.inr (by simp [Value.ownBlock]))
  have hlen := ho.1
  have hB1 := hB.trans (hb.mono hB.size)
  obtain ⟨ho2, hg2⟩ := ho1.stored j (.int .i64 x)
  rw [Nat.mul_one] at ht
  have ht2 := take_set_next ht (by omega) (.int .i64 x)
  refine ⟨_, ho2, ?_, ?_⟩
  · have e : (j + 1) * 1 = j + 1 := by omega
    rw [e, ht2, List.take_add_one, hx, List.flatMap_append]
    simp [IntR.enc]
  · have B2 := below_of_gb (B0 := w.heap.size) hg2 (by have := hB1.size; omega) (by intro g hg; injection hg with hg; omega)
    exact (hB1).trans B2
set_option maxRecDepth 100000 in
set_option maxHeartbeats 1000000 in
theorem eqIntS_any (A B : Option Addr) (c d : Nat) (l m : List Int) (w : World) (ha : Row IntR.enc 1 w A l) (hb : Row IntR.enc 1 w B m) :
    Calls Try.prog 23 #[.slice A l.length c, .slice B m.length d] w fun e w' => e = .returned (.bool (decide (l = m))) ∧ Below w.heap.size w w' := by
  have hal := ha.1
  have hbl := hb.1
  by_cases hlen : l.length = m.length
  · have hne : ((l.length : Int) != (m.length : Int)) = false := by simp [hlen]
    have Hlen := Lib.hid hlen
    clear hlen
    go_enter Try.func23, Try.ntmps23
    go_wp2
    go_loopw [5] (fun i wr => ∃ k : Nat, k ≤ l.length ∧ i = .int .i64 k ∧ l.take k = m.take k ∧ Below w.heap.size w wr) (fun i _ => l.length - (intOf i).toNat)
    case atStart => exact ⟨0, Nat.zero_le _, rfl, by simp, Below.refl _ _⟩
    case round =>
      obtain ⟨k, hk, rfl, htake, hbw⟩ := hrel
      have Htake := Lib.hid htake
      clear htake
      by_cases hlt : k < l.length
      · obtain ⟨b, off, rfl, _, q0⟩ := (ha.keep hbw).atInt hlt
        have hlt' : k < m.length := by have := Hlen.out; omega
        obtain ⟨b', off', rfl, _, r0⟩ := (hb.keep hbw).atInt hlt'
        have hnt := @take_next _ l m k hlt hlt' Htake.out
        generalize hx : l[k] = x at *
        generalize hy : m[k] = y at *
        have Hx := Lib.hid hx
        have Hy := Lib.hid hy
        clear hx hy ha hb
        by_cases hxy : x = y
        · have he : (x != y) = false := by simp [hxy]
          have hnt' := hnt hxy
          have Hxy := Lib.hid hxy
          clear hxy hnt
          go_wp2_with fail
          go_quiet (fail)
          go_wp2
          go_roundw
          case rel => exact ⟨k + 1, by omega, by go_num, hnt', by first | exact hbw | exact hbw.drew | exact below_drewN hbw _⟩
          case measure => simp [intOf]; omega
        · have he : (x != y) = true := by simp [hxy]
          have hlm : decide (l = m) = false := by
            rw [decide_eq_false_iff_not]
            intro h
            subst h
            exact hxy (Hx.out.symm.trans Hy.out)
          clear hxy hnt
          go_wp2_with fail
          go_quiet (fail)
          go_wp2
          go_returns
          exact ⟨ret_bool hlm.symm, by first | exact hbw | exact hbw.drew | exact below_drewN hbw _⟩
      · have hlm : decide (l = m) = true := by
          rw [decide_eq_true_eq]
          have h := Htake.out
          have hl := Hlen.out
          rwa [List.take_of_length_le (by omega), List.take_of_length_le (by omega)] at h
        go_wp2
        go_returns
        exact ⟨ret_bool hlm.symm, hbw⟩
  · have hne : ((l.length : Int) != (m.length : Int)) = true := by simp; omega
    have hlm : decide (l = m) = false := by
      rw [decide_eq_false_iff_not]
      intro h
      exact hlen (by rw [h])
    go_enter Try.func23, Try.ntmps23
    go_wp2
    go_returns
    exact ⟨ret_bool hlm.symm, by go_grown⟩
theorem eqIntS_same (A B : Option Addr) (c d : Nat) (l : List Int) (w : World) (ha : Row IntR.enc 1 w A l) (hb : Row IntR.enc 1 w B l) :
    Calls Try.prog 23 #[.slice A l.length c, .slice B l.length d] w fun e w' => e = .returned (.bool true) ∧ Below w.heap.size w w' :=
  (eqIntS_any A B c d l l w ha hb).mono fun e w' h => by rw [decide_eq_true rfl] at h; exact h
theorem marked_nextInt {w wr : World} {B g cap N : Nat} {k0 : Int} {j : Nat} (h : Marked 1 3 w B (.slice (some ⟨g, 0, none⟩) N cap) N k0 j wr) (hj : j < N) :
    Marked 1 3 w B (.slice (some ⟨g, 0, none⟩) N cap) N k0 (j + 1) (wr.setCell ⟨g, j, none⟩ (.int .i64 (k0 + (j : Int)))) := by
  obtain ⟨xs, ho1, ht, hB⟩ := h
  have hlen := ho1.1
  obtain ⟨ho2, hg2⟩ := ho1.stored j (.int .i64 (k0 + (j : Int)))
  rw [Nat.mul_one] at ht
  have ht2 := take_set_next ht (by omega) (.int .i64 (k0 + (j : Int)))
  refine ⟨_, ho2, ?_, gb_trans (hB) hg2⟩
  have e : (j + 1) * 1 = j + 1 := by omega
  rw [e, ht2, marks_succ]
set_option maxHeartbeats 1000000 in
theorem markIntS_any (A : Option Addr) (c N : Nat) (k0 : Int) (B : Nat) (xs0 : List Value) (w : World) (ho0 : w.ownsRow B 3 1 (.slice A N c) N xs0) (hN : N ≤ 1048576) (h0 : 0 ≤ k0) (h1 : k0 ≤ 1000000000) :
    Calls Try.prog 25 #[.slice A N c, .int .i64 k0] w (MarkPost 1 3 w B (.slice A N c) N k0) := by
  have hS : Marked 1 3 w B (.slice A N c) N k0 0 w := ⟨xs0, ho0, by simp [marks], World.grownBy.refl w _⟩
  have HS := Lib.hid hS
  clear hS ho0
  go_enter Try.func25, Try.ntmps25
  go_wp2
  go_loopw [5, 1] (fun i k wr => ∃ j : Nat, j ≤ N ∧ i = .int .i64 j ∧ k = .int .i64 (k0 + (j : Int)) ∧ Marked 1 3 w B (.slice A N c) N k0 j wr) (fun i _ _ => N - (intOf i).toNat)
  case atStart => exact ⟨0, Nat.zero_le _, rfl, val_int (by omega), HS.out⟩
  case round =>
    obtain ⟨j, hj, rfl, rfl, hfil⟩ := hrel
    have Hfil := Lib.hid hfil
    clear HS
    by_cases hlt : j < N
    · obtain ⟨xs, ho, -, hB⟩ := hfil
      obtain ⟨g, cap, hv, -, hglt⟩ := ho.form (by omega)
      injection hv with hA _ hc
      subst hA hc
      have hnext := marked_nextInt Hfil.out hlt
      have hlen := ho.1
      have c0 : wr.cell? ⟨g, j, none⟩ = some (xs[j]'(by omega)) := by rw [ho.cellAt j (by omega)]; exact List.getElem?_eq_getElem _
      have f0 := ho.frozenAt j
      have Hn := Lib.hid hnext
      clear hnext ho hB Hfil
      go_wp2
      go_roundw
      case rel => exact ⟨j + 1, by omega, by go_num, val_int (by omega), Hn.out⟩
      case measure => simp [intOf]; omega
    · have hjl : j = N := by omega
      subst hjl
      clear hfil
      go_wp2
      go_returns
      obtain ⟨m1, m2⟩ := marked_end Hfil.out
      exact ⟨ret_int (by omega), m1, m2⟩
set_option maxHeartbeats 1000000 in
theorem heldIntS_any (A : Option Addr) (c N : Nat) (k0 : Int) (B : Nat) (w : World) (ho0 : w.ownsRow B 3 1 (.slice A N c) N (marks k0 (N * 1))) (hN : N ≤ 1048576) (h0 : 0 ≤ k0) (h1 : k0 ≤ 1000000000) :
    Calls Try.prog 26 #[.slice A N c, .int .i64 k0] w fun e w' => e = .returned (.int .i64 (k0 + (N : Int))) ∧ w = w' := by
  have HS := Lib.hid ho0
  clear ho0
  go_enter Try.func26, Try.ntmps26
  go_wp2
  go_loop [5, 1] (fun i k => ∃ j : Nat, j ≤ N ∧ i = .int .i64 j ∧ k = .int .i64 (k0 + (j : Int))) (fun i _ => N - (intOf i).toNat)
  case atStart => exact ⟨0, Nat.zero_le _, rfl, val_int (by omega)⟩
  case round =>
    obtain ⟨j, hj, rfl, rfl⟩ := hrel
    by_cases hlt : j < N
    · have ho := HS.out
      obtain ⟨g, cap, hv, -, hglt⟩ := ho.form (by omega)
      injection hv with hA _ hc
      subst hA hc
      have c0 : w.cell? ⟨g, j, none⟩ = some (.int .i64 (k0 + (j : Int))) := by rw [ho.cellAt j (by omega), marks_get _ _ _ (by omega)]
      clear ho HS
      go_wp2
      go_round
      case rel => exact ⟨j + 1, by omega, by go_num, val_int (by omega)⟩
      case measure => simp [intOf]; omega
    · have hjl : j = N := by omega
      subst hjl
      go_wp2
      go_returns
      exact ⟨rfl, rfl⟩
end Go.Proofs.Ytjjjlpnbniofjaa
