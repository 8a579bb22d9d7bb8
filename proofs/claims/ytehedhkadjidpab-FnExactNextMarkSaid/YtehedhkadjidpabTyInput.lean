import Derived.Test.YtehedhkadjidpabSlk2
namespace Go.Proofs.Ytehedhkadjidpab
open Go.RowKit
structure InputR where
  a0 : Int
  a1 : Int
deriving DecidableEq
def InputR.enc (e : InputR) : List Value := [.int .i64 e.a0, .int .i64 e.a1]
theorem InputR.enc_len (e : InputR) : e.enc.length = 2 := rfl
theorem Row.atInput {w : World} {A : Option Addr} {l : List InputR} (h : Row InputR.enc 2 w A l) {i : Nat} (hi : i < l.length) :
    ∃ b off, A = some ⟨b, off, none⟩ ∧ b < w.heap.size ∧ w.cell? ⟨b, off + i * 2, none⟩ = some (.int .i64 (l[i]).a0) ∧ w.cell? ⟨b, off + i * 2 + 1, none⟩ = some (.int .i64 (l[i]).a1) := by
  obtain ⟨b, off, hA, hlt, hc⟩ := h.2 (by omega)
  have hx : l[i]? = some l[i] := List.getElem?_eq_getElem hi
  exact ⟨b, off, hA, hlt, hc i _ hx 0 _ rfl, hc i _ hx 1 _ rfl⟩
theorem InputR.zero_info : (Try.prog.info? 33).map (fun i => (i.zero, i.size, i.bytes)) = some (some (.agg #[.int .i64 0, .int .i64 0]), 2, 16) := by kernel_rfl
theorem szInputS_ok (A : Option Addr) (m c : Nat) (w : World) (h : m ≤ 1048576) :
    Calls Try.prog 30 #[.slice A m c, .int .i64 1048576] w fun e w' => e = .returned (.int .i64 (1048576 - (m : Int))) ∧ w = w' := by
  go_enter Try.func30, Try.ntmps30
  go_wp2
  all_goals go_returns
  all_goals exact ⟨ret_int (by omega), rfl⟩
theorem szInputS_big (A : Option Addr) (m c : Nat) (w : World) (h : 1048576 < m) (hm : m ≤ maxLen) :
    Calls Try.prog 30 #[.slice A m c, .int .i64 1048576] w fun e w' => e = .returned (.int .i64 (-1)) ∧ w = w' := by
  unfold maxLen at hm
  go_enter Try.func30, Try.ntmps30
  go_wp2
  all_goals go_returns
  all_goals first | exact ⟨rfl, rfl⟩ | (exfalso; omega)
set_option maxHeartbeats 400000 in
theorem toInput_any (a0 a1 : Int) (w : World) : Calls Try.prog 67 #[.agg #[.int .i64 a0, .int .i64 a1]] w
    fun e w' => e = .returned (.agg #[.int .i64 a0, .int .i64 a1]) ∧ Below w.heap.size w w' := by
  go_enter Try.func67, Try.ntmps67
  go_wp2
  all_goals go_returns
  all_goals exact ⟨rfl, by go_grown⟩
theorem filled_nextInput {w wr w1 : World} {N : Nat} {l : List InputR} {j : Nat} {x : InputR} (h : Filled InputR.enc 2 33 w N l j wr) (hj : j < N) (hx : l[j]? = some x) (hb : Below wr.heap.size wr w1) :
    Filled InputR.enc 2 33 w N l (j + 1) ((w1.setCell ⟨w.heap.size, j * 2, none⟩ (.int .i64 x.a0)).setCell ⟨w.heap.size, j * 2 + 1, none⟩ (.int .i64 x.a1)) := by
  obtain ⟨xs, ho, ht, hB⟩ := h
  have ho1 := ho.kept (gb_of_below hb) (.inr (by simp [Value.ownBlock]))
  have hlen := ho.1
  have hB1 := hB.trans (hb.mono hB.size)
  obtain ⟨ho2, hg2⟩ := ho1.stored (j * 2) (.int .i64 x.a0)
  have ht2 := take_set_next ht (by omega) (.int .i64 x.a0)
  obtain ⟨ho3, hg3⟩ := ho2.stored (j * 2 + 1) (.int .i64 x.a1)
  have ht3 := take_set_next ht2 (by simp only [List.length_set]; omega) (.int .i64 x.a1)
  refine ⟨_, ho3, ?_, ?_⟩
  · have e : (j + 1) * 2 = j * 2 + 1 + 1 := by omega
    rw [e, ht3, List.take_add_one, hx, List.flatMap_append]
    simp [InputR.enc]
  · have B2 := below_of_gb (B0 := w.heap.size) hg2 (by have := hB1.size; omega) (by intro g hg; injection hg with hg; omega)
    have B3 := below_of_gb (B0 := w.heap.size) hg3 (by have := hB1.size; simp; omega) (by intro g hg; injection hg with hg; omega)
    exact ((hB1).trans B2).trans B3
set_option maxHeartbeats 1000000 in
theorem toInputS_any (A : Option Addr) (c : Nat) (l : List InputR) (w : World) (ha : Row InputR.enc 2 w A l) :
    Calls Try.prog 31 #[.slice A l.length c] w (OwnPost InputR.enc 2 33 w l) := by
  have hal := ha.1
  obtain ⟨i0, hi, hz0, hz1, hz2⟩ := info_parts InputR.zero_info
  have hmk := fun W => run_make_rowN (P := Try.prog) 23 33 i0 _ Try.underlying23 hi hz0 .i64 .i64 l.length l.length (Nat.le_refl _) (by rw [hz2]; omega) (by omega) W
  have hF := filled_start InputR.enc 2 33 w l.length l (madeCells (Value.cells (.agg #[.int .i64 0, .int .i64 0])) (l.length * i0.size)) (by rw [size_madeCells, hz1]) (by unfold maxLen; omega)
  have HF := Lib.hid hF
  clear hF hz0 hz1 hz2 hi
  go_enter Try.func31, Try.ntmps31
  go_wp2
  go_loopw [4] (fun i wr => ∃ j : Nat, j ≤ l.length ∧ i = .int .i64 j ∧ Filled InputR.enc 2 33 w l.length l j wr) (fun i _ => l.length - (intOf i).toNat)
  case atStart => exact ⟨0, Nat.zero_le _, rfl, HF.out⟩
  case round =>
    obtain ⟨j, hj, rfl, hfil⟩ := hrel
    have Hfil := Lib.hid hfil
    clear HF hmk
    by_cases hlt : j < l.length
    · obtain ⟨b, off, rfl, _, q0, q1⟩ := (ha.keep (hfil.elim fun _ h => h.2.2)).atInput hlt
      have hx := List.getElem?_eq_getElem hlt
      generalize l[j] = x at *
      have Hx := Lib.hid hx
      clear hx hfil ha
      go_wp2_with fail
      refine (toInput_any _ _ _).mono ?_
      rintro e w1 ⟨rfl, hb1⟩
      have hnext := filled_nextInput Hfil.out hlt Hx.out hb1
      obtain ⟨xs, ho, -, hB⟩ := Hfil.out
      have ho1 := ho.kept (gb_of_below hb1) (.inr (by simp [Value.ownBlock]))
      have hlen := ho.1
      have c0 : w1.cell? ⟨w.heap.size, j * 2, none⟩ = some (xs[j * 2]'(by omega)) := by rw [ho1.cellAt (j * 2) (by omega)]; exact List.getElem?_eq_getElem _
      have f0 := ho1.frozenAt (j * 2)
      have c1 : w1.cell? ⟨w.heap.size, j * 2 + 1, none⟩ = some (xs[j * 2 + 1]'(by omega)) := by rw [ho1.cellAt (j * 2 + 1) (by omega)]; exact List.getElem?_eq_getElem _
      have f1 := ho1.frozenAt (j * 2 + 1)
      have Hn := Lib.hid hnext
      clear hnext ho ho1 hb1 Hfil Hx
      go_wp2
      go_roundw
      case rel => exact ⟨j + 1, by omega, by go_num, Hn.out⟩
      case measure => simp [intOf]; omega
    · have hjl : j = l.length := by omega
      subst hjl
      go_wp2
      go_returns
      obtain ⟨h1, h2⟩ := filled_end InputR.enc_len hal Hfil.out
      exact ⟨_, _, rfl, h1, h2⟩
theorem eqInput_any (a0 a1 b0 b1 : Int) (w : World) : Calls Try.prog 68 #[.agg #[.int .i64 a0, .int .i64 a1], .agg #[.int .i64 b0, .int .i64 b1]] w
    fun e w' => e = .returned (.bool (decide (a0 = b0 ∧ a1 = b1))) ∧ Below w.heap.size w w' := by
  go_enter Try.func68, Try.ntmps68
  go_wp2
  all_goals go_returns
  all_goals refine ⟨ret_bool ?_, by go_grown⟩
  all_goals simp_all
set_option maxRecDepth 100000 in
set_option maxHeartbeats 1000000 in
theorem eqInputS_any (A B : Option Addr) (c d : Nat) (l m : List InputR) (w : World) (ha : Row InputR.enc 2 w A l) (hb : Row InputR.enc 2 w B m) :
    Calls Try.prog 32 #[.slice A l.length c, .slice B m.length d] w fun e w' => e = .returned (.bool (decide (l = m))) ∧ Below w.heap.size w w' := by
  have hal := ha.1
  have hbl := hb.1
  by_cases hlen : l.length = m.length
  · have hne : ((l.length : Int) != (m.length : Int)) = false := by simp [hlen]
    have Hlen := Lib.hid hlen
    clear hlen
    go_enter Try.func32, Try.ntmps32
    go_wp2
    go_loopw [5] (fun i wr => ∃ k : Nat, k ≤ l.length ∧ i = .int .i64 k ∧ l.take k = m.take k ∧ Below w.heap.size w wr) (fun i _ => l.length - (intOf i).toNat)
    case atStart => exact ⟨0, Nat.zero_le _, rfl, by simp, Below.refl _ _⟩
    case round =>
      obtain ⟨k, hk, rfl, htake, hbw⟩ := hrel
      have Htake := Lib.hid htake
      clear htake
      by_cases hlt : k < l.length
      · obtain ⟨b, off, rfl, _, q0, q1⟩ := (ha.keep hbw).atInput hlt
        have hlt' : k < m.length := by have := Hlen.out; omega
        obtain ⟨b', off', rfl, _, r0, r1⟩ := (hb.keep hbw).atInput hlt'
        have hnt := @take_next _ l m k hlt hlt' Htake.out
        generalize hx : l[k] = x at *
        generalize hy : m[k] = y at *
        have Hx := Lib.hid hx
        have Hy := Lib.hid hy
        clear hx hy ha hb
        go_wp2_with fail
        refine wp_region_still_tail 8 (by kernel_rfl) (by kernel_rfl) ?_
        change wpStill _ _ wr.drew (fun a' => wpList _ _ _ _ a' wr.drew) _ _
        simp only [List.take_succ_cons, List.take_zero, List.drop_succ_cons, List.drop_zero]
        repeat still_step
        refine wpStill_nil ?_
        go_wp2_with fail
        refine (eqInput_any _ _ _ _ _).mono ?_
        rintro e w1 ⟨rfl, hb1⟩
        have hbw1 : Below w.heap.size w w1 := hbw.drew.trans (hb1.mono (by have := hbw.size; simpa using this))
        clear hb1
        by_cases hxy : x.a0 = y.a0 ∧ x.a1 = y.a1
        · have he : decide (x.a0 = y.a0 ∧ x.a1 = y.a1) = true := by simp [hxy]
          rw [he]
          have hxe : x = y := by cases x; cases y; simp_all
          have hnt' := hnt hxe
          clear hxy he hxe hnt
          go_wp2
          go_roundw
          case rel => exact ⟨k + 1, by omega, by go_num, hnt', hbw1⟩
          case measure => simp [intOf]; omega
        · have he : decide (x.a0 = y.a0 ∧ x.a1 = y.a1) = false := by simp [hxy]
          rw [he]
          have hlm : decide (l = m) = false := by
            rw [decide_eq_false_iff_not]
            intro h
            subst h
            have := Hx.out.symm.trans Hy.out
            subst this
            exact hxy ⟨rfl, rfl⟩
          clear hxy he hnt
          go_wp2
          go_returns
          exact ⟨ret_bool hlm.symm, hbw1⟩
      · have hlm : decide (l = m) = true := by
          rw [decide_eq_true_eq]
          have h := Htake.out
          have hl := Hlen.out
          rwa [List.take_of_length_le (by omega), List.take_of_length_le (by omega)] at h
        go_wp2
        go_returns
        exact ⟨ret_bool hlm.symm, hbw⟩
  · have hne : ((l.length : Int) != (m.length : Int)) = true := by simp; omega
    have hlm : decide (l = m) = false := by
      rw [decide_eq_false_iff_not]
      intro h
      exact hlen (by rw [h])
    go_enter Try.func32, Try.ntmps32
    go_wp2
    go_returns
    exact ⟨ret_bool hlm.symm, by go_grown⟩
theorem eqInputS_same (A B : Option Addr) (c d : Nat) (l : List InputR) (w : World) (ha : Row InputR.enc 2 w A l) (hb : Row InputR.enc 2 w B l) :
    Calls Try.prog 32 #[.slice A l.length c, .slice B l.length d] w fun e w' => e = .returned (.bool true) ∧ Below w.heap.size w w' :=
  (eqInputS_any A B c d l l w ha hb).mono fun e w' h => by rw [decide_eq_true rfl] at h; exact h
theorem marked_nextInput {w wr : World} {B g cap N : Nat} {k0 : Int} {j : Nat} (h : Marked 2 33 w B (.slice (some ⟨g, 0, none⟩) N cap) N k0 j wr) (hj : j < N) :
    Marked 2 33 w B (.slice (some ⟨g, 0, none⟩) N cap) N k0 (j + 1) ((wr.setCell ⟨g, j * 2, none⟩ (.int .i64 (k0 + (j : Int) * 2))).setCell ⟨g, j * 2 + 1, none⟩ (.int .i64 (k0 + (j : Int) * 2 + 1))) := by
  obtain ⟨xs, ho1, ht, hB⟩ := h
  have hlen := ho1.1
  obtain ⟨ho2, hg2⟩ := ho1.stored (j * 2) (.int .i64 (k0 + (j : Int) * 2))
  have ht2 := take_set_next ht (by omega) (.int .i64 (k0 + (j : Int) * 2))
  obtain ⟨ho3, hg3⟩ := ho2.stored (j * 2 + 1) (.int .i64 (k0 + (j : Int) * 2 + 1))
  have ht3 := take_set_next ht2 (by simp only [List.length_set]; omega) (.int .i64 (k0 + (j : Int) * 2 + 1))
  refine ⟨_, ho3, ?_, gb_trans (gb_trans (hB) hg2) hg3⟩
  have e : (j + 1) * 2 = j * 2 + 1 + 1 := by omega
  rw [e, ht3]
  simp only [marks_succ, List.append_assoc]
  congr 1
  simp
  omega
set_option maxHeartbeats 1000000 in
theorem markInputS_any (A : Option Addr) (c N : Nat) (k0 : Int) (B : Nat) (xs0 : List Value) (w : World) (ho0 : w.ownsRow B 33 2 (.slice A N c) N xs0) (hN : N ≤ 1048576) (h0 : 0 ≤ k0) (h1 : k0 ≤ 1000000000) :
    Calls Try.prog 42 #[.slice A N c, .int .i64 k0] w (MarkPost 2 33 w B (.slice A N c) N k0) := by
  have hS : Marked 2 33 w B (.slice A N c) N k0 0 w := ⟨xs0, ho0, by simp [marks], World.grownBy.refl w _⟩
  have HS := Lib.hid hS
  clear hS ho0
  go_enter Try.func42, Try.ntmps42
  go_wp2
  go_loopw [5, 1] (fun i k wr => ∃ j : Nat, j ≤ N ∧ i = .int .i64 j ∧ k = .int .i64 (k0 + (j : Int) * 2) ∧ Marked 2 33 w B (.slice A N c) N k0 j wr) (fun i _ _ => N - (intOf i).toNat)
  case atStart => exact ⟨0, Nat.zero_le _, rfl, val_int (by omega), HS.out⟩
  case round =>
    obtain ⟨j, hj, rfl, rfl, hfil⟩ := hrel
    have Hfil := Lib.hid hfil
    clear HS
    by_cases hlt : j < N
    · obtain ⟨xs, ho, -, hB⟩ := hfil
      obtain ⟨g, cap, hv, -, hglt⟩ := ho.form (by omega)
      injection hv with hA _ hc
      subst hA hc
      have hnext := marked_nextInput Hfil.out hlt
      have hlen := ho.1
      have c0 : wr.cell? ⟨g, j * 2, none⟩ = some (xs[j * 2]'(by omega)) := by rw [ho.cellAt (j * 2) (by omega)]; exact List.getElem?_eq_getElem _
      have f0 := ho.frozenAt (j * 2)
      have c1 : wr.cell? ⟨g, j * 2 + 1, none⟩ = some (xs[j * 2 + 1]'(by omega)) := by rw [ho.cellAt (j * 2 + 1) (by omega)]; exact List.getElem?_eq_getElem _
      have f1 := ho.frozenAt (j * 2 + 1)
      have Hn := Lib.hid hnext
      clear hnext ho hB Hfil
      go_wp2
      go_roundw
      case rel => exact ⟨j + 1, by omega, by go_num, val_int (by omega), Hn.out⟩
      case measure => simp [intOf]; omega
    · have hjl : j = N := by omega
      subst hjl
      clear hfil
      go_wp2
      go_returns
      obtain ⟨m1, m2⟩ := marked_end Hfil.out
      exact ⟨rfl, m1, m2⟩
set_option maxHeartbeats 1000000 in
theorem heldInputS_any (A : Option Addr) (c N : Nat) (k0 : Int) (B : Nat) (w : World) (ho0 : w.ownsRow B 33 2 (.slice A N c) N (marks k0 (N * 2))) (hN : N ≤ 1048576) (h0 : 0 ≤ k0) (h1 : k0 ≤ 1000000000) :
    Calls Try.prog 43 #[.slice A N c, .int .i64 k0] w fun e w' => e = .returned (.int .i64 (k0 + (N : Int) * 2)) ∧ w = w' := by
  have HS := Lib.hid ho0
  clear ho0
  go_enter Try.func43, Try.ntmps43
  go_wp2
  go_loop [5, 1] (fun i k => ∃ j : Nat, j ≤ N ∧ i = .int .i64 j ∧ k = .int .i64 (k0 + (j : Int) * 2)) (fun i _ => N - (intOf i).toNat)
  case atStart => exact ⟨0, Nat.zero_le _, rfl, val_int (by omega)⟩
  case round =>
    obtain ⟨j, hj, rfl, rfl⟩ := hrel
    by_cases hlt : j < N
    · have ho := HS.out
      obtain ⟨g, cap, hv, -, hglt⟩ := ho.form (by omega)
      injection hv with hA _ hc
      subst hA hc
      have c0 : w.cell? ⟨g, j * 2, none⟩ = some (.int .i64 (k0 + (j : Int) * 2)) := by rw [ho.cellAt (j * 2) (by omega), marks_get _ _ _ (by omega)]; exact congrArg some (val_int (by omega))
      have c1 : w.cell? ⟨g, j * 2 + 1, none⟩ = some (.int .i64 (k0 + (j : Int) * 2 + 1)) := by rw [ho.cellAt (j * 2 + 1) (by omega), marks_get _ _ _ (by omega)]; exact congrArg some (val_int (by omega))
      clear ho HS
      go_wp2
      go_round
      case rel => exact ⟨j + 1, by omega, by go_num, val_int (by omega)⟩
      case measure => simp [intOf]; omega
    · have hjl : j = N := by omega
      subst hjl
      go_wp2
      go_returns
      exact ⟨rfl, rfl⟩
end Go.Proofs.Ytehedhkadjidpab
