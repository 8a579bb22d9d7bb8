import Derived.Test.YtgebijaojkmjiaaSlk2
import Derived.Test.YtgebijaojkmjiaaTyEvent
namespace Go.Proofs.Ytgebijaojkmjiaa
open Go.RowKit
structure PairR where
  a0 : Int
  a1 : Int
  a2 : Int
  a3 : Int
  a4 : Int
  a5 : Int
deriving DecidableEq
def PairR.enc (e : PairR) : List Value := [.int .i64 e.a0, .int .i64 e.a1, .int .i64 e.a2, .int .i64 e.a3, .int .i64 e.a4, .int .i64 e.a5]
theorem PairR.enc_len (e : PairR) : e.enc.length = 6 := rfl
theorem Row.atPair {w : World} {A : Option Addr} {l : List PairR} (h : Row PairR.enc 6 w A l) {i : Nat} (hi : i < l.length) :
    ∃ b off, A = some ⟨b, off, none⟩ ∧ b < w.heap.size ∧ w.cell? ⟨b, off + i * 6, none⟩ = some (.int .i64 (l[i]).a0) ∧ w.cell? ⟨b, off + i * 6 + 1, none⟩ = some (.int .i64 (l[i]).a1) ∧ w.cell? ⟨b, off + i * 6 + 2, none⟩ = some (.int .i64 (l[i]).a2) ∧ w.cell? ⟨b, off + i * 6 + 3, none⟩ = some (.int .i64 (l[i]).a3) ∧ w.cell? ⟨b, off + i * 6 + 4, none⟩ = some (.int .i64 (l[i]).a4) ∧ w.cell? ⟨b, off + i * 6 + 5, none⟩ = some (.int .i64 (l[i]).a5) := by
  obtain ⟨b, off, hA, hlt, hc⟩ := h.2 (by omega)
  have hx : l[i]? = some l[i] := List.getElem?_eq_getElem hi
  exact ⟨b, off, hA, hlt, hc i _ hx 0 _ rfl, hc i _ hx 1 _ rfl, hc i _ hx 2 _ rfl, hc i _ hx 3 _ rfl, hc i _ hx 4 _ rfl, hc i _ hx 5 _ rfl⟩
theorem PairR.zero_info : (Try.prog.info? 119).map (fun i => (i.zero, i.size, i.bytes)) = some (some (.agg #[.int .i64 0, .int .i64 0, .int .i64 0, .int .i64 0, .int .i64 0, .int .i64 0]), 6, 48) := by kernel_rfl
set_option maxHeartbeats 1000000 in
theorem eqPair_any (a0 a1 a2 a3 a4 a5 b0 b1 b2 b3 b4 b5 : Int) (w : World) : Calls Try.prog 101 #[.agg #[.int .i64 a0, .int .i64 a1, .int .i64 a2, .int .i64 a3, .int .i64 a4, .int .i64 a5], .agg #[.int .i64 b0, .int .i64 b1, .int .i64 b2, .int .i64 b3, .int .i64 b4, .int .i64 b5]] w
    fun e w' => e = .returned (.bool (decide (a0 = b0 ∧ a1 = b1 ∧ a2 = b2 ∧ a3 = b3 ∧ a4 = b4 ∧ a5 = b5))) ∧ Below w.heap.size w w' := by
  have hB : Below w.heap.size w ((w.alloc (.cells #[.int .i64 a0, .int .i64 a1, .int .i64 a2, .int .i64 a3, .int .i64 a4, .int .i64 a5] 119)).alloc (.cells #[.int .i64 b0, .int .i64 b1, .int .i64 b2, .int .i64 b3, .int .i64 b4, .int .i64 b5] 119)) := ((Below.refl _ _).alloc (Nat.le_refl _) _).alloc (by simp) _
  by_cases h0 : a0 = b0 ∧ a1 = b1 ∧ a2 = b2 <;> by_cases h1 : a3 = b3 ∧ a4 = b4 ∧ a5 = b5
  all_goals
    first | have d0 : decide (a0 = b0 ∧ a1 = b1 ∧ a2 = b2) = true := decide_eq_true h0 | have d0 : decide (a0 = b0 ∧ a1 = b1 ∧ a2 = b2) = false := decide_eq_false h0
    first | have d1 : decide (a3 = b3 ∧ a4 = b4 ∧ a5 = b5) = true := decide_eq_true h1 | have d1 : decide (a3 = b3 ∧ a4 = b4 ∧ a5 = b5) = false := decide_eq_false h1
    have hfin : decide (a0 = b0 ∧ a1 = b1 ∧ a2 = b2 ∧ a3 = b3 ∧ a4 = b4 ∧ a5 = b5) = (decide (a0 = b0 ∧ a1 = b1 ∧ a2 = b2) && decide (a3 = b3 ∧ a4 = b4 ∧ a5 = b5)) := by rw [Bool.eq_iff_iff]; simp only [Bool.and_eq_true, decide_eq_true_eq]; constructor <;> (intro h; simp_all)
    rw [hfin]
    clear hfin h0 h1
    rw [d0, d1]
    have D0 := Lib.hid d0
    clear d0
    have D1 := Lib.hid d1
    clear d1
    go_enter Try.func101, Try.ntmps101
    go_wp2_with fail
    refine (eqEvent_any _ _ _ _ _ _ _).mono ?_
    rintro e w1 ⟨rfl, g1⟩
    rw [D0.out]
    have B1 := hB.trans (g1.mono hB.size)
    have c0_3 : w1.cell? ⟨w.heap.size, 3, none⟩ = some (.int .i64 a3) := (g1.cell (by first | (simp; done) | (simp; omega))).trans (by simp [go_sem])
    have c0_4 : w1.cell? ⟨w.heap.size, 4, none⟩ = some (.int .i64 a4) := (g1.cell (by first | (simp; done) | (simp; omega))).trans (by simp [go_sem])
    have c0_5 : w1.cell? ⟨w.heap.size, 5, none⟩ = some (.int .i64 a5) := (g1.cell (by first | (simp; done) | (simp; omega))).trans (by simp [go_sem])
    have c1_3 : w1.cell? ⟨w.heap.size + 1, 3, none⟩ = some (.int .i64 b3) := (g1.cell (by first | (simp; done) | (simp; omega))).trans (by simp [go_sem])
    have c1_4 : w1.cell? ⟨w.heap.size + 1, 4, none⟩ = some (.int .i64 b4) := (g1.cell (by first | (simp; done) | (simp; omega))).trans (by simp [go_sem])
    have c1_5 : w1.cell? ⟨w.heap.size + 1, 5, none⟩ = some (.int .i64 b5) := (g1.cell (by first | (simp; done) | (simp; omega))).trans (by simp [go_sem])
    clear g1 D0
    go_wp2_with fail
    all_goals first
      | (refine (eqEvent_any _ _ _ _ _ _ _).mono ?_; rintro e w2 ⟨rfl, g2⟩; rw [D1.out]; have B2 := B1.trans (g2.mono B1.size); clear g2; go_wp2; go_returns; exact ⟨rfl, B2⟩)
      | (go_returns; exact ⟨rfl, B1⟩)
set_option maxRecDepth 100000 in
set_option maxHeartbeats 1000000 in
theorem eqPairS_any (A B : Option Addr) (c d : Nat) (l m : List PairR) (w : World) (ha : Row PairR.enc 6 w A l) (hb : Row PairR.enc 6 w B m) :
    Calls Try.prog 50 #[.slice A l.length c, .slice B m.length d] w fun e w' => e = .returned (.bool (decide (l = m))) ∧ Below w.heap.size w w' := by
  have hal := ha.1
  have hbl := hb.1
  by_cases hlen : l.length = m.length
  · have hne : ((l.length : Int) != (m.length : Int)) = false := by simp [hlen]
    have Hlen := Lib.hid hlen
    clear hlen
    go_enter Try.func50, Try.ntmps50
    go_wp2
    go_loopw [5] (fun i wr => ∃ k : Nat, k ≤ l.length ∧ i = .int .i64 k ∧ l.take k = m.take k ∧ Below w.heap.size w wr) (fun i _ => l.length - (intOf i).toNat)
    case atStart => exact ⟨0, Nat.zero_le _, rfl, by simp, Below.refl _ _⟩
    case round =>
      obtain ⟨k, hk, rfl, htake, hbw⟩ := hrel
      have Htake := Lib.hid htake
      clear htake
      by_cases hlt : k < l.length
      · obtain ⟨b, off, rfl, _, q0, q1, q2, q3, q4, q5⟩ := (ha.keep hbw).atPair hlt
        have hlt' : k < m.length := by have := Hlen.out; omega
        obtain ⟨b', off', rfl, _, r0, r1, r2, r3, r4, r5⟩ := (hb.keep hbw).atPair hlt'
        have hnt := @take_next _ l m k hlt hlt' Htake.out
        generalize hx : l[k] = x at *
        generalize hy : m[k] = y at *
        have Hx := Lib.hid hx
        have Hy := Lib.hid hy
        clear hx hy ha hb
        go_wp2_with fail
        refine wp_region_still_tail 8 (by kernel_rfl) (by kernel_rfl) ?_
        change wpStill _ _ wr.drew (fun a' => wpList _ _ _ _ a' wr.drew) _ _
        simp only [List.take_succ_cons, List.take_zero, List.drop_succ_cons, List.drop_zero]
        repeat still_step
        refine wpStill_nil ?_
        go_wp2_with fail
        refine (eqPair_any _ _ _ _ _ _ _ _ _ _ _ _ _).mono ?_
        rintro e w1 ⟨rfl, hb1⟩
        have hbw1 : Below w.heap.size w w1 := hbw.drew.trans (hb1.mono (by have := hbw.size; simpa using this))
        clear hb1
        by_cases hxy : x.a0 = y.a0 ∧ x.a1 = y.a1 ∧ x.a2 = y.a2 ∧ x.a3 = y.a3 ∧ x.a4 = y.a4 ∧ x.a5 = y.a5
        · have he : decide (x.a0 = y.a0 ∧ x.a1 = y.a1 ∧ x.a2 = y.a2 ∧ x.a3 = y.a3 ∧ x.a4 = y.a4 ∧ x.a5 = y.a5) = true := by simp [hxy]
          rw [he]
          have hxe : x = y := by cases x; cases y; simp_all
          have hnt' := hnt hxe
          clear hxy he hxe hnt
          go_wp2
          go_roundw
          case rel => exact ⟨k + 1, by omega, by go_num, hnt', hbw1⟩
          case measure => simp [intOf]; omega
        · have he : decide (x.a0 = y.a0 ∧ x.a1 = y.a1 ∧ x.a2 = y.a2 ∧ x.a3 = y.a3 ∧ x.a4 = y.a4 ∧ x.a5 = y.a5) = false := by simp [hxy]
          rw [he]
          have hlm : decide (l = m) = false := by
            rw [decide_eq_false_iff_not]
            intro h
            subst h
            have := Hx.out.symm.trans Hy.out
            subst this
            exact hxy ⟨rfl, rfl, rfl, rfl, rfl, rfl⟩
          clear hxy he hnt
          go_wp2
          go_returns
          exact ⟨ret_bool hlm.symm, hbw1⟩
      · have hlm : decide (l = m) = true := by
          rw [decide_eq_true_eq]
          have h := Htake.out
          have hl := Hlen.out
          rwa [List.take_of_length_le (by omega), List.take_of_length_le (by omega)] at h
        go_wp2
        go_returns
        exact ⟨ret_bool hlm.symm, hbw⟩
  · have hne : ((l.length : Int) != (m.length : Int)) = true := by simp; omega
    have hlm : decide (l = m) = false := by
      rw [decide_eq_false_iff_not]
      intro h
      exact hlen (by rw [h])
    go_enter Try.func50, Try.ntmps50
    go_wp2
    go_returns
    exact ⟨ret_bool hlm.symm, by go_grown⟩
theorem eqPairS_same (A B : Option Addr) (c d : Nat) (l : List PairR) (w : World) (ha : Row PairR.enc 6 w A l) (hb : Row PairR.enc 6 w B l) :
    Calls Try.prog 50 #[.slice A l.length c, .slice B l.length d] w fun e w' => e = .returned (.bool true) ∧ Below w.heap.size w w' :=
  (eqPairS_any A B c d l l w ha hb).mono fun e w' h => by rw [decide_eq_true rfl] at h; exact h
theorem marked_nextPair {w wr : World} {B g cap N : Nat} {k0 : Int} {j : Nat} (h : Marked 6 119 w B (.slice (some ⟨g, 0, none⟩) N cap) N k0 j wr) (hj : j < N) :
    Marked 6 119 w B (.slice (some ⟨g, 0, none⟩) N cap) N k0 (j + 1) ((((((wr.setCell ⟨g, j * 6, none⟩ (.int .i64 (k0 + (j : Int) * 6))).setCell ⟨g, j * 6 + 1, none⟩ (.int .i64 (k0 + (j : Int) * 6 + 1))).setCell ⟨g, j * 6 + 2, none⟩ (.int .i64 (k0 + (j : Int) * 6 + 1 + 1))).setCell ⟨g, j * 6 + 3, none⟩ (.int .i64 (k0 + (j : Int) * 6 + 1 + 1 + 1))).setCell ⟨g, j * 6 + 3 + 1, none⟩ (.int .i64 (k0 + (j : Int) * 6 + 1 + 1 + 1 + 1))).setCell ⟨g, j * 6 + 3 + 2, none⟩ (.int .i64 (k0 + (j : Int) * 6 + 1 + 1 + 1 + 1 + 1))) := by
  obtain ⟨xs, ho1, ht, hB⟩ := h
  have hlen := ho1.1
  obtain ⟨ho2, hg2⟩ := ho1.stored (j * 6) (.int .i64 (k0 + (j : Int) * 6))
  have ht2 := take_set_next ht (by omega) (.int .i64 (k0 + (j : Int) * 6))
  obtain ⟨ho3, hg3⟩ := ho2.stored (j * 6 + 1) (.int .i64 (k0 + (j : Int) * 6 + 1))
  have ht3 := take_set_next ht2 (by simp only [List.length_set]; omega) (.int .i64 (k0 + (j : Int) * 6 + 1))
  obtain ⟨ho4, hg4⟩ := ho3.stored (j * 6 + 2) (.int .i64 (k0 + (j : Int) * 6 + 1 + 1))
  have ht4 := take_set_next ht3 (by simp only [List.length_set]; omega) (.int .i64 (k0 + (j : Int) * 6 + 1 + 1))
  obtain ⟨ho5, hg5⟩ := ho4.stored (j * 6 + 3) (.int .i64 (k0 + (j : Int) * 6 + 1 + 1 + 1))
  have ht5 := take_set_next ht4 (by simp only [List.length_set]; omega) (.int .i64 (k0 + (j : Int) * 6 + 1 + 1 + 1))
  obtain ⟨ho6, hg6⟩ := ho5.stored (j * 6 + 3 + 1) (.int .i64 (k0 + (j : Int) * 6 + 1 + 1 + 1 + 1))
  have ht6 := take_set_next ht5 (by simp only [List.length_set]; omega) (.int .i64 (k0 + (j : Int) * 6 + 1 + 1 + 1 + 1))
  obtain ⟨ho7, hg7⟩ := ho6.stored (j * 6 + 3 + 2) (.int .i64 (k0 + (j : Int) * 6 + 1 + 1 + 1 + 1 + 1))
  have ht7 := take_set_next ht6 (by simp only [List.length_set]; omega) (.int .i64 (k0 + (j : Int) * 6 + 1 + 1 + 1 + 1 + 1))
  refine ⟨_, ho7, ?_, gb_trans (gb_trans (gb_trans (gb_trans (gb_trans (gb_trans (hB) hg2) hg3) hg4) hg5) hg6) hg7⟩
  have e : (j + 1) * 6 = j * 6 + 3 + 2 + 1 := by omega
  rw [e, ht7]
  simp only [marks_succ, List.append_assoc]
  congr 1
  simp
  omega
set_option maxHeartbeats 1000000 in
theorem markPairS_any (A : Option Addr) (c N : Nat) (k0 : Int) (B : Nat) (xs0 : List Value) (w : World) (ho0 : w.ownsRow B 119 6 (.slice A N c) N xs0) (hN : N ≤ 1048576) (h0 : 0 ≤ k0) (h1 : k0 ≤ 1000000000) :
    Calls Try.prog 51 #[.slice A N c, .int .i64 k0] w (MarkPost 6 119 w B (.slice A N c) N k0) := by
  have hS : Marked 6 119 w B (.slice A N c) N k0 0 w := ⟨xs0, ho0, by simp [marks], World.grownBy.refl w _⟩
  have HS := Lib.hid hS
  clear hS ho0
  go_enter Try.func51, Try.ntmps51
  go_wp2
  go_loopw [5, 1] (fun i k wr => ∃ j : Nat, j ≤ N ∧ i = .int .i64 j ∧ k = .int .i64 (k0 + (j : Int) * 6) ∧ Marked 6 119 w B (.slice A N c) N k0 j wr) (fun i _ _ => N - (intOf i).toNat)
  case atStart => exact ⟨0, Nat.zero_le _, rfl, val_int (by omega), HS.out⟩
  case round =>
    obtain ⟨j, hj, rfl, rfl, hfil⟩ := hrel
    have Hfil := Lib.hid hfil
    clear HS
    by_cases hlt : j < N
    · obtain ⟨xs, ho, -, hB⟩ := hfil
      obtain ⟨g, cap, hv, -, hglt⟩ := ho.form (by omega)
      injection hv with hA _ hc
      subst hA hc
      have hnext := marked_nextPair Hfil.out hlt
      have hlen := ho.1
      have c0 : wr.cell? ⟨g, j * 6, none⟩ = some (xs[j * 6]'(by omega)) := by rw [ho.cellAt (j * 6) (by omega)]; exact List.getElem?_eq_getElem _
      have f0 := ho.frozenAt (j * 6)
      have c1 : wr.cell? ⟨g, j * 6 + 1, none⟩ = some (xs[j * 6 + 1]'(by omega)) := by rw [ho.cellAt (j * 6 + 1) (by omega)]; exact List.getElem?_eq_getElem _
      have f1 := ho.frozenAt (j * 6 + 1)
      have c2 : wr.cell? ⟨g, j * 6 + 2, none⟩ = some (xs[j * 6 + 2]'(by omega)) := by rw [ho.cellAt (j * 6 + 2) (by omega)]; exact List.getElem?_eq_getElem _
      have f2 := ho.frozenAt (j * 6 + 2)
      have c3 : wr.cell? ⟨g, j * 6 + 3, none⟩ = some (xs[j * 6 + 3]'(by omega)) := by rw [ho.cellAt (j * 6 + 3) (by omega)]; exact List.getElem?_eq_getElem _
      have f3 := ho.frozenAt (j * 6 + 3)
      have c4 : wr.cell? ⟨g, j * 6 + 3 + 1, none⟩ = some (xs[j * 6 + 3 + 1]'(by omega)) := by rw [ho.cellAt (j * 6 + 3 + 1) (by omega)]; exact List.getElem?_eq_getElem _
      have f4 := ho.frozenAt (j * 6 + 3 + 1)
      have c5 : wr.cell? ⟨g, j * 6 + 3 + 2, none⟩ = some (xs[j * 6 + 3 + 2]'(by omega)) := by rw [ho.cellAt (j * 6 + 3 + 2) (by omega)]; exact List.getElem?_eq_getElem _
      have f5 := ho.frozenAt (j * 6 + 3 + 2)
      have Hn := Lib.hid hnext
      clear hnext ho hB Hfil
      go_wp2
      go_roundw
      case rel => exact ⟨j + 1, by omega, by go_num, val_int (by omega), Hn.out⟩
      case measure => simp [intOf]; omega
    · have hjl : j = N := by omega
      subst hjl
      clear hfil
      go_wp2
      go_returns
      obtain ⟨m1, m2⟩ := marked_end Hfil.out
      exact ⟨rfl, m1, m2⟩
set_option maxHeartbeats 1000000 in
theorem heldPairS_any (A : Option Addr) (c N : Nat) (k0 : Int) (B : Nat) (w : World) (ho0 : w.ownsRow B 119 6 (.slice A N c) N (marks k0 (N * 6))) (hN : N ≤ 1048576) (h0 : 0 ≤ k0) (h1 : k0 ≤ 1000000000) :
    Calls Try.prog 52 #[.slice A N c, .int .i64 k0] w fun e w' => e = .returned (.int .i64 (k0 + (N : Int) * 6)) ∧ w = w' := by
  have HS := Lib.hid ho0
  clear ho0
  go_enter Try.func52, Try.ntmps52
  go_wp2
  go_loop [5, 1] (fun i k => ∃ j : Nat, j ≤ N ∧ i = .int .i64 j ∧ k = .int .i64 (k0 + (j : Int) * 6)) (fun i _ => N - (intOf i).toNat)
  case atStart => exact ⟨0, Nat.zero_le _, rfl, val_int (by omega)⟩
  case round =>
    obtain ⟨j, hj, rfl, rfl⟩ := hrel
    by_cases hlt : j < N
    · have ho := HS.out
      obtain ⟨g, cap, hv, -, hglt⟩ := ho.form (by omega)
      injection hv with hA _ hc
      subst hA hc
      have c0 : w.cell? ⟨g, j * 6, none⟩ = some (.int .i64 (k0 + (j : Int) * 6)) := by rw [ho.cellAt (j * 6) (by omega), marks_get _ _ _ (by omega)]; exact congrArg some (val_int (by omega))
      have c1 : w.cell? ⟨g, j * 6 + 1, none⟩ = some (.int .i64 (k0 + (j : Int) * 6 + 1)) := by rw [ho.cellAt (j * 6 + 1) (by omega), marks_get _ _ _ (by omega)]; exact congrArg some (val_int (by omega))
      have c2 : w.cell? ⟨g, j * 6 + 2, none⟩ = some (.int .i64 (k0 + (j : Int) * 6 + 1 + 1)) := by rw [ho.cellAt (j * 6 + 2) (by omega), marks_get _ _ _ (by omega)]; exact congrArg some (val_int (by omega))
      have c3 : w.cell? ⟨g, j * 6 + 3, none⟩ = some (.int .i64 (k0 + (j : Int) * 6 + 1 + 1 + 1)) := by rw [ho.cellAt (j * 6 + 3) (by omega), marks_get _ _ _ (by omega)]; exact congrArg some (val_int (by omega))
      have c4 : w.cell? ⟨g, j * 6 + 3 + 1, none⟩ = some (.int .i64 (k0 + (j : Int) * 6 + 1 + 1 + 1 + 1)) := by rw [ho.cellAt (j * 6 + 3 + 1) (by omega), marks_get _ _ _ (by omega)]; exact congrArg some (val_int (by omega))
      have c5 : w.cell? ⟨g, j * 6 + 3 + 2, none⟩ = some (.int .i64 (k0 + (j : Int) * 6 + 1 + 1 + 1 + 1 + 1)) := by rw [ho.cellAt (j * 6 + 3 + 2) (by omega), marks_get _ _ _ (by omega)]; exact congrArg some (val_int (by omega))
      clear ho HS
      go_wp2
      go_round
      case rel => exact ⟨j + 1, by omega, by go_num, val_int (by omega)⟩
      case measure => simp [intOf]; omega
    · have hjl : j = N := by omega
      subst hjl
      go_wp2
      go_returns
      exact ⟨rfl, rfl⟩
end Go.Proofs.Ytgebijaojkmjiaa
