import Derived.Test.YtjjjlpnbniofjabVn
import Derived.Test.YtjjjlpnbniofjabApp
import Derived.Laws.OwnMore
namespace Go.Proofs.Ytjjjlpnbniofjab
open Go.RowKit
set_option maxRecDepth 100000 in
set_option maxHeartbeats 4000000 in
theorem growVn_any (n : Nat) (w : World) (hn : n ≤ 1048576) : Calls Try.prog 101 #[.slice none 0 0, .int .i64 n] w (GrowPost VersionR.enc 3 39 w) := by
  obtain ⟨i0, hi0, hz0, hz1, hz2⟩ := info_parts VersionR.zero_info
  by_cases h0 : n = 0
  · subst h0
    go_enter Try.func101, Try.ntmps101
    go_wp2
    all_goals go_returns
    all_goals exact ⟨_, rfl, acc_none _ _ _ (Below.refl _ _)⟩
  · have hold : (Builtin.firstCells i0.size 0 (.slice none 0 0)).run Try.prog w.drew = .ok #[] w.drew := run_firstCells_none w.drew i0.size 0 0 0
    have hfit : Builtin.nextslicecap (0 + n) 0 * i0.bytes ≤ 281474976710656 := growslice_fits (by omega) (by rw [hz2]; omega)
    have hrz := fun ty => Lib.run_append_grow_zeros (P := Try.prog) w 37 3 ty 39 i0 _ .i64 .i64 Try.underlying37 Try.underlying3 hi0 hz0 none 0 0 [] hold n (by omega) (by rw [hz1]; omega) (by omega) (by omega) (by rw [hz2]; omega) hfit
    simp only [Nat.zero_add] at hrz
    have hge := grownCap_ge w n 0 39
    have hle := grownCap_le_maxLen w n 0 39 (by unfold maxLen; omega)
    have hst : Acc (α := VersionR) VersionR.enc 3 39 w [] (.slice (some ⟨w.heap.size, 0, none⟩) 0 (grownCap w n 0 39)) ((w.alloc (.cells (Builtin.zeroCells #[.int .i64 0, .int .i64 0, .int .i64 0] n ++ Builtin.zeroCells #[.int .i64 0, .int .i64 0, .int .i64 0] (grownCap w n 0 39 - n)) 39)).drew) := by
      refine ⟨⟨by simp, .inr ⟨w.heap.size, _, _, rfl, Nat.le_refl _, heap_alloc_new w _, Nat.zero_le _, hle, ?_, by simp⟩⟩, ((Below.refl _ _).alloc (by simp) _).drew⟩
      simp [size_zeroCells]
      omega
    have Hst := Lib.hid hst
    have hn0 : 0 < (n : Int) := by omega
    have hle2 : grownCap w n 0 39 ≤ 9223372036854775807 := by unfold maxLen at hle; omega
    generalize grownCap w n 0 39 = G at *
    have Hrz := Lib.hid hrz
    clear hold hfit hst hz0 hz1 hz2 hi0 hle hrz
    go_enter Try.func101, Try.ntmps101
    go_wp2_with (at_builtin; refine wpList_append_eq rfl _ _ 37 3 rfl _ _ rfl rfl _ _ (Hrz.out _) ?_)
    all_goals go_returns
    all_goals exact ⟨_, rfl, Hst.out⟩
set_option maxRecDepth 100000 in
set_option maxHeartbeats 4000000 in
theorem cat3Vn_any (g : Nat) (A0 : Option Addr) (n0 c0 : Nat) (l0 : List VersionR) (A1 : Option Addr) (n1 c1 : Nat) (l1 : List VersionR) (A2 : Option Addr) (n2 c2 : Nat) (l2 : List VersionR) (w : World) (ha0 : Row VersionR.enc 3 w A0 l0) (hn0 : n0 = l0.length) (h0 : w.cell? ⟨g, 0, none⟩ = some (.slice A0 n0 c0)) (ha1 : Row VersionR.enc 3 w A1 l1) (hn1 : n1 = l1.length) (h1 : w.cell? ⟨g, 1, none⟩ = some (.slice A1 n1 c1)) (ha2 : Row VersionR.enc 3 w A2 l2) (hn2 : n2 = l2.length) (h2 : w.cell? ⟨g, 2, none⟩ = some (.slice A2 n2 c2)) (hlen : l0.length + l1.length + l2.length ≤ 1048576) :
    Calls Try.prog 72 #[.slice (some ⟨g, 0, none⟩) 3 3] w (OwnPost VersionR.enc 3 39 w (l0 ++ l1 ++ l2)) := by
  obtain ⟨i0, hi0, hz0, hz1, hz2⟩ := info_parts VersionR.zero_info
  have hg0 : g < w.heap.size := cell_lt h0
  have Ha0 := Lib.hid ha0
  have Ha1 := Lib.hid ha1
  have Ha2 := Lib.hid ha2
  clear ha0 ha1 ha2
  have hgrow : ∀ W, Calls Try.prog 101 #[.slice none 0 0, .int .i64 ((n0 : Int) + (n1 : Int) + (n2 : Int))] W (GrowPost VersionR.enc 3 39 W) := fun W => by
    have h := growVn_any (n0 + n1 + n2) W (by omega)
    rw [show ((n0 + n1 + n2 : Nat) : Int) = (n0 : Int) + (n1 : Int) + (n2 : Int) by omega] at h
    exact h
  have Hgrow := Lib.hid hgrow
  have hb0 : n0 ≤ 1048576 := by omega
  have hb1 : n1 ≤ 1048576 := by omega
  have hb2 : n2 ≤ 1048576 := by omega
  have hbt : ((n0 : Int) + (n1 : Int) + (n2 : Int) : Int) ≤ 1048576 := by omega
  have Hn0 := Lib.hid hn0
  have Hn1 := Lib.hid hn1
  have Hn2 := Lib.hid hn2
  clear hgrow hn0 hn1 hn2
  go_enter Try.func72, Try.ntmps72
  go_wp2_with fail
  refine wp_loop_rounds 4 ?_
  rw [rounds_succ]
  go_wp2_with fail
  rw [rounds_succ]
  go_wp2_with fail
  rw [rounds_succ]
  go_wp2_with fail
  rw [rounds_succ]
  go_wp2_with fail
  refine (Hgrow.out _).mono ?_
  rintro e w1 ⟨v, rfl, hacc⟩
  clear Hgrow
  have Hacc0 := Lib.hid hacc
  have k0 : w1.cell? ⟨g, 0, none⟩ = some (.slice A0 n0 c0) := (hacc.2.cell hg0).trans h0
  have k1 : w1.cell? ⟨g, 1, none⟩ = some (.slice A1 n1 c1) := (hacc.2.cell hg0).trans h1
  have k2 : w1.cell? ⟨g, 2, none⟩ = some (.slice A2 n2 c2) := (hacc.2.cell hg0).trans h2
  have b1 := hacc.2
  clear hacc
  go_wp2_with fail
  refine wp_loop_rounds 4 ?_
  rw [rounds_succ]
  go_wp2_with (at_builtin; refine wpList_append_row rfl _ _ 37 rfl i0 _ 24 Try.underlying37 hi0 hz0 hz1 hz2 rfl (by decide) (by decide) _ ([]) rfl Hacc0.out A0 n0 c0 l0 rfl Hn0.out (Ha0.out.keep b1) VersionR.enc_len ?c0 (by have := Hn0.out; have := Hn1.out; have := Hn2.out; simp; omega) ?_)
  case c0 =>
    intro x u hu
    simp [VersionR.enc] at hu
    rcases hu with rfl | rfl | rfl <;> rfl
  intro v1 w2 hacc _ _
  have Hacc1 := Lib.hid hacc
  have b2 := hacc.2
  clear hacc k0 k1 k2
  have k1 : w2.cell? ⟨g, 1, none⟩ = some (.slice A1 n1 c1) := (b2.cell hg0).trans h1
  have k2 : w2.cell? ⟨g, 2, none⟩ = some (.slice A2 n2 c2) := (b2.cell hg0).trans h2
  go_wp2_with fail
  rw [rounds_succ]
  go_wp2_with (at_builtin; refine wpList_append_row rfl _ _ 37 rfl i0 _ 24 Try.underlying37 hi0 hz0 hz1 hz2 rfl (by decide) (by decide) _ (l0) rfl Hacc1.out A1 n1 c1 l1 rfl Hn1.out (Ha1.out.keep b2) VersionR.enc_len ?c1 (by have := Hn0.out; have := Hn1.out; have := Hn2.out; simp; omega) ?_)
  case c1 =>
    intro x u hu
    simp [VersionR.enc] at hu
    rcases hu with rfl | rfl | rfl <;> rfl
  intro v2 w3 hacc _ _
  have Hacc2 := Lib.hid hacc
  have b3 := hacc.2
  clear hacc k1 k2
  have k2 : w3.cell? ⟨g, 2, none⟩ = some (.slice A2 n2 c2) := (b3.cell hg0).trans h2
  go_wp2_with fail
  rw [rounds_succ]
  go_wp2_with (at_builtin; refine wpList_append_row rfl _ _ 37 rfl i0 _ 24 Try.underlying37 hi0 hz0 hz1 hz2 rfl (by decide) (by decide) _ (l0 ++ l1) rfl Hacc2.out A2 n2 c2 l2 rfl Hn2.out (Ha2.out.keep b3) VersionR.enc_len ?c2 (by have := Hn0.out; have := Hn1.out; have := Hn2.out; simp; omega) ?_)
  case c2 =>
    intro x u hu
    simp [VersionR.enc] at hu
    rcases hu with rfl | rfl | rfl <;> rfl
  intro v3 w4 hacc _ _
  have Hacc3 := Lib.hid hacc
  have b4 := hacc.2
  clear hacc k2
  go_wp2_with fail
  rw [rounds_succ]
  go_wp2
  all_goals go_returns
  all_goals first | exact acc_post Hacc3.out (by simp; omega) | (rw [List.append_assoc]; exact acc_post Hacc3.out (by simp; omega))
def hitVn (t : VersionR) : Option VersionR → Bool
  | some x => decide (cmpVer x t = 0)
  | none => false
set_option maxRecDepth 100000 in
set_option maxHeartbeats 4000000 in
/-- The halving: what is ahead of k is before t, and nothing from k on. -/
theorem bsfVn_any (A : Option Addr) (c : Nat) (l : List VersionR) (t : VersionR) (k : Nat) (w : World) (ha : Row VersionR.enc 3 w A l) (hk : k ≤ l.length)
    (h0 : ∀ (i : Nat) (x : VersionR), i < k → l[i]? = some x → cmpVer x t < 0) (h1 : ∀ (i : Nat) (x : VersionR), k ≤ i → l[i]? = some x → ¬ cmpVer x t < 0) :
    Calls Try.prog 70 #[.slice A l.length c, .agg #[.int .i64 t.a0, .int .i64 t.a1, .int .i64 t.a2], .func (.func 71) #[] #[]] w fun e w' => e = .returned (.tuple #[.int .i64 k, .bool (hitVn t l[k]?)]) ∧ Below w.heap.size w w' := by
  have hal := ha.1
  have H0 := Lib.hid h0
  have H1 := Lib.hid h1
  have hB : Below w.heap.size w (w.alloc (.cells #[.int .i64 t.a0, .int .i64 t.a1, .int .i64 t.a2] 39)) := (Below.refl _ _).alloc (Nat.le_refl _) _
  have Ha := Lib.hid ha
  clear h0 h1 ha
  go_enter Try.func70, Try.ntmps70
  go_wp2
  go_loopw [9, 10] (fun s5 s6 wr => ∃ lo hi : Nat, s5 = .int .i64 lo ∧ s6 = .int .i64 hi ∧ lo ≤ k ∧ k ≤ hi ∧ hi ≤ l.length ∧ Below (w.alloc (.cells #[.int .i64 t.a0, .int .i64 t.a1, .int .i64 t.a2] 39)).heap.size (w.alloc (.cells #[.int .i64 t.a0, .int .i64 t.a1, .int .i64 t.a2] 39)) wr) (fun s5 s6 _ => (intOf s6).toNat - (intOf s5).toNat)
  case atStart => exact ⟨0, l.length, rfl, rfl, Nat.zero_le _, hk, Nat.le_refl _, Below.refl _ _⟩
  case round =>
    obtain ⟨lo, hi, rfl, rfl, hlk, hkh, hhn, hbw⟩ := hrel
    have hBw := hB.trans (hbw.mono (by simp))
    have hbox : w.heap.size < wr.heap.size := by have := hbw.size; simp at this; omega
    have c0 : wr.cell? ⟨w.heap.size, 0, none⟩ = some (.int .i64 t.a0) := (hbw.cell (by simp)).trans (by simp [go_sem])
    have c1 : wr.cell? ⟨w.heap.size, 1, none⟩ = some (.int .i64 t.a1) := (hbw.cell (by simp)).trans (by simp [go_sem])
    have c2 : wr.cell? ⟨w.heap.size, 2, none⟩ = some (.int .i64 t.a2) := (hbw.cell (by simp)).trans (by simp [go_sem])
    have K0 := Bw.cellOf (w := wr) hbox c0
    have K1 := Bw.cellOf (w := wr) hbox c1
    have K2 := Bw.cellOf (w := wr) hbox c2
    by_cases hlt : lo < hi
    · obtain ⟨b, off, rfl, hblt, q0, q1, q2⟩ := (Ha.out.keep hBw).atVersion (i := (lo + hi) / 2) (by omega)
      have hx : l[(lo + hi) / 2]? = some l[(lo + hi) / 2] := List.getElem?_eq_getElem (by omega)
      generalize l[(lo + hi) / 2] = x at *
      have Hx := Lib.hid hx
      clear hx
      have i0 : (0 : Int) ≤ ((lo : Int) + (hi : Int)) / 2 := by omega
      have i1 : ((lo : Int) + (hi : Int)) / 2 < (l.length : Int) := by omega
      have i5 : (((lo : Int) + (hi : Int)) / 2).toNat = (lo + hi) / 2 := by omega
      by_cases hc : cmpVer x t < 0
      · have hm : (lo + hi) / 2 < k := by
          rcases Nat.lt_or_ge ((lo + hi) / 2) k with h | h
          · exact h
          · exact absurd hc (by have := H1.out _ _ h Hx.out; omega)
        have Q0 := Bw.cellOf (w := wr) hblt q0
        have Q1 := Bw.cellOf (w := wr) hblt q1
        have Q2 := Bw.cellOf (w := wr) hblt q2
        go_wp2_with fail
        refine wp_region_quiet_below (by kernel_rfl) (by kernel_rfl) ?_
        repeat (any_goals (go_big_quiet_step (first | (go_at_call 71; refine Calls.below_of (cmpVerI_any x t _)))))
        refine wpQuiet_nil ?_
        intro w1 hb1
        have hbw2 := hbw.trans (hb1.mono hbw.size)
        go_wp2
        go_roundw
        case rel => exact ⟨(lo + hi) / 2 + 1, hi, val_int (by omega), rfl, by omega, hkh, hhn, hbw2⟩
        case measure => simp [intOf]; omega
      · have hm : k ≤ (lo + hi) / 2 := by
          rcases Nat.lt_or_ge ((lo + hi) / 2) k with h | h
          · exact absurd (H0.out _ _ h Hx.out) hc
          · exact h
        have hd : 0 ≤ cmpVer x t := by omega
        have Q0 := Bw.cellOf (w := wr) hblt q0
        have Q1 := Bw.cellOf (w := wr) hblt q1
        have Q2 := Bw.cellOf (w := wr) hblt q2
        go_wp2_with fail
        refine wp_region_quiet_below (by kernel_rfl) (by kernel_rfl) ?_
        repeat (any_goals (go_big_quiet_step (first | (go_at_call 71; refine Calls.below_of (cmpVerI_any x t _)))))
        refine wpQuiet_nil ?_
        intro w1 hb1
        have hbw2 := hbw.trans (hb1.mono hbw.size)
        go_wp2
        go_roundw
        case rel => exact ⟨lo, (lo + hi) / 2, rfl, val_int (by omega), hlk, by omega, by omega, hbw2⟩
        case measure => simp [intOf]; omega
    · obtain rfl : lo = k := by omega
      have Hlh := Lib.hid (show hi = lo by omega)
      by_cases hll : lo < l.length
      · obtain ⟨b, off, rfl, hblt, q0, q1, q2⟩ := (Ha.out.keep hBw).atVersion (i := lo) hll
        have hx : l[lo]? = some l[lo] := List.getElem?_eq_getElem hll
        generalize l[lo] = x at *
        have hh : hitVn t l[lo]? = decide (cmpVer x t = 0) := by rw [hx]; rfl
        have Hh := Lib.hid hh
        have i0 : (0 : Int) ≤ (lo : Int) := by omega
        have i1 : (lo : Int) < (l.length : Int) := by omega
        clear hx hh
        have Q0 := Bw.cellOf (w := wr) hblt q0
        have Q1 := Bw.cellOf (w := wr) hblt q1
        have Q2 := Bw.cellOf (w := wr) hblt q2
        by_cases hz : cmpVer x t = 0
        all_goals
          first | have Hz := Lib.hid (show (decide (cmpVer x t = 0) = true) from decide_eq_true hz) | have Hz := Lib.hid (show (decide (cmpVer x t = 0) = false) from decide_eq_false hz)
          go_wp2_with fail
          refine wp_region_quiet_below (by kernel_rfl) (by kernel_rfl) ?_
          repeat (any_goals (go_big_quiet_step (first | (go_at_call 71; refine Calls.below_of (cmpVerI_any x t _)))))
          refine wpQuiet_nil ?_
          intro w1 hb1
          have hbw2 := hBw.trans (hb1.mono hBw.size)
          clear hz
          go_wp2
          all_goals go_returns
          all_goals exact ⟨by rw [Hh.out]; first | rfl | (rw [Hz.out]; rfl) | simp [Hz.out] | (have := Hz.out; simp_all), hbw2⟩
      · have hh : hitVn t l[lo]? = false := by rw [List.getElem?_eq_none (by omega)]; rfl
        have Hh := Lib.hid hh
        clear hh
        go_wp2_with fail
        refine wp_region_quiet_below (by kernel_rfl) (by kernel_rfl) ?_
        repeat (any_goals (go_big_quiet_step (fail)))
        refine wpQuiet_nil ?_
        intro w1 hb1
        have hbw2 := hBw.trans (hb1.mono hBw.size)
        go_wp2
        all_goals go_returns
        all_goals exact ⟨by rw [Hh.out]; first | rfl | (simp; omega) | simp, hbw2⟩
end Go.Proofs.Ytjjjlpnbniofjab
