import Derived.Test.YtjjjlpnbniofjabGrowTm
namespace Go.Proofs.Ytjjjlpnbniofjab
open Go.RowKit
set_option maxRecDepth 100000 in
set_option maxHeartbeats 4000000 in
theorem cat2Tm_any (g : Nat) (A0 : Option Addr) (n0 c0 : Nat) (l0 : List TimerR) (A1 : Option Addr) (n1 c1 : Nat) (l1 : List TimerR) (w : World) (ha0 : Row TimerR.enc 3 w A0 l0) (hn0 : n0 = l0.length) (h0 : w.cell? ⟨g, 0, none⟩ = some (.slice A0 n0 c0)) (ha1 : Row TimerR.enc 3 w A1 l1) (hn1 : n1 = l1.length) (h1 : w.cell? ⟨g, 1, none⟩ = some (.slice A1 n1 c1)) (hlen : l0.length + l1.length ≤ 1048576) :
    Calls Try.prog 60 #[.slice (some ⟨g, 0, none⟩) 2 2] w (OwnPost TimerR.enc 3 25 w (l0 ++ l1)) := by
  obtain ⟨i0, hi0, hz0, hz1, hz2⟩ := info_parts TimerR.zero_info
  have hg0 : g < w.heap.size := cell_lt h0
  have Ha0 := Lib.hid ha0
  have Ha1 := Lib.hid ha1
  clear ha0 ha1
  have hgrow : ∀ W, Calls Try.prog 95 #[.slice none 0 0, .int .i64 ((n0 : Int) + (n1 : Int))] W (GrowPost TimerR.enc 3 25 W) := fun W => by
    have h := growTm_any (n0 + n1) W (by omega)
    rw [show ((n0 + n1 : Nat) : Int) = (n0 : Int) + (n1 : Int) by omega] at h
    exact h
  have Hgrow := Lib.hid hgrow
  have hb0 : n0 ≤ 1048576 := by omega
  have hb1 : n1 ≤ 1048576 := by omega
  have hbt : ((n0 : Int) + (n1 : Int) : Int) ≤ 1048576 := by omega
  have Hn0 := Lib.hid hn0
  have Hn1 := Lib.hid hn1
  clear hgrow hn0 hn1
  go_enter Try.func60, Try.ntmps60
  go_wp2_with fail
  refine wp_loop_rounds 3 ?_
  rw [rounds_succ]
  go_wp2_with fail
  rw [rounds_succ]
  go_wp2_with fail
  rw [rounds_succ]
  go_wp2_with fail
  refine (Hgrow.out _).mono ?_
  rintro e w1 ⟨v, rfl, hacc⟩
  clear Hgrow
  have Hacc0 := Lib.hid hacc
  have k0 : w1.cell? ⟨g, 0, none⟩ = some (.slice A0 n0 c0) := (hacc.2.cell hg0).trans h0
  have k1 : w1.cell? ⟨g, 1, none⟩ = some (.slice A1 n1 c1) := (hacc.2.cell hg0).trans h1
  have b1 := hacc.2
  clear hacc
  go_wp2_with fail
  refine wp_loop_rounds 3 ?_
  rw [rounds_succ]
  go_wp2_with (at_builtin; refine wpList_append_row rfl _ _ 23 rfl i0 _ 24 Try.underlying23 hi0 hz0 hz1 hz2 rfl (by decide) (by decide) _ ([]) rfl Hacc0.out A0 n0 c0 l0 rfl Hn0.out (Ha0.out.keep b1) TimerR.enc_len ?c0 (by have := Hn0.out; have := Hn1.out; simp; omega) ?_)
  case c0 =>
    intro x u hu
    simp [TimerR.enc] at hu
    rcases hu with rfl | rfl | rfl <;> rfl
  intro v1 w2 hacc _ _
  have Hacc1 := Lib.hid hacc
  have b2 := hacc.2
  clear hacc k0 k1
  have k1 : w2.cell? ⟨g, 1, none⟩ = some (.slice A1 n1 c1) := (b2.cell hg0).trans h1
  go_wp2_with fail
  rw [rounds_succ]
  go_wp2_with (at_builtin; refine wpList_append_row rfl _ _ 23 rfl i0 _ 24 Try.underlying23 hi0 hz0 hz1 hz2 rfl (by decide) (by decide) _ (l0) rfl Hacc1.out A1 n1 c1 l1 rfl Hn1.out (Ha1.out.keep b2) TimerR.enc_len ?c1 (by have := Hn0.out; have := Hn1.out; simp; omega) ?_)
  case c1 =>
    intro x u hu
    simp [TimerR.enc] at hu
    rcases hu with rfl | rfl | rfl <;> rfl
  intro v2 w3 hacc _ _
  have Hacc2 := Lib.hid hacc
  have b3 := hacc.2
  clear hacc k1
  go_wp2_with fail
  rw [rounds_succ]
  go_wp2
  all_goals go_returns
  all_goals first | exact acc_post Hacc2.out (by simp; omega) | (rw [List.append_assoc]; exact acc_post Hacc2.out (by simp; omega))
set_option maxRecDepth 100000 in
set_option maxHeartbeats 4000000 in
theorem cat3Tm_any (g : Nat) (A0 : Option Addr) (n0 c0 : Nat) (l0 : List TimerR) (A1 : Option Addr) (n1 c1 : Nat) (l1 : List TimerR) (A2 : Option Addr) (n2 c2 : Nat) (l2 : List TimerR) (w : World) (ha0 : Row TimerR.enc 3 w A0 l0) (hn0 : n0 = l0.length) (h0 : w.cell? ⟨g, 0, none⟩ = some (.slice A0 n0 c0)) (ha1 : Row TimerR.enc 3 w A1 l1) (hn1 : n1 = l1.length) (h1 : w.cell? ⟨g, 1, none⟩ = some (.slice A1 n1 c1)) (ha2 : Row TimerR.enc 3 w A2 l2) (hn2 : n2 = l2.length) (h2 : w.cell? ⟨g, 2, none⟩ = some (.slice A2 n2 c2)) (hlen : l0.length + l1.length + l2.length ≤ 1048576) :
    Calls Try.prog 60 #[.slice (some ⟨g, 0, none⟩) 3 3] w (OwnPost TimerR.enc 3 25 w (l0 ++ l1 ++ l2)) := by
  obtain ⟨i0, hi0, hz0, hz1, hz2⟩ := info_parts TimerR.zero_info
  have hg0 : g < w.heap.size := cell_lt h0
  have Ha0 := Lib.hid ha0
  have Ha1 := Lib.hid ha1
  have Ha2 := Lib.hid ha2
  clear ha0 ha1 ha2
  have hgrow : ∀ W, Calls Try.prog 95 #[.slice none 0 0, .int .i64 ((n0 : Int) + (n1 : Int) + (n2 : Int))] W (GrowPost TimerR.enc 3 25 W) := fun W => by
    have h := growTm_any (n0 + n1 + n2) W (by omega)
    rw [show ((n0 + n1 + n2 : Nat) : Int) = (n0 : Int) + (n1 : Int) + (n2 : Int) by omega] at h
    exact h
  have Hgrow := Lib.hid hgrow
  have hb0 : n0 ≤ 1048576 := by omega
  have hb1 : n1 ≤ 1048576 := by omega
  have hb2 : n2 ≤ 1048576 := by omega
  have hbt : ((n0 : Int) + (n1 : Int) + (n2 : Int) : Int) ≤ 1048576 := by omega
  have Hn0 := Lib.hid hn0
  have Hn1 := Lib.hid hn1
  have Hn2 := Lib.hid hn2
  clear hgrow hn0 hn1 hn2
  go_enter Try.func60, Try.ntmps60
  go_wp2_with fail
  refine wp_loop_rounds 4 ?_
  rw [rounds_succ]
  go_wp2_with fail
  rw [rounds_succ]
  go_wp2_with fail
  rw [rounds_succ]
  go_wp2_with fail
  rw [rounds_succ]
  go_wp2_with fail
  refine (Hgrow.out _).mono ?_
  rintro e w1 ⟨v, rfl, hacc⟩
  clear Hgrow
  have Hacc0 := Lib.hid hacc
  have k0 : w1.cell? ⟨g, 0, none⟩ = some (.slice A0 n0 c0) := (hacc.2.cell hg0).trans h0
  have k1 : w1.cell? ⟨g, 1, none⟩ = some (.slice A1 n1 c1) := (hacc.2.cell hg0).trans h1
  have k2 : w1.cell? ⟨g, 2, none⟩ = some (.slice A2 n2 c2) := (hacc.2.cell hg0).trans h2
  have b1 := hacc.2
  clear hacc
  go_wp2_with fail
  refine wp_loop_rounds 4 ?_
  rw [rounds_succ]
  go_wp2_with (at_builtin; refine wpList_append_row rfl _ _ 23 rfl i0 _ 24 Try.underlying23 hi0 hz0 hz1 hz2 rfl (by decide) (by decide) _ ([]) rfl Hacc0.out A0 n0 c0 l0 rfl Hn0.out (Ha0.out.keep b1) TimerR.enc_len ?c0 (by have := Hn0.out; have := Hn1.out; have := Hn2.out; simp; omega) ?_)
  case c0 =>
    intro x u hu
    simp [TimerR.enc] at hu
    rcases hu with rfl | rfl | rfl <;> rfl
  intro v1 w2 hacc _ _
  have Hacc1 := Lib.hid hacc
  have b2 := hacc.2
  clear hacc k0 k1 k2
  have k1 : w2.cell? ⟨g, 1, none⟩ = some (.slice A1 n1 c1) := (b2.cell hg0).trans h1
  have k2 : w2.cell? ⟨g, 2, none⟩ = some (.slice A2 n2 c2) := (b2.cell hg0).trans h2
  go_wp2_with fail
  rw [rounds_succ]
  go_wp2_with (at_builtin; refine wpList_append_row rfl _ _ 23 rfl i0 _ 24 Try.underlying23 hi0 hz0 hz1 hz2 rfl (by decide) (by decide) _ (l0) rfl Hacc1.out A1 n1 c1 l1 rfl Hn1.out (Ha1.out.keep b2) TimerR.enc_len ?c1 (by have := Hn0.out; have := Hn1.out; have := Hn2.out; simp; omega) ?_)
  case c1 =>
    intro x u hu
    simp [TimerR.enc] at hu
    rcases hu with rfl | rfl | rfl <;> rfl
  intro v2 w3 hacc _ _
  have Hacc2 := Lib.hid hacc
  have b3 := hacc.2
  clear hacc k1 k2
  have k2 : w3.cell? ⟨g, 2, none⟩ = some (.slice A2 n2 c2) := (b3.cell hg0).trans h2
  go_wp2_with fail
  rw [rounds_succ]
  go_wp2_with (at_builtin; refine wpList_append_row rfl _ _ 23 rfl i0 _ 24 Try.underlying23 hi0 hz0 hz1 hz2 rfl (by decide) (by decide) _ (l0 ++ l1) rfl Hacc2.out A2 n2 c2 l2 rfl Hn2.out (Ha2.out.keep b3) TimerR.enc_len ?c2 (by have := Hn0.out; have := Hn1.out; have := Hn2.out; simp; omega) ?_)
  case c2 =>
    intro x u hu
    simp [TimerR.enc] at hu
    rcases hu with rfl | rfl | rfl <;> rfl
  intro v3 w4 hacc _ _
  have Hacc3 := Lib.hid hacc
  have b4 := hacc.2
  clear hacc k2
  go_wp2_with fail
  rw [rounds_succ]
  go_wp2
  all_goals go_returns
  all_goals first | exact acc_post Hacc3.out (by simp; omega) | (rw [List.append_assoc]; exact acc_post Hacc3.out (by simp; omega))
end Go.Proofs.Ytjjjlpnbniofjab
