import Derived.Test.YtehedhkadjidpaaMgS
import Derived.Test.YtehedhkadjidpaaArg
namespace Go.Proofs.Ytehedhkadjidpaa
open Go.RowKit
set_option maxRecDepth 100000 in
set_option maxHeartbeats 4000000 in
theorem specMerge_any (A : Option Addr) (c : Nat) (a : List EventR) (Ax : Option Addr) (cx : Nat) (b : List EventR) (w : World) (ha : Row EventR.enc 3 w A a) (hb : Row EventR.enc 3 w Ax b) :
    Calls Try.prog 16 #[.slice A a.length c, .slice Ax b.length cx] w (OwnPost EventR.enc 3 32 w (mgF a b)) := by
  have hal := ha.1
  have hbl := hb.1
  obtain ⟨j0, hj0, hy0, hy1, hy2⟩ := info_parts EventR.zero_info
  have hno : ∀ wr, (¬ (vEvs a = true ∧ vEvs b = true ∧ isSo a = true ∧ isSo b = true ∧ a.length + b.length ≤ 40)) → Below w.heap.size w wr → OwnPost EventR.enc 3 32 w (mgF a b) (.returned (.slice none 0 0)) wr := fun wr h hB => by
    unfold mgF; rw [if_neg h]; exact acc_post (acc_none EventR.enc 3 32 hB) (by simp)
  have Hno := Lib.hid hno
  clear hno
  go_enter Try.func16, Try.ntmps16
  go_wp2_with fail
  refine (specValidEvents_any A c a w ha).mono ?_
  rintro e w1 ⟨rfl, hb1⟩
  rcases Bool.eq_false_or_eq_true (vEvs a) with h1 | h1
  rotate_left
  · rw [h1]
    have Hd := Lib.hid (Hno.out w1 (fun h => by rw [h1] at h; exact absurd h.1 (by simp)) hb1)
    clear h1
    go_wp2
    all_goals go_returns
    all_goals exact Hd.out
  rw [h1]
  have H1 := Lib.hid h1
  clear h1
  go_wp2_with fail
  refine (specValidEvents_any Ax cx b w1 (hb.keep hb1)).mono ?_
  rintro e w2 ⟨rfl, hb2⟩
  have B2 := hb1.trans (hb2.mono hb1.size)
  clear hb1 hb2
  rcases Bool.eq_false_or_eq_true (vEvs b) with h2 | h2
  rotate_left
  · rw [h2]
    have Hd := Lib.hid (Hno.out w2 (fun h => by rw [h2] at h; exact absurd h.2.1 (by simp)) B2)
    clear h2
    go_wp2
    all_goals go_returns
    all_goals exact Hd.out
  rw [h2]
  have H2 := Lib.hid h2
  clear h2
  go_wp2_with fail
  refine (specIsSo_any A c a w2 (ha.keep B2)).mono ?_
  rintro e w3 ⟨rfl, hb3⟩
  have B3 := B2.trans (hb3.mono B2.size)
  clear B2 hb3
  rcases Bool.eq_false_or_eq_true (isSo a) with h3 | h3
  rotate_left
  · rw [h3]
    have Hd := Lib.hid (Hno.out w3 (fun h => by rw [h3] at h; exact absurd h.2.2.1 (by simp)) B3)
    clear h3
    go_wp2
    all_goals go_returns
    all_goals exact Hd.out
  rw [h3]
  have H3 := Lib.hid h3
  clear h3
  go_wp2_with fail
  refine (specIsSo_any Ax cx b w3 (hb.keep B3)).mono ?_
  rintro e w4 ⟨rfl, hb4⟩
  have B4 := B3.trans (hb4.mono B3.size)
  clear B3 hb4
  rcases Bool.eq_false_or_eq_true (isSo b) with h4 | h4
  rotate_left
  · rw [h4]
    have Hd := Lib.hid (Hno.out w4 (fun h => by rw [h4] at h; exact absurd h.2.2.2.1 (by simp)) B4)
    clear h4
    go_wp2
    all_goals go_returns
    all_goals exact Hd.out
  rw [h4]
  have H4 := Lib.hid h4
  clear h4
  by_cases hlen : a.length + b.length ≤ 40
  rotate_left
  · have Hd := Lib.hid (Hno.out w4 (fun h => hlen h.2.2.2.2) B4)
    have hl' : ¬ ((a.length : Int) + (b.length : Int) ≤ 40) := by omega
    clear hlen
    go_wp2
    all_goals go_returns
    all_goals exact Hd.out
  have hl' : (a.length : Int) + (b.length : Int) ≤ 40 := by omega
  have HF := Lib.hid (show mgF a b = sortE (a ++ b) by unfold mgF; rw [if_pos ⟨H1.out, H2.out, H3.out, H4.out, hlen⟩])
  clear H1 H2 H3 H4 Hno
  go_wp2_with fail
  refine (copyE_any A c a w4 (ha.keep B4)).mono ?_
  rintro e w5 ⟨A5, c5, rfl, o5, b5⟩
  have B5 := B4.trans (b5.mono B4.size)
  have Hacc := Lib.hid (own_acc (w := w) o5 B4.size B5)
  clear o5 b5 B4
  go_wp2_with (first | (at_builtin; (refine wpList_append_row rfl _ _ 24 rfl j0 _ 24 Try.underlying24 hj0 hy0 hy1 hy2 rfl (by decide) (by decide) _ a rfl Hacc.out Ax b.length cx b rfl rfl (hb.keep B5) EventR.enc_len (by intro x u hu; simp [EventR.enc] at hu; rcases hu with rfl | rfl | rfl <;> rfl) (by omega) ?_); intro v6 w6 hacc6 _ _) | fail)
  obtain ⟨A6, c6, rfl⟩ := (show Own EventR.enc 3 32 w6 w.heap.size v6 (a ++ b) from ⟨by rw [List.length_append]; omega, hacc6.1⟩).form
  have o6 : Own EventR.enc 3 32 w6 w.heap.size (.slice A6 (a ++ b).length c6) (a ++ b) := ⟨by rw [List.length_append]; omega, hacc6.1⟩
  have B6 := hacc6.2
  have hr6 := o6.row EventR.enc_len
  obtain ⟨L, hL⟩ : ∃ L, L = a ++ b := ⟨_, rfl⟩
  rw [← hL] at hr6 HF ⊢
  have HL := Lib.hid (show L.length ≤ 40 by rw [hL, List.length_append]; exact hlen)
  clear hL hacc6 o6 Hacc B5
  refine (specSortIn_any A6 c6 L _ hr6).mono ?_
  rintro e w7 ⟨A7, c7, rfl, o7, b7⟩
  have Hp := Lib.hid (show _ ∧ _ from ⟨own_rebase (B := w.heap.size) o7 B6.size, B6.trans (b7.mono B6.size)⟩)
  clear o7 b7
  go_wp2
  all_goals go_returns
  all_goals (rw [HF.out]; exact ⟨A7, c7, rfl, Hp.out.1, Hp.out.2⟩)
end Go.Proofs.Ytehedhkadjidpaa
