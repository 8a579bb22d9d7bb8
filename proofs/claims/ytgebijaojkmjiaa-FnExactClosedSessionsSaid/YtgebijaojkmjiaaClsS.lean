import Derived.Test.YtgebijaojkmjiaaSe
import Derived.Test.YtgebijaojkmjiaaCloneSe
import Derived.Test.YtgebijaojkmjiaaSrch
import Derived.Deep.RegionHeld3
import Derived.Shelf.Abstract
namespace Go.Proofs.Ytgebijaojkmjiaa
open Go.RowKit
def clsP (mark : Int) (s : SessionR) : Bool := decide (s.a1 - 1 ≤ mark)
def clsV (l : List SessionR) (mark : Int) : Prop := vSes l = true ∧ -1 ≤ mark ∧ mark ≤ 1998
instance (l : List SessionR) (mark : Int) : Decidable (clsV l mark) := by unfold clsV; infer_instance
def clsA (l : List SessionR) (mark : Int) : List SessionR := if clsV l mark then l.filter (clsP mark) else []
def clsB (l : List SessionR) (mark : Int) : List SessionR := if clsV l mark then l.filter (fun x => !clsP mark x) else []
theorem ses_bd {l : List SessionR} (hv : vSes l = true) {k : Nat} {x : SessionR} (hx : l[k]? = some x) : 0 ≤ x.a0 ∧ x.a0 ≤ 999 ∧ x.a0 + 1 ≤ x.a1 ∧ x.a1 ≤ 1998 ∧ 1 ≤ x.a2 ∧ x.a2 ≤ 40 ∧ 0 ≤ x.a3 ∧ x.a3 ≤ x.a2 * 99 := by
  unfold vSes at hv
  rw [Bool.and_eq_true, Bool.and_eq_true, List.all_eq_true] at hv
  exact se_bd (hv.1.2 x (List.mem_of_getElem? hx))
set_option maxRecDepth 100000 in
set_option maxHeartbeats 4000000 in
theorem specCls_any (A : Option Addr) (c : Nat) (l : List SessionR) (mark : Int) (w : World) (ha : Row SessionR.enc 4 w A l) :
    Calls Try.prog 64 #[.slice A l.length c, .int .i64 mark] w (Own2Post SessionR.enc 4 133 SessionR.enc 4 133 w (clsA l mark) (clsB l mark)) := by
  have hal := ha.1
  obtain ⟨i0, hi0, hz0, hz1, hz2⟩ := info_parts SessionR.zero_info
  have hB1 : Below w.heap.size w (w.alloc (.cells #[] 133)) := (Below.refl _ _).alloc (Nat.le_refl _) _
  have hB2 : Below w.heap.size w ((w.alloc (.cells #[] 133)).alloc (.cells #[] 133)) := hB1.alloc hB1.size _
  have hs1 := acc_keep (acc_made SessionR.enc 4 133 (Below.refl w.heap.size w)) ((Below.refl _ _).alloc (Nat.le_refl _) (.cells #[] 133))
  have hs2 := acc_made SessionR.enc 4 133 hB1
  have hst : Acc SessionR.enc 4 133 w [] (.slice (some ⟨w.heap.size, 0, none⟩) 0 0) ((w.alloc (.cells #[] 133)).alloc (.cells #[] 133)) ∧ Acc SessionR.enc 4 133 w [] (.slice (some ⟨w.heap.size + 1, 0, none⟩) 0 0) ((w.alloc (.cells #[] 133)).alloc (.cells #[] 133)) ∧
      (∀ g g', Value.ownBlock (.slice (some ⟨w.heap.size, 0, none⟩) 0 0) = some g → Value.ownBlock (.slice (some ⟨w.heap.size + 1, 0, none⟩) 0 0) = some g' → g ≠ g') :=
    ⟨hs1, by simpa using hs2, fun g g' h h' => by simp [Value.ownBlock] at h h'; omega⟩
  have Hst := Lib.hid hst
  clear hst hs1 hs2 hB1
  go_enter Try.func64, Try.ntmps64
  go_wp2_with fail
  refine (specSes_any A c l _ (ha.keep hB2)).mono ?_
  rintro e w1 ⟨rfl, hb1⟩
  have Hs : Hid _ := Lib.hid (show _ ∧ _ ∧ _ from ⟨acc_keep Hst.out.1 hb1, acc_keep Hst.out.2.1 hb1, Hst.out.2.2⟩)
  have hbw1 := hB2.trans (hb1.mono hB2.size)
  clear hB2 hb1 Hst
  by_cases hv : clsV l mark
  · have HF := Lib.hid (show clsA l mark = l.filter (clsP mark) ∧ clsB l mark = l.filter (fun x => !clsP mark x) by unfold clsA clsB; rw [if_pos hv, if_pos hv]; exact ⟨rfl, rfl⟩)
    obtain ⟨hv, m0, m1⟩ := hv
    rw [hv]
    have Hv := Lib.hid hv
    clear hv
    go_wp2_with (go_at_call 95; refine (inRS_t _ _ _ _ (by omega) (by omega)).mono ?_; rintro e w' ⟨rfl, rfl⟩)
    go_loopw [6, 7, 8] (fun v u i wr => ∃ k : Nat, k ≤ l.length ∧ i = .int .i64 k ∧ Acc SessionR.enc 4 133 w ((l.take k).filter (clsP mark)) v wr ∧ Acc SessionR.enc 4 133 w ((l.take k).filter (fun x => !clsP mark x)) u wr ∧ (∀ g g', v.ownBlock = some g → u.ownBlock = some g' → g ≠ g')) (fun _ _ i _ => l.length - (intOf i).toNat)
    case atStart => exact ⟨0, Nat.zero_le _, rfl, by simpa using Hs.out⟩
    case round =>
      clear Hs hbw1
      obtain ⟨k, hk, rfl, hacc⟩ := hrel
      have Hacc := Lib.hid hacc
      have hbw := hacc.1.2
      clear hacc
      by_cases hlt : k < l.length
      · obtain ⟨b, off, rfl, _, q0, q1, q2, q3⟩ := (ha.keep hbw).atSession hlt
        have hx := List.getElem?_eq_getElem hlt
        obtain ⟨x0, x1, x2, x3, -, -, -, -⟩ := ses_bd Hv.out hx
        generalize l[k] = x at *
        have Hx := Lib.hid hx
        have hz := hbw.size
        have hl1 := filter_len (clsP mark) l k
        have hl2 := filter_len (fun x => !clsP mark x) l k
        clear hx ha hbw
        by_cases hp : x.a1 - 1 ≤ mark
        · have hin : clsP mark x = true := by unfold clsP; exact decide_eq_true hp
          have Hn1 := Lib.hid (filter_next (l := l) Hx.out hin)
          have Hn2 := Lib.hid (filter_skip (p := fun x => !clsP mark x) (l := l) Hx.out (by simp [hin]))
          clear hin
          have hown := Hacc.out.1.1
          go_wp2_with (first | (at_builtin; refine wpList_append_own_at _ rfl _ _ 89 rfl w.heap.size 133 i0 _ 4 32 Try.underlying89 hi0 hz0 hz1 hz2 rfl (by decide) _ _ _ rfl (hown.alloc _) ⟨wr.heap.size, 0, none⟩ 1 1 (SessionR.enc x) rfl rfl ?c1 ?c2 ?c3 ?c4 ?c5 ?_) | go_in)
          case c1 =>
            intro j u hu
            rcases j with _ | _ | _ | _ | j <;> simp [SessionR.enc] at hu <;> subst hu <;> simp [Addr.add, go_sem]
          case c2 => intro u hu; simp [SessionR.enc] at hu; rcases hu with rfl | rfl | rfl | rfl <;> rfl
          case c3 => unfold maxLen; omega
          case c4 => omega
          case c5 => first | omega | (simp; done) | (simp; omega)
          intro v' w2 hown' hg' _ hat
          have hnext := acc2_push Hacc.out.1 Hacc.out.2.1 Hacc.out.2.2 ((Below.refl _ _).alloc (Nat.le_refl _) _) hown' hg' (by simpa using hat)
          rw [← Hn1.out, ← Hn2.out] at hnext
          have Hn := Lib.hid hnext
          clear hnext hown' hg' hown Hacc Hn1 Hn2 hat
          go_wp2
          go_roundw
          case rel => exact ⟨k + 1, by omega, by go_num, Hn.out⟩
          case measure => simp [intOf]; omega
        · have hin : clsP mark x = false := by unfold clsP; exact decide_eq_false hp
          have Hn1 := Lib.hid (filter_skip (l := l) Hx.out hin)
          have Hn2 := Lib.hid (filter_next (p := fun x => !clsP mark x) (l := l) Hx.out (by simp [hin]))
          clear hin
          have hown := Hacc.out.2.1.1
          go_wp2_with (first | (at_builtin; refine wpList_append_own_at _ rfl _ _ 89 rfl w.heap.size 133 i0 _ 4 32 Try.underlying89 hi0 hz0 hz1 hz2 rfl (by decide) _ _ _ rfl (hown.alloc _) ⟨wr.heap.size, 0, none⟩ 1 1 (SessionR.enc x) rfl rfl ?c1 ?c2 ?c3 ?c4 ?c5 ?_) | go_in)
          case c1 =>
            intro j u hu
            rcases j with _ | _ | _ | _ | j <;> simp [SessionR.enc] at hu <;> subst hu <;> simp [Addr.add, go_sem]
          case c2 => intro u hu; simp [SessionR.enc] at hu; rcases hu with rfl | rfl | rfl | rfl <;> rfl
          case c3 => unfold maxLen; omega
          case c4 => omega
          case c5 => first | omega | (simp; done) | (simp; omega)
          intro v' w2 hown' hg' _ hat
          have hnext := acc2_push' Hacc.out.2.1 Hacc.out.1 Hacc.out.2.2 ((Below.refl _ _).alloc (Nat.le_refl _) _) hown' hg' (by simpa using hat)
          rw [← Hn1.out, ← Hn2.out] at hnext
          have Hn := Lib.hid hnext
          clear hnext hown' hg' hown Hacc Hn1 Hn2 hat
          go_wp2
          go_roundw
          case rel => exact ⟨k + 1, by omega, by go_num, Hn.out.2.1, Hn.out.1, Hn.out.2.2⟩
          case measure => simp [intOf]; omega
      · have hkl : l.take k = l := List.take_of_length_le (by omega)
        have hfin := Hacc.out
        rw [hkl] at hfin
        have Hfin := Lib.hid hfin
        have hl1 := List.length_filter_le (clsP mark) l
        have hl2 := List.length_filter_le (fun x => !clsP mark x) l
        clear hfin hkl Hacc
        go_wp2
        all_goals go_returns
        all_goals (rw [HF.out.1, HF.out.2]; exact acc2 Hfin.out.1 Hfin.out.2.1 (by omega) (by omega) Hfin.out.2.2)
  · have HF := Lib.hid (show clsA l mark = [] ∧ clsB l mark = [] by unfold clsA clsB; rw [if_neg hv, if_neg hv]; exact ⟨rfl, rfl⟩)
    rcases Bool.eq_false_or_eq_true (vSes l) with h1 | h1
    · have Hm := Lib.hid (show ¬ (-1 ≤ mark ∧ mark ≤ 1998) from fun h => hv ⟨h1, h.1, h.2⟩)
      rw [h1]
      clear hv h1
      go_wp2_with (go_at_call 95; refine (inRS_f _ _ _ _ Hm.out).mono ?_; rintro e w' ⟨rfl, rfl⟩)
      all_goals go_returns
      all_goals (rw [HF.out.1, HF.out.2]; exact acc2 (acc_none _ _ _ hbw1) (acc_none _ _ _ hbw1) (by simp) (by simp) (fun g g' h _ => by simp [Value.ownBlock] at h))
    · rw [h1]
      clear hv h1
      go_wp2
      all_goals go_returns
      all_goals (rw [HF.out.1, HF.out.2]; exact acc2 (acc_none _ _ _ hbw1) (acc_none _ _ _ hbw1) (by simp) (by simp) (fun g g' h _ => by simp [Value.ownBlock] at h))
end Go.Proofs.Ytgebijaojkmjiaa
