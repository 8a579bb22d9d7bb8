import Derived.Test.YtjjjlpnbniofjabCloneTm
import Derived.Test.YtjjjlpnbniofjabSrch
namespace Go.Proofs.Ytjjjlpnbniofjab
open Go.RowKit
def fireP (now : Int) (t : TimerR) : Bool := decide (t.a0 ≤ now)
def fireA (l : List TimerR) (now : Int) : List TimerR := if vTims l = true then l.filter (fireP now) else []
def fireB (l : List TimerR) (now : Int) : List TimerR := if vTims l = true then l.filter (fun x => !fireP now x) else []
set_option maxRecDepth 100000 in
set_option maxHeartbeats 4000000 in
theorem specFire_any (A : Option Addr) (c : Nat) (l : List TimerR) (now : Int) (w : World) (ha : Row TimerR.enc 3 w A l) :
    Calls Try.prog 24 #[.slice A l.length c, .int .i64 now] w (Own2Post TimerR.enc 3 25 TimerR.enc 3 25 w (fireA l now) (fireB l now)) := by
  have hal := ha.1
  obtain ⟨i0, hi0, hz0, hz1, hz2⟩ := info_parts TimerR.zero_info
  have hB1 : Below w.heap.size w (w.alloc (.cells #[] 25)) := (Below.refl _ _).alloc (Nat.le_refl _) _
  have hB2 : Below w.heap.size w ((w.alloc (.cells #[] 25)).alloc (.cells #[] 25)) := hB1.alloc hB1.size _
  have hs1 := acc_keep (acc_made TimerR.enc 3 25 (Below.refl w.heap.size w)) ((Below.refl _ _).alloc (Nat.le_refl _) (.cells #[] 25))
  have hs2 := acc_made TimerR.enc 3 25 hB1
  have hst : Acc TimerR.enc 3 25 w [] (.slice (some ⟨w.heap.size, 0, none⟩) 0 0) ((w.alloc (.cells #[] 25)).alloc (.cells #[] 25)) ∧ Acc TimerR.enc 3 25 w [] (.slice (some ⟨w.heap.size + 1, 0, none⟩) 0 0) ((w.alloc (.cells #[] 25)).alloc (.cells #[] 25)) ∧
      (∀ g g', Value.ownBlock (.slice (some ⟨w.heap.size, 0, none⟩) 0 0) = some g → Value.ownBlock (.slice (some ⟨w.heap.size + 1, 0, none⟩) 0 0) = some g' → g ≠ g') :=
    ⟨hs1, by simpa using hs2, fun g g' h h' => by simp [Value.ownBlock] at h h'; omega⟩
  have Hst := Lib.hid hst
  clear hst hs1 hs2 hB1
  go_enter Try.func24, Try.ntmps24
  go_wp2_with fail
  refine (specTims_any A c l _ (ha.keep hB2)).mono ?_
  rintro e w1 ⟨rfl, hb1⟩
  have Hs : Hid _ := Lib.hid (show _ ∧ _ ∧ _ from ⟨acc_keep Hst.out.1 hb1, acc_keep Hst.out.2.1 hb1, Hst.out.2.2⟩)
  have hbw1 := hB2.trans (hb1.mono hB2.size)
  clear hB2 hb1 Hst
  rcases Bool.eq_false_or_eq_true (vTims l) with hv | hv
  · have HF := Lib.hid (show fireA l now = l.filter (fireP now) ∧ fireB l now = l.filter (fun x => !fireP now x) by unfold fireA fireB; rw [hv]; simp)
    rw [hv]
    clear hv
    go_wp2
    go_loopw [6, 7, 8] (fun v u i wr => ∃ k : Nat, k ≤ l.length ∧ i = .int .i64 k ∧ Acc TimerR.enc 3 25 w ((l.take k).filter (fireP now)) v wr ∧ Acc TimerR.enc 3 25 w ((l.take k).filter (fun x => !fireP now x)) u wr ∧ (∀ g g', v.ownBlock = some g → u.ownBlock = some g' → g ≠ g')) (fun _ _ i _ => l.length - (intOf i).toNat)
    case atStart => exact ⟨0, Nat.zero_le _, rfl, by simpa using Hs.out⟩
    case round =>
      clear Hs hbw1
      obtain ⟨k, hk, rfl, hacc⟩ := hrel
      have Hacc := Lib.hid hacc
      have hbw := hacc.1.2
      clear hacc
      by_cases hlt : k < l.length
      · obtain ⟨b, off, rfl, _, q0, q1, q2⟩ := (ha.keep hbw).atTimer hlt
        have hx := List.getElem?_eq_getElem hlt
        generalize l[k] = x at *
        have Hx := Lib.hid hx
        have hz := hbw.size
        have hl1 := filter_len (fireP now) l k
        have hl2 := filter_len (fun x => !fireP now x) l k
        clear hx ha hbw
        by_cases hp : x.a0 ≤ now
        · have hin : fireP now x = true := by unfold fireP; exact decide_eq_true hp
          have Hn1 := Lib.hid (filter_next (l := l) Hx.out hin)
          have Hn2 := Lib.hid (filter_skip (p := fun x => !fireP now x) (l := l) Hx.out (by simp [hin]))
          clear hin
          have hown := Hacc.out.1.1
          go_wp2_with (first | (at_builtin; refine wpList_append_own_at _ rfl _ _ 23 rfl w.heap.size 25 i0 _ 3 24 Try.underlying23 hi0 hz0 hz1 hz2 rfl (by decide) _ _ _ rfl (hown.alloc _) ⟨wr.heap.size, 0, none⟩ 1 1 (TimerR.enc x) rfl rfl ?c1 ?c2 ?c3 ?c4 ?c5 ?_) | go_in)
          case c1 =>
            intro j u hu
            rcases j with _ | _ | _ | j <;> simp [TimerR.enc] at hu <;> subst hu <;> simp [Addr.add, go_sem]
          case c2 => intro u hu; simp [TimerR.enc] at hu; rcases hu with rfl | rfl | rfl <;> rfl
          case c3 => unfold maxLen; omega
          case c4 => omega
          case c5 => first | omega | (simp; done) | (simp; omega)
          intro v' w2 hown' hg' _ hat
          have hnext := acc2_push Hacc.out.1 Hacc.out.2.1 Hacc.out.2.2 ((Below.refl _ _).alloc (Nat.le_refl _) _) hown' hg' (by simpa using hat)
          rw [← Hn1.out, ← Hn2.out] at hnext
          have Hn := Lib.hid hnext
          clear hnext hown' hg' hown Hacc Hn1 Hn2 hat
          go_wp2
          go_roundw
          case rel => exact ⟨k + 1, by omega, by go_num, Hn.out⟩
          case measure => simp [intOf]; omega
        · have hin : fireP now x = false := by unfold fireP; exact decide_eq_false hp
          have Hn1 := Lib.hid (filter_skip (l := l) Hx.out hin)
          have Hn2 := Lib.hid (filter_next (p := fun x => !fireP now x) (l := l) Hx.out (by simp [hin]))
          clear hin
          have hown := Hacc.out.2.1.1
          go_wp2_with (first | (at_builtin; refine wpList_append_own_at _ rfl _ _ 23 rfl w.heap.size 25 i0 _ 3 24 Try.underlying23 hi0 hz0 hz1 hz2 rfl (by decide) _ _ _ rfl (hown.alloc _) ⟨wr.heap.size, 0, none⟩ 1 1 (TimerR.enc x) rfl rfl ?c1 ?c2 ?c3 ?c4 ?c5 ?_) | go_in)
          case c1 =>
            intro j u hu
            rcases j with _ | _ | _ | j <;> simp [TimerR.enc] at hu <;> subst hu <;> simp [Addr.add, go_sem]
          case c2 => intro u hu; simp [TimerR.enc] at hu; rcases hu with rfl | rfl | rfl <;> rfl
          case c3 => unfold maxLen; omega
          case c4 => omega
          case c5 => first | omega | (simp; done) | (simp; omega)
          intro v' w2 hown' hg' _ hat
          have hnext := acc2_push' Hacc.out.2.1 Hacc.out.1 Hacc.out.2.2 ((Below.refl _ _).alloc (Nat.le_refl _) _) hown' hg' (by simpa using hat)
          rw [← Hn1.out, ← Hn2.out] at hnext
          have Hn := Lib.hid hnext
          clear hnext hown' hg' hown Hacc Hn1 Hn2 hat
          go_wp2
          go_roundw
          case rel => exact ⟨k + 1, by omega, by go_num, Hn.out.2.1, Hn.out.1, Hn.out.2.2⟩
          case measure => simp [intOf]; omega
      · have hkl : l.take k = l := List.take_of_length_le (by omega)
        have hfin := Hacc.out
        rw [hkl] at hfin
        have Hfin := Lib.hid hfin
        have hl1 := List.length_filter_le (fireP now) l
        have hl2 := List.length_filter_le (fun x => !fireP now x) l
        clear hfin hkl Hacc
        go_wp2
        all_goals go_returns
        all_goals (rw [HF.out.1, HF.out.2]; exact acc2 Hfin.out.1 Hfin.out.2.1 (by omega) (by omega) Hfin.out.2.2)
  · have HF := Lib.hid (show fireA l now = [] ∧ fireB l now = [] by unfold fireA fireB; rw [hv]; simp)
    rw [hv]
    clear hv
    go_wp2
    all_goals go_returns
    all_goals (rw [HF.out.1, HF.out.2]; exact acc2 (acc_none _ _ _ hbw1) (acc_none _ _ _ hbw1) (by simp) (by simp) (fun g g' h _ => by simp [Value.ownBlock] at h))
end Go.Proofs.Ytjjjlpnbniofjab
