import Derived.Test.YtehedhkadjidpaaSo
import Derived.Test.YtehedhkadjidpaaEv
import Derived.Test.YtehedhkadjidpaaApp
import Derived.Laws.OwnMore
namespace Go.Proofs.Ytehedhkadjidpaa
open Go.RowKit
set_option maxRecDepth 100000 in
set_option maxHeartbeats 1000000 in
theorem cloneEv_any (A : Option Addr) (c : Nat) (l : List EventR) (w : World) (ha : Row EventR.enc 3 w A l) :
    Calls Try.prog 63 #[.slice A l.length c] w (OwnPost EventR.enc 3 32 w l) := by
  have hal := ha.1
  obtain ⟨i0, hi0, hz0, hz1, hz2⟩ := info_parts EventR.zero_info
  rcases A with _ | ad
  · have hl : l = [] := by
      rcases l with _ | ⟨x, l⟩
      · rfl
      · obtain ⟨b, off, h, _⟩ := ha.2 (by simp)
        cases h
    subst hl
    have q : ∀ (w : World) (a : Option Addr) (n c n' c' : Nat), (binOp .eql 24 (.slice a n c) (.slice none n' c')).run Try.prog w = .ok (.bool a.isNone) w := fun w a n c n' c' => Lib.run_eql_slice_nil w _ _ a n c n' c' Try.underlying24
    go_enter Try.func63, Try.ntmps63
    go_wp2
    all_goals go_returns
    all_goals exact acc_post (acc_none _ _ _ (Below.refl _ _)) (by simp)
  · have hst := acc_made EventR.enc 3 32 (Below.refl w.heap.size w)
    have Hst := Lib.hid hst
    have hown := hst.1
    have hnews : ∀ j u, (l.flatMap EventR.enc)[j]? = some u → (w.alloc (.cells #[] 32)).cell? (ad.add j) = some u := by
      intro j u hu
      obtain ⟨x, hx, he⟩ := flat_inv EventR.enc_len (by omega) l j u hu
      obtain ⟨b, off, e, hb, _⟩ := ha.2 (Nat.lt_of_le_of_lt (Nat.zero_le _) (List.getElem?_eq_some_iff.1 hx).1)
      injection e with e
      subst e
      exact row_flat EventR.enc_len (by omega) (ha.keep ((Below.refl _ _).alloc (Nat.le_refl _) _)) j u hu
    have Hnews := Lib.hid hnews
    clear hst hnews
    have q : ∀ (w : World) (a : Option Addr) (n c n' c' : Nat), (binOp .eql 24 (.slice a n c) (.slice none n' c')).run Try.prog w = .ok (.bool a.isNone) w := fun w a n c n' c' => Lib.run_eql_slice_nil w _ _ a n c n' c' Try.underlying24
    go_enter Try.func63, Try.ntmps63
    go_wp2_with (first | (at_builtin; refine wpList_append_own _ rfl _ _ 24 rfl w.heap.size 32 i0 _ 3 24 Try.underlying24 hi0 hz0 hz1 hz2 rfl (by decide) _ _ _ rfl hown ad l.length c (l.flatMap EventR.enc) rfl (flat_len EventR.enc_len l) Hnews.out ?c2 ?c3 ?c4 ?c5 ?_) | go_in)
    case c2 =>
      intro u hu
      rw [List.mem_flatMap] at hu
      obtain ⟨x, _, hx⟩ := hu
      simp [EventR.enc] at hx
      rcases hx with rfl | rfl | rfl <;> rfl
    case c3 => simp only [List.length_nil]; unfold maxLen; omega
    case c4 => simp only [List.length_nil]; omega
    case c5 => simp
    intro v' w5 hown' hg' _
    have hnext := acc_all Hst.out hown' hg'
    have Hn := Lib.hid hnext
    clear hnext hown' hg' hown
    go_wp2
    go_returns
    exact acc_post Hn.out hal
theorem sortN_any (A : Option Addr) (cap : Nat) (w : World) : Calls Try.prog 64 #[.slice A 0 cap, .func (.func 30) #[] #[]] w fun e w' => e = .returned (.tuple #[]) ∧ w' = w :=
  Go.Proofs.AnyF.slices_SortFunc_none sfA A cap _ w
/-- What SortEvents answers. -/
def soF (l : List EventR) : List EventR := if vEvs l = true then sortE l else []
set_option maxRecDepth 100000 in
set_option maxHeartbeats 2000000 in
theorem implSort_any (A : Option Addr) (c : Nat) (l : List EventR) (w : World) (ha : Row EventR.enc 3 w A l) :
    Calls Try.prog 25 #[.slice A l.length c] w (OwnPost EventR.enc 3 32 w (soF l)) := by
  have hal := ha.1
  unfold soF
  rcases Bool.eq_false_or_eq_true (vEvs l) with hv | hv
  all_goals
    rw [hv]
    have Hv := Lib.hid hv
    clear hv
    go_enter Try.func25, Try.ntmps25
    go_wp2_with fail
    refine (implValidEvents_any A c l w ha).mono ?_
    rintro e w1 ⟨rfl, hb1⟩
    rw [Hv.out]
  · go_wp2_with fail
    refine (cloneEv_any A c l _ (ha.keep hb1)).mono ?_
    rintro e w2 ⟨A2, c2, rfl, o2, b2⟩
    have hbw := hb1.trans (b2.mono hb1.size)
    have hz1 := hb1.size
    by_cases hl0 : l.length = 0
    · obtain rfl : l = [] := List.eq_nil_of_length_eq_zero hl0
      have hS := sortN_any A2 c2 w2
      have Hp := Lib.hid (show _ ∧ _ from ⟨own_rebase (B := w.heap.size) o2 (by omega), hbw⟩)
      clear o2 b2 hbw hb1 ha
      go_wp2_with fail
      refine hS.mono ?_
      rintro e w3 ⟨rfl, rfl⟩
      go_wp2
      all_goals go_returns
      all_goals exact ⟨A2, c2, by simp [sortE], by simpa [sortE] using Hp.out.1, Hp.out.2⟩
    · obtain ⟨g, cap, hv, hgb, hglt⟩ := o2.2.form (by omega)
      injection hv with hA _ hc
      subst hA hc
      have o3 := own_rebase (B := w.heap.size) o2 (by omega)
      have hS := sortF_any l w2 o3
      have HB := Lib.hid hbw
      clear o2 b2 hbw hb1 ha
      go_wp2_with fail
      refine hS.mono ?_
      rintro e w3 ⟨rfl, o4, hg4⟩
      have hbF := HB.out.trans (below_of_gb (B0 := w.heap.size) hg4 HB.out.size (fun g' hg' => by injection hg' with hg'; omega))
      have Hp := Lib.hid (show _ ∧ _ from ⟨o4, hbF⟩)
      have hlen := sortE_len l
      have Hl := Lib.hid hlen
      clear o4 hg4 hbF hlen HB
      go_wp2
      all_goals go_returns
      all_goals exact ⟨some ⟨g, 0, none⟩, c2, by rw [Hl.out]; rfl, Hp.out.1, Hp.out.2⟩
  · have Hn := Lib.hid (acc_keep (acc_none EventR.enc 3 32 (Below.refl w.heap.size w)) hb1)
    go_wp2
    all_goals go_returns
    all_goals exact acc_post Hn.out (by simp)
end Go.Proofs.Ytehedhkadjidpaa
