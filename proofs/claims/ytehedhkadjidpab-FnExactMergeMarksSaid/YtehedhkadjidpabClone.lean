import Derived.Test.YtehedhkadjidpabApp
import Derived.Test.YtehedhkadjidpabIn
import Derived.WalkSpells
namespace Go.Proofs.Ytehedhkadjidpab
open Go.RowKit
set_option maxRecDepth 100000 in
set_option maxHeartbeats 1000000 in
theorem cloneIn_any (A : Option Addr) (c : Nat) (l : List InputR) (w : World) (ha : Row InputR.enc 2 w A l) :
    Calls Try.prog 55 #[.slice A l.length c] w (OwnPost InputR.enc 2 33 w l) := by
  have hal := ha.1
  obtain ⟨i0, hi0, hz0, hz1, hz2⟩ := info_parts InputR.zero_info
  rcases A with _ | ad
  · have hl : l = [] := by
      rcases l with _ | ⟨x, l⟩
      · rfl
      · obtain ⟨b, off, h, _⟩ := ha.2 (by simp)
        cases h
    subst hl
    have q : ∀ (w : World) (a : Option Addr) (n c n' c' : Nat), (binOp .eql 23 (.slice a n c) (.slice none n' c')).run Try.prog w = .ok (.bool a.isNone) w := fun w a n c n' c' => Lib.run_eql_slice_nil w _ _ a n c n' c' Try.underlying23
    go_enter Try.func55, Try.ntmps55
    go_wp2
    all_goals go_returns
    all_goals exact acc_post (acc_none _ _ _ (Below.refl _ _)) (by simp)
  · have hst := acc_made InputR.enc 2 33 (Below.refl w.heap.size w)
    have Hst := Lib.hid hst
    have hown := hst.1
    have hnews : ∀ j u, (l.flatMap InputR.enc)[j]? = some u → (w.alloc (.cells #[] 33)).cell? (ad.add j) = some u := by
      intro j u hu
      obtain ⟨x, hx, he⟩ := flat_inv InputR.enc_len (by omega) l j u hu
      obtain ⟨b, off, e, hb, _⟩ := ha.2 (Nat.lt_of_le_of_lt (Nat.zero_le _) (List.getElem?_eq_some_iff.1 hx).1)
      injection e with e
      subst e
      exact row_flat InputR.enc_len (by omega) (ha.keep ((Below.refl _ _).alloc (Nat.le_refl _) _)) j u hu
    have Hnews := Lib.hid hnews
    clear hst hnews
    have q : ∀ (w : World) (a : Option Addr) (n c n' c' : Nat), (binOp .eql 23 (.slice a n c) (.slice none n' c')).run Try.prog w = .ok (.bool a.isNone) w := fun w a n c n' c' => Lib.run_eql_slice_nil w _ _ a n c n' c' Try.underlying23
    go_enter Try.func55, Try.ntmps55
    go_wp2_with (first | (at_builtin; refine wpList_append_own _ rfl _ _ 23 rfl w.heap.size 33 i0 _ 2 16 Try.underlying23 hi0 hz0 hz1 hz2 rfl (by decide) _ _ _ rfl hown ad l.length c (l.flatMap InputR.enc) rfl (flat_len InputR.enc_len l) Hnews.out ?c2 ?c3 ?c4 ?c5 ?_) | go_in)
    case c2 =>
      intro u hu
      rw [List.mem_flatMap] at hu
      obtain ⟨x, _, hx⟩ := hu
      simp [InputR.enc] at hx
      rcases hx with rfl | rfl <;> rfl
    case c3 => simp only [List.length_nil]; unfold maxLen; omega
    case c4 => simp only [List.length_nil]; omega
    case c5 => simp
    intro v' w5 hown' hg' _
    have hnext := acc_all Hst.out hown' hg'
    have Hn := Lib.hid hnext
    clear hnext hown' hg' hown
    go_wp2
    go_returns
    exact acc_post Hn.out hal
end Go.Proofs.Ytehedhkadjidpab
