import Derived.Test.YtjjjlpnbniofjabTm2
import Derived.Test.YtjjjlpnbniofjabQb
namespace Go.Proofs.Ytjjjlpnbniofjab
open Go.RowKit
theorem flat_inv {α : Type} {enc : α → List Value} {k : Nat} (hk : ∀ x : α, (enc x).length = k) (h0 : 0 < k) (l : List α) (j : Nat) (u : Value) (hu : (l.flatMap enc)[j]? = some u) :
    ∃ x, l[j / k]? = some x ∧ (enc x)[j % k]? = some u := by
  have hj : j < l.length * k := by
    have := (List.getElem?_eq_some_iff.1 hu).1
    rwa [flat_len hk] at this
  have hi : j / k < l.length := Nat.div_lt_of_lt_mul (by rw [Nat.mul_comm]; exact hj)
  have hx : l[j / k]? = some l[j / k] := List.getElem?_eq_getElem hi
  have hm : j % k < (enc l[j / k]).length := by rw [hk]; exact Nat.mod_lt _ h0
  have hu' := flat_get hk l (j / k) _ hx (j % k) _ (List.getElem?_eq_getElem hm)
  have e : j / k * k + j % k = j := by rw [Nat.mul_comm]; exact Nat.div_add_mod j k
  rw [e, hu] at hu'
  exact ⟨_, hx, by rw [List.getElem?_eq_getElem hm]; exact hu'.symm⟩
theorem row_flat {α : Type} {enc : α → List Value} {k : Nat} (hk : ∀ x : α, (enc x).length = k) (h0 : 0 < k) {w : World} {b off : Nat} {l : List α} (h : Row enc k w (some ⟨b, off, none⟩) l) :
    ∀ j u, (l.flatMap enc)[j]? = some u → w.cell? ((⟨b, off, none⟩ : Addr).add j) = some u := by
  intro j u hu
  obtain ⟨x, hx, he⟩ := flat_inv hk h0 l j u hu
  have hl : 0 < l.length := Nat.lt_of_le_of_lt (Nat.zero_le _) (List.getElem?_eq_some_iff.1 hx).1
  obtain ⟨b', off', e, _, hc⟩ := h.2 hl
  injection e with e
  injection e with e1 e2
  subst e1 e2
  have := hc _ x hx _ u he
  have e : off + j / k * k + j % k = off + j := by rw [Nat.add_assoc, Nat.mul_comm]; rw [Nat.div_add_mod]
  rw [e] at this
  have ha : (⟨b, off, none⟩ : Addr).add j = ⟨b, off + j, none⟩ := by
    unfold Addr.add; split
    · rename_i h; subst h; rfl
    · rfl
  rw [ha]; exact this
theorem acc_all {α : Type} {enc : α → List Value} {k T : Nat} {B0 wr w' : World} {l : List α} {v v' : Value} (h : Acc enc k T B0 [] v wr) (hown : w'.ownsRow B0.heap.size T k v' l.length (l.flatMap enc)) (hg : wr.grownBy w' v.ownBlock) : Acc enc k T B0 l v' w' :=
  ⟨hown, h.2.trans (below_of_gb hg h.2.size fun g hg' => (h.1.lt g hg').1)⟩
set_option maxRecDepth 100000 in
set_option maxHeartbeats 1000000 in
theorem cloneTm_any (A : Option Addr) (c : Nat) (l : List TimerR) (w : World) (ha : Row TimerR.enc 3 w A l) :
    Calls Try.prog 59 #[.slice A l.length c] w (OwnPost TimerR.enc 3 25 w l) := by
  have hal := ha.1
  obtain ⟨i0, hi0, hz0, hz1, hz2⟩ := info_parts TimerR.zero_info
  rcases A with _ | ad
  · have hl : l = [] := by
      rcases l with _ | ⟨x, l⟩
      · rfl
      · obtain ⟨b, off, h, _⟩ := ha.2 (by simp)
        cases h
    subst hl
    have q : ∀ (w : World) (a : Option Addr) (n c n' c' : Nat), (binOp .eql 23 (.slice a n c) (.slice none n' c')).run Try.prog w = .ok (.bool a.isNone) w := fun w a n c n' c' => Lib.run_eql_slice_nil w _ _ a n c n' c' Try.underlying23
    go_enter Try.func59, Try.ntmps59
    go_wp2
    all_goals go_returns
    all_goals exact acc_post (acc_none _ _ _ (Below.refl _ _)) (by simp)
  · have hst := acc_made TimerR.enc 3 25 (Below.refl w.heap.size w)
    have Hst := Lib.hid hst
    have hown := hst.1
    have hnews : ∀ j u, (l.flatMap TimerR.enc)[j]? = some u → (w.alloc (.cells #[] 25)).cell? (ad.add j) = some u := by
      intro j u hu
      obtain ⟨x, hx, he⟩ := flat_inv TimerR.enc_len (by omega) l j u hu
      obtain ⟨b, off, e, hb, _⟩ := ha.2 (Nat.lt_of_le_of_lt (Nat.zero_le _) (List.getElem?_eq_some_iff.1 hx).1)
      injection e with e
      subst e
      exact row_flat TimerR.enc_len (by omega) (ha.keep ((Below.refl _ _).alloc (Nat.le_refl _) _)) j u hu
    have Hnews := Lib.hid hnews
    clear hst hnews
    have q : ∀ (w : World) (a : Option Addr) (n c n' c' : Nat), (binOp .eql 23 (.slice a n c) (.slice none n' c')).run Try.prog w = .ok (.bool a.isNone) w := fun w a n c n' c' => Lib.run_eql_slice_nil w _ _ a n c n' c' Try.underlying23
    go_enter Try.func59, Try.ntmps59
    go_wp2_with (first | (at_builtin; refine wpList_append_own _ rfl _ _ 23 rfl w.heap.size 25 i0 _ 3 24 Try.underlying23 hi0 hz0 hz1 hz2 rfl (by decide) _ _ _ rfl hown ad l.length c (l.flatMap TimerR.enc) rfl (flat_len TimerR.enc_len l) Hnews.out ?c2 ?c3 ?c4 ?c5 ?_) | go_in)
    case c2 =>
      intro u hu
      rw [List.mem_flatMap] at hu
      obtain ⟨x, _, hx⟩ := hu
      simp [TimerR.enc] at hx
      rcases hx with rfl | rfl | rfl <;> rfl
    case c3 => simp only [List.length_nil]; unfold maxLen; omega
    case c4 => simp only [List.length_nil]; omega
    case c5 => simp
    intro v' w5 hown' hg' _
    have hnext := acc_all Hst.out hown' hg'
    have Hn := Lib.hid hnext
    clear hnext hown' hg' hown
    go_wp2
    go_returns
    exact acc_post Hn.out hal
end Go.Proofs.Ytjjjlpnbniofjab
