import Derived.Test.YtehedhkadjidpabUpd
import Derived.Outline
namespace Go.Proofs.Ytehedhkadjidpab
open Go.RowKit
set_option maxRecDepth 100000 in
set_option maxHeartbeats 2000000 in
theorem specUpd_any (A : Option Addr) (c : Nat) (l : List InputR) (i mark now : Int) (w : World) (ha : Row InputR.enc 2 w A l) :
    Calls Try.prog 25 #[.slice A l.length c, .int .i64 i, .int .i64 mark, .int .i64 now] w (OwnBPost InputR.enc 2 33 w (updL l i mark now) (updK l i mark now)) := by
  have hal := ha.1
  go_enter Try.func25, Try.ntmps25
  go_wp2_with fail
  refine (specIns_any A c l _ ha).mono ?_
  rintro e w1 ⟨rfl, hb1⟩
  by_cases hv : updP l i mark now
  · have hF : updL l i mark now = l.modify i.toNat (fun x => updE x mark now) := by unfold updL; rw [if_pos hv]
    have hK : updK l i mark now = true := by unfold updK; exact decide_eq_true hv
    have HF := Lib.hid hF
    have HK := Lib.hid hK
    unfold updP at hv
    obtain ⟨hv, i0, i1, m0, m1, n0, n1⟩ := hv
    rw [hv]
    clear hF hK hv
    obtain ⟨n, rfl⟩ := Int.eq_ofNat_of_zero_le i0
    rw [Int.toNat_natCast] at HF
    have hn : n < l.length := by omega
    obtain ⟨i0', hi0, hz0, hz1, hz2⟩ := info_parts InputR.zero_info
    have hst := acc_keep (acc_none InputR.enc 2 33 hb1) (Below.refl _ _)
    have hb0 : Below w.heap.size w (w1.alloc (.cells #[] 33)) := hb1.alloc hb1.size _
    have hst2 := acc_made InputR.enc 2 33 hb1
    have Hst := Lib.hid hst2
    have hown := hst2.1
    have hrow := ha.keep hb0
    have hnews : ∀ ad, A = some ad → ∀ j u, (l.flatMap InputR.enc)[j]? = some u → (w1.alloc (.cells #[] 33)).cell? (ad.add j) = some u := by
      intro ad hA j u hu
      obtain ⟨x, hx, he⟩ := flat_inv InputR.enc_len (by omega) l j u hu
      obtain ⟨b, off, e, hb, _⟩ := ha.2 (Nat.lt_of_le_of_lt (Nat.zero_le _) (List.getElem?_eq_some_iff.1 hx).1)
      rw [hA] at e
      injection e with e
      subst e
      rw [hA] at hrow
      exact row_flat InputR.enc_len (by omega) hrow j u hu
    obtain ⟨bA, offA, rfl, hbA, qa0, qa1⟩ := ha.atInput hn
    have Hnews := Lib.hid (hnews _ rfl)
    have hx : l[n]? = some l[n] := List.getElem?_eq_getElem hn
    generalize l[n] = x at *
    have Hx := Lib.hid hx
    clear hst hst2 hnews hrow hx qa0 qa1
    go_wp2_with (first | (at_builtin; refine wpList_append_own _ rfl _ _ 23 rfl w.heap.size 33 i0' _ 2 16 Try.underlying23 hi0 hz0 hz1 hz2 rfl (by decide) _ _ _ rfl hown ⟨bA, offA, none⟩ l.length c (l.flatMap InputR.enc) rfl (flat_len InputR.enc_len l) Hnews.out ?c2 ?c3 ?c4 ?c5 ?_) | (go_at_call 66; refine (inRS_t _ _ _ _ (by omega) (by omega)).mono ?_; rintro e w' ⟨rfl, rfl⟩))
    case c2 =>
      intro u hu
      rw [List.mem_flatMap] at hu
      obtain ⟨x, _, hx⟩ := hu
      simp [InputR.enc] at hx
      rcases hx with rfl | rfl <;> rfl
    case c3 => simp only [List.length_nil]; unfold maxLen; omega
    case c4 => simp only [List.length_nil]; omega
    case c5 => have := hb1.size; simp; omega
    intro v' w5 hown' hg' _
    have hacc5 := acc_all Hst.out hown' hg'
    have hbw5 := hacc5.2
    have hown5 := hacc5.1
    obtain ⟨g, cap, hvv, hBg, hglt⟩ := hown5.form (by omega)
    subst hvv
    obtain ⟨b', off', hA2, _, qa0, qa1⟩ := (ha.keep hbw5).atInput hn
    injection hA2 with hA2
    injection hA2 with e1 e2
    subst e1 e2
    have hx2 := Hx.out
    rw [List.getElem?_eq_getElem hn] at hx2
    rw [Option.some.inj hx2] at qa0 qa1
    have hlen5 := hown5.1
    have k0 : w5.cell? ⟨g, n * 2, none⟩ = some (.int .i64 x.a0) := by
      rw [hown5.cellAt (n * 2) (by omega)]; exact flat_get InputR.enc_len l n x Hx.out 0 _ rfl
    have k1 : w5.cell? ⟨g, n * 2 + 1, none⟩ = some (.int .i64 x.a1) := by
      rw [hown5.cellAt (n * 2 + 1) (by omega)]; exact flat_get InputR.enc_len l n x Hx.out 1 _ rfl
    have f0 := hown5.frozenAt (n * 2)
    have f1 := hown5.frozenAt (n * 2 + 1)
    obtain ⟨s1, g1⟩ := hown5.stored (n * 2) (.int .i64 (mx x.a0 mark))
    obtain ⟨s2, g2⟩ := s1.stored (n * 2 + 1) (.int .i64 (mx x.a1 now))
    rw [set_flat2 InputR.enc_len l n x (updE x mark now) (.int .i64 (mx x.a0 mark)) (.int .i64 (mx x.a1 now)) Hx.out rfl] at s2
    have hmod : l.modify n (fun x => updE x mark now) = l.set n (updE x mark now) := by
      exact modify_set _ l n x Hx.out
    rw [hmod] at HF
    have hll : (l.set n (updE x mark now)).length = l.length := List.length_set
    have hfin : Acc InputR.enc 2 33 w (l.set n (updE x mark now)) (.slice (some ⟨g, 0, none⟩) l.length cap) ((w5.setCell ⟨g, n * 2, none⟩ (.int .i64 (mx x.a0 mark))).setCell ⟨g, n * 2 + 1, none⟩ (.int .i64 (mx x.a1 now))) := by
      refine ⟨?_, (hbw5.setCell hBg _).setCell hBg _⟩
      rw [hll]
      exact s2
    have Hfin := Lib.hid hfin
    clear hfin s1 s2 g1 g2 hown5 hacc5 hown' hg' hown hbw5 hmod hlen5 hll Hst hx2 Hnews
    by_cases h1 : x.a0 < mark <;> by_cases h2 : x.a1 < now
    all_goals
      simp only [mx, h1, h2, if_true, if_false] at Hfin
      go_wp2_with fail
      go_region
      go_wp2
      all_goals go_returns
      all_goals (rw [HF.out, HK.out]; exact accB ⟨Hfin.out.1.drew, Hfin.out.2.drew⟩ (by simp; omega) rfl)
  · have hF : updL l i mark now = [] := by unfold updL; rw [if_neg hv]
    have hK : updK l i mark now = false := by unfold updK; exact decide_eq_false hv
    have HF := Lib.hid hF
    have HK := Lib.hid hK
    have Hv := Lib.hid hv
    rcases Bool.eq_false_or_eq_true (vIns l) with hw | hw
    all_goals
      rw [hw]
      have Hw := Lib.hid hw
      clear hF hK hv hw
      go_wp2_with (first | (go_at_call 66; go_in))
      all_goals first | (go_returns; rw [HF.out, HK.out]; exact accB (acc_none _ _ _ hb1) (by simp) rfl) | (exfalso; apply Hv.out; unfold updP; refine ⟨Hw.out, ?_⟩; clear Hv Hw HF HK; first | omega | (simp only [Bool.not_eq_eq_eq_not, Bool.not_true, Bool.not_false, decide_eq_false_iff_not, decide_eq_true_eq] at *; omega))
end Go.Proofs.Ytehedhkadjidpab
