import Derived.Test.YtjjjlpnbniofjaaFrM
namespace Go.Proofs.Ytjjjlpnbniofjaa
open Go.RowKit
open Go.Maps
def nfP (l : List FileRefR) (f : Int) : Bool := decide (refC l f = 0)
theorem nfF_ok {l : List FileRefR} {fs : List Int} (h : (vRefs l && vFiles fs) = true) : nfF l fs = fs.filter (nfP l) := by unfold nfF; rw [if_pos h]; rfl
theorem nfF_no {l : List FileRefR} {fs : List Int} (h : (vRefs l && vFiles fs) = false) : nfF l fs = [] := by unfold nfF; rw [h]; rfl
set_option maxRecDepth 100000 in
set_option maxHeartbeats 2000000 in
theorem specNf_any (A : Option Addr) (c : Nat) (l : List FileRefR) (A' : Option Addr) (c' : Nat) (fs : List Int) (w : World) (ha : Row FileRefR.enc 2 w A l) (hb : Row IntR.enc 1 w A' fs) :
    Calls Try.prog 20 #[.slice A l.length c, .slice A' fs.length c'] w (OwnPost IntR.enc 1 3 w (nfF l fs)) := by
  have hal := ha.1
  have hbl := hb.1
  obtain ⟨i0, hi0, hz0, hz1, hz2⟩ := info_parts IntR.zero_info
  have hB : Below w.heap.size w (w.alloc (.cells #[] 3)) := (Below.refl _ _).alloc (Nat.le_refl _) _
  have hst := acc_made IntR.enc 1 3 (Below.refl w.heap.size w)
  have Hst := Lib.hid hst
  clear hst
  rcases Bool.eq_false_or_eq_true (vRefs l) with h1 | h1
  · rcases Bool.eq_false_or_eq_true (vFiles fs) with h2 | h2
    · have HF := Lib.hid (nfF_ok (l := l) (fs := fs) (by rw [h1, h2]; rfl))
      have H1 := Lib.hid h1
      have H2 := Lib.hid h2
      clear h1 h2
      go_enter Try.func20, Try.ntmps20
      go_wp2_with fail
      refine (specRefs_any A c l _ (ha.keep hB)).mono ?_
      rintro e w1 ⟨rfl, hb1⟩
      rw [H1.out]
      go_wp2_with fail
      refine (specFiles_any A' c' fs _ (hb.keep (hB.trans (hb1.mono hB.size)))).mono ?_
      rintro e w2 ⟨rfl, hb2⟩
      rw [H2.out]
      have hst := acc_keep Hst.out (hb1.trans (hb2.mono hb1.size))
      have Hacc := Lib.hid hst
      have hB2 := hB.trans (hb1.mono hB.size)
      have hB3 := hB2.trans (hb2.mono hB2.size)
      clear hst Hst hb1 hb2
      go_wp2
      go_loopw [5, 6] (fun v i wr => ∃ k : Nat, k ≤ fs.length ∧ i = .int .i64 k ∧ Acc IntR.enc 1 3 w ((fs.take k).filter (nfP l)) v wr) (fun _ i _ => fs.length - (Go.RowKit.intOf i).toNat)
      case atStart => exact ⟨0, Nat.zero_le _, rfl, by simpa using Hacc.out⟩
      case round =>
        obtain ⟨k, hk, rfl, hacc⟩ := hrel
        clear Hacc
        have Hacc := Lib.hid hacc
        have hbw := hacc.2
        clear hacc
        by_cases hlt : k < fs.length
        · obtain ⟨b, off, rfl, hblt, q0⟩ := (hb.keep hbw).atInt hlt
          have hx : fs[k]? = some fs[k] := List.getElem?_eq_getElem hlt
          generalize fs[k] = x at *
          have Hx := Lib.hid hx
          have Hb := Lib.hid hb
          clear hx hb
          have hfl := filter_len (nfP l) fs k
          by_cases hp : refC l x = 0
          · have Hfn := Lib.hid (filter_next (p := nfP l) Hx.out (decide_eq_true hp))
            have hp2 : (refC l x == 0) = true := by simp [hp]
            clear hp
            have hown := Hacc.out.1
            go_wp2_with (first | (go_at_call 57; refine (specRefC_any A c l _ _ (ha.keep hbw)).mono ?_; rintro e w' ⟨rfl, rfl⟩) | (at_builtin; refine wpList_append_own _ rfl _ _ 29 rfl w.heap.size 3 i0 _ 1 8 Try.underlying29 hi0 hz0 hz1 hz2 rfl (by decide) _ _ _ rfl (hown.alloc _) ⟨wr.heap.size, 0, none⟩ 1 1 (IntR.enc x) rfl rfl ?c1 ?c2 ?c3 ?c4 ?c5 ?_) | fail)
            case c1 =>
              intro j u hu
              rcases j with _ | j <;> simp [IntR.enc] at hu <;> subst hu <;> simp [Addr.add, go_sem]
            case c2 => intro u hu; simp [IntR.enc] at hu; subst hu; rfl
            case c3 => unfold maxLen; omega
            case c4 => omega
            case c5 => have := Hacc.out.2.size; simp; omega
            intro v' w2 hown' hg' _
            have hnext := acc_push Hacc.out ((Below.refl _ _).alloc (Nat.le_refl _) _) hown' hg'
            rw [← Hfn.out] at hnext
            have Hn := Lib.hid hnext
            clear hnext hown' hg' hown Hacc Hfn hfl
            go_wp2
            go_roundw
            case rel => exact ⟨k + 1, by omega, by go_num, Hn.out⟩
            case measure => simp [Go.RowKit.intOf]; omega
          · have Hfn := Lib.hid (filter_skip (p := nfP l) Hx.out (decide_eq_false hp))
            have hp2 : (refC l x == 0) = false := by simp [hp]
            have hnext := Hacc.out
            rw [← Hfn.out] at hnext
            have Hn := Lib.hid hnext
            clear hp hnext Hacc
            go_wp2_with (first | (go_at_call 57; refine (specRefC_any A c l _ _ (ha.keep hbw)).mono ?_; rintro e w' ⟨rfl, rfl⟩) | fail)
            go_roundw
            case rel => exact ⟨k + 1, by omega, by go_num, Hn.out⟩
            case measure => simp [Go.RowKit.intOf]; omega
        · have hfin := Hacc.out
          rw [List.take_of_length_le (by omega)] at hfin
          have Hfin := Lib.hid hfin
          have hlen := List.length_filter_le (nfP l) fs
          clear hfin Hacc
          go_wp2
          all_goals go_returns
          all_goals (rw [HF.out]; exact acc_post Hfin.out (by omega))
    · have HF := Lib.hid (nfF_no (l := l) (fs := fs) (by rw [h1, h2]; rfl))
      have H1 := Lib.hid h1
      have H2 := Lib.hid h2
      clear h1 h2
      go_enter Try.func20, Try.ntmps20
      go_wp2_with fail
      refine (specRefs_any A c l _ (ha.keep hB)).mono ?_
      rintro e w1 ⟨rfl, hb1⟩
      rw [H1.out]
      go_wp2_with fail
      refine (specFiles_any A' c' fs _ (hb.keep (hB.trans (hb1.mono hB.size)))).mono ?_
      rintro e w2 ⟨rfl, hb2⟩
      rw [H2.out]
      have hB2 := hB.trans (hb1.mono hB.size)
      have hB3 := hB2.trans (hb2.mono hB2.size)
      go_wp2
      all_goals go_returns
      all_goals (rw [HF.out]; exact acc_post (acc_none _ _ _ hB3) (by simp))
  · have HF := Lib.hid (nfF_no (l := l) (fs := fs) (by rw [h1]; rfl))
    have H1 := Lib.hid h1
    clear h1
    go_enter Try.func20, Try.ntmps20
    go_wp2_with fail
    refine (specRefs_any A c l _ (ha.keep hB)).mono ?_
    rintro e w1 ⟨rfl, hb1⟩
    rw [H1.out]
    have hB2 := hB.trans (hb1.mono hB.size)
    go_wp2
    all_goals go_returns
    all_goals (rw [HF.out]; exact acc_post (acc_none _ _ _ hB2) (by simp))
set_option maxRecDepth 100000 in
set_option maxHeartbeats 2000000 in
theorem implNf_any (A : Option Addr) (c : Nat) (l : List FileRefR) (A' : Option Addr) (c' : Nat) (fs : List Int) (w : World) (ha : Row FileRefR.enc 2 w A l) (hb : Row IntR.enc 1 w A' fs) :
    Calls Try.prog 22 #[.slice A l.length c, .slice A' fs.length c'] w (OwnPost IntR.enc 1 3 w (nfF l fs)) := by
  have hal := ha.1
  have hbl := hb.1
  obtain ⟨i0, hi0, hz0, hz1, hz2⟩ := info_parts IntR.zero_info
  have hB : Below w.heap.size w w := Below.refl _ _
  rcases Bool.eq_false_or_eq_true (vRefs l) with h1 | h1
  · rcases Bool.eq_false_or_eq_true (vFiles fs) with h2 | h2
    · have HF := Lib.hid (nfF_ok (l := l) (fs := fs) (by rw [h1, h2]; rfl))
      have hfb := fun x hx => vFiles_bd h2 (x := x) hx
      have Hfb := Lib.hid hfb
      have H1 := Lib.hid h1
      have H2 := Lib.hid h2
      clear h1 h2 hfb
      go_enter Try.func22, Try.ntmps22
      go_wp2_with fail
      refine (implRefs_any A c l _ (ha.keep hB)).mono ?_
      rintro e w1 ⟨rfl, hb1⟩
      rw [H1.out]
      go_wp2_with fail
      refine (implFiles_any A' c' fs _ (hb.keep (hB.trans (hb1.mono hB.size)))).mono ?_
      rintro e w2 ⟨rfl, hb2⟩
      rw [H2.out]
      have hB2 := hB.trans (hb1.mono hB.size)
      have hB3 := hB2.trans (hb2.mono hB2.size)
      clear hb1 hb2
      go_wp2_with fail
      refine (usesOf_any A c l _ (ha.keep hB3) H1.out).mono ?_
      rintro e w3 ⟨rfl, hm, hb3⟩
      have hB4 := hB3.trans (hb3.mono hB3.size)
      have hmlt := hm.lt
      have hbase := hB3.size
      have Hm := Lib.hid hm
      clear hb3 hm hB2
      generalize w2.heap.size = mb at *
      go_wp2
      go_loopw [6, 21] (fun v i wr => ∃ k : Nat, k ≤ fs.length ∧ i = .int .i64 k ∧ Acc IntR.enc 1 3 w ((fs.take k).filter (nfP l)) v wr ∧ MapI wr mb l.length (refC l)) (fun _ i _ => fs.length - (Go.RowKit.intOf i).toNat)
      case atStart => exact ⟨0, Nat.zero_le _, rfl, by simpa using acc_none IntR.enc 1 3 hB4, Hm.out⟩
      case round =>
        obtain ⟨k, hk, rfl, hacc, hm⟩ := hrel
        clear Hm
        have Hacc := Lib.hid hacc
        have hbw := hacc.2
        clear hacc
        by_cases hlt : k < fs.length
        · obtain ⟨b, off, rfl, hblt, q0⟩ := (hb.keep hbw).atInt hlt
          have hx : fs[k]? = some fs[k] := List.getElem?_eq_getElem hlt
          generalize fs[k] = x at *
          have hxb := Hfb.out x (List.mem_of_getElem? hx)
          have Hx := Lib.hid hx
          have Hb := Lib.hid hb
          clear hx hb
          have hrun := hm.run (k := x) (by omega) (by omega)
          have Hm := Lib.hid hm
          clear hm
          have hfl := filter_len (nfP l) fs k
          by_cases hp : refC l x = 0
          · have Hfn := Lib.hid (filter_next (p := nfP l) Hx.out (decide_eq_true hp))
            rw [hp] at hrun
            clear hp
            have hown := Hacc.out.1
            go_wp2_with (first | (at_builtin; refine wpList_append_own _ rfl _ _ 29 rfl w.heap.size 3 i0 _ 1 8 Try.underlying29 hi0 hz0 hz1 hz2 rfl (by decide) _ _ _ rfl (hown.alloc _) ⟨wr.heap.size, 0, none⟩ 1 1 (IntR.enc x) rfl rfl ?c1 ?c2 ?c3 ?c4 ?c5 ?_) | fail)
            case c1 =>
              intro j u hu
              rcases j with _ | j <;> simp [IntR.enc] at hu <;> subst hu <;> simp [Addr.add, go_sem]
            case c2 => intro u hu; simp [IntR.enc] at hu; subst hu; rfl
            case c3 => unfold maxLen; omega
            case c4 => omega
            case c5 => have := Hacc.out.2.size; simp; omega
            intro v' w2' hown' hg' _
            have hne := mapI_own Hm.out hown
            have hm2 := (Hm.out.keep ((Below.refl _ _).alloc (Nat.le_refl _) (.cells #[.int .i64 x] 3))).kept hg' hne
            have hnext := acc_push Hacc.out ((Below.refl _ _).alloc (Nat.le_refl _) _) hown' hg'
            rw [← Hfn.out] at hnext
            have Hn := Lib.hid hnext
            have Hm2 := Lib.hid hm2
            clear hnext hown' hg' hown Hacc Hfn hfl hm2 hne
            go_wp2
            go_roundw
            case rel => exact ⟨k + 1, by omega, by go_num, Hn.out, Hm2.out⟩
            case measure => simp [Go.RowKit.intOf]; omega
          · have Hfn := Lib.hid (filter_skip (p := nfP l) Hx.out (decide_eq_false hp))
            have hp2 : (refC l x == 0) = false := by simp [hp]
            have hnext := Hacc.out
            rw [← Hfn.out] at hnext
            have Hn := Lib.hid hnext
            clear hp hnext Hacc
            go_wp2
            go_roundw
            case rel => exact ⟨k + 1, by omega, by go_num, Hn.out, Hm.out⟩
            case measure => simp [Go.RowKit.intOf]; omega
        · have hfin := Hacc.out
          rw [List.take_of_length_le (by omega)] at hfin
          have Hfin := Lib.hid hfin
          have hlen := List.length_filter_le (nfP l) fs
          clear hfin Hacc
          go_wp2
          all_goals go_returns
          all_goals (rw [HF.out]; exact acc_post Hfin.out (by omega))
    · have HF := Lib.hid (nfF_no (l := l) (fs := fs) (by rw [h1, h2]; rfl))
      have H1 := Lib.hid h1
      have H2 := Lib.hid h2
      clear h1 h2
      go_enter Try.func22, Try.ntmps22
      go_wp2_with fail
      refine (implRefs_any A c l _ (ha.keep hB)).mono ?_
      rintro e w1 ⟨rfl, hb1⟩
      rw [H1.out]
      go_wp2_with fail
      refine (implFiles_any A' c' fs _ (hb.keep (hB.trans (hb1.mono hB.size)))).mono ?_
      rintro e w2 ⟨rfl, hb2⟩
      rw [H2.out]
      have hB2 := hB.trans (hb1.mono hB.size)
      have hB3 := hB2.trans (hb2.mono hB2.size)
      go_wp2
      all_goals go_returns
      all_goals (rw [HF.out]; exact acc_post (acc_none _ _ _ hB3) (by simp))
  · have HF := Lib.hid (nfF_no (l := l) (fs := fs) (by rw [h1]; rfl))
    have H1 := Lib.hid h1
    clear h1
    go_enter Try.func22, Try.ntmps22
    go_wp2_with fail
    refine (implRefs_any A c l _ (ha.keep hB)).mono ?_
    rintro e w1 ⟨rfl, hb1⟩
    rw [H1.out]
    have hB2 := hB.trans (hb1.mono hB.size)
    go_wp2
    all_goals go_returns
    all_goals (rw [HF.out]; exact acc_post (acc_none _ _ _ hB2) (by simp))
end Go.Proofs.Ytjjjlpnbniofjaa
