import Derived.Test.YtjjjlpnbniofjaaFrL
namespace Go.Proofs.Ytjjjlpnbniofjaa
open Go.RowKit
open Go.Maps
theorem rlN_step {l : List FileRefR} {fs : List Int} {k : Nat} {x gx v : Int} (hx : fs[k]? = some x) (hg : refC l x = gx) (hv : v = gx - 1) (f : Int) : updI (fun f => refC l f - inN (fs.take k) f) x v f = refC l f - inN (fs.take (k + 1)) f := by
  rw [inN_next hx]
  unfold updI
  by_cases hf : f = x
  · subst hf; rw [if_pos rfl, if_pos rfl, hg, hv]
  · rw [if_neg hf, if_neg hf]
theorem acc_turn {α : Type} {enc : α → List Value} {k T : Nat} {B0 wr w4 : World} {xs : List α} {v : Value} {mb : Nat} (h : Acc enc k T B0 xs v wr) (hg : wr.grownBy w4 (some mb)) (hne : some mb ≠ v.ownBlock) (hb : B0.heap.size ≤ mb) : Acc enc k T B0 xs v w4 :=
  ⟨h.1.kept hg (by
    rcases hv : Value.ownBlock v with _ | g
    · exact .inl rfl
    · exact .inr (fun e => hne (by rw [hv]; exact e.symm))), h.2.trans (below_of_gb (B0 := B0.heap.size) hg h.2.size (fun g hg => by injection hg with hg; omega))⟩
set_option maxRecDepth 100000 in
set_option maxHeartbeats 4000000 in
theorem implRl_any (A : Option Addr) (c : Nat) (l : List FileRefR) (A' : Option Addr) (c' : Nat) (fs : List Int) (w : World) (ha : Row FileRefR.enc 2 w A l) (hb : Row IntR.enc 1 w A' fs) :
    Calls Try.prog 31 #[.slice A l.length c, .slice A' fs.length c'] w (Own2BPost FileRefR.enc 2 67 IntR.enc 1 3 w (rlF l fs) (rlG l fs) (rlK l fs)) := by
  have hal := ha.1
  have hbl := hb.1
  obtain ⟨j0, hj0, hy0, hy1, hy2⟩ := info_parts IntR.zero_info
  have hB : Below w.heap.size w w := Below.refl _ _
  rcases Bool.eq_false_or_eq_true (vRefs l) with h1 | h1
  · rcases Bool.eq_false_or_eq_true (vFiles fs) with h2 | h2
    · have hl1 := refs_len h1
      have hl2 := files_len h2
      have H1 := Lib.hid h1
      have H2 := Lib.hid h2
      clear h1 h2
      go_enter Try.func31, Try.ntmps31
      go_wp2_with fail
      refine (implRefs_any A c l _ (ha.keep hB)).mono ?_
      rintro e w1 ⟨rfl, hb1⟩
      rw [H1.out]
      have hB2 := hB.trans (hb1.mono hB.size)
      have hfull := hb1
      clear hb1
      go_wp2_with fail
      refine (implFiles_any A' c' fs _ (hb.keep hB2)).mono ?_
      rintro e w2 ⟨rfl, hb2⟩
      rw [H2.out]
      have hB3 := hB2.trans (hb2.mono hB2.size)
      have hfull := hfull.trans (hb2.mono hfull.size)
      clear hb2
      clear hfull
      go_wp2_with fail
      refine (usesOf_any A c l _ (ha.keep hB3) H1.out).mono ?_
      rintro e w3 ⟨rfl, hm, hb3⟩
      have hB4 := hB3.trans (hb3.mono hB3.size)
      have hbase := hB3.size
      have Hm := Lib.hid (show MapI w3 w2.heap.size (l.length + 0) (fun f => refC l f - inN (fs.take 0) f) from hm.congr (fun f => by rw [List.take_zero, inN_zero]; omega))
      have Hst := Lib.hid (acc_none IntR.enc 1 3 hB4)
      clear hb3 hm hB2
      generalize w2.heap.size = mb at *
      go_wp2
      go_loopw [8, 23] (fun v i wr => ∃ (k : Nat) (xs : List Int), k ≤ fs.length ∧ i = .int .i64 k ∧ xs = (fs.take k).filter (rlP l) ∧ (∀ f ∈ fs.take k, 1 ≤ refC l f) ∧ Acc IntR.enc 1 3 w xs v wr ∧ MapI wr mb (l.length + k) (fun f => refC l f - inN (fs.take k) f)) (fun _ i _ => fs.length - (Go.RowKit.intOf i).toNat)
      case atStart => exact ⟨0, [], Nat.zero_le _, rfl, by simp, by simp, Hst.out, Hm.out⟩
      case round =>
        obtain ⟨k, xs, hk, rfl, hxs, hall, hacc, hm⟩ := hrel
        clear Hm Hst
        have Hxs := Lib.hid hxs
        have Hall := Lib.hid hall
        have Hacc := Lib.hid hacc
        have hbw := hacc.2
        have hlen : xs.length ≤ fs.length := by rw [hxs]; exact filter_len _ _ _
        clear hacc hxs hall
        by_cases hlt : k < fs.length
        · obtain ⟨b, off, rfl, hblt, q0⟩ := (hb.keep hbw).atInt hlt
          have hx : fs[k]? = some fs[k] := List.getElem?_eq_getElem hlt
          generalize fs[k] = x at *
          have hxb := vFiles_bd H2.out (List.mem_of_getElem? hx)
          have hx0 := inN_new H2.out hx
          have hr0 := refC_bd H1.out x
          have Hx := Lib.hid hx
          have Hb := Lib.hid hb
          clear hx hb
          have hrun := hm.run (k := x) (by omega) (by omega)
          simp only [hx0, Int.sub_zero] at hrun
          have Hx0 := Lib.hid hx0
          generalize hgx : refC l x = gx at *
          have Hgx := Lib.hid hgx
          clear hgx hx0
          have Hn1 := Lib.hid (show 1 ≤ gx → ∀ f ∈ fs.take (k + 1), 1 ≤ refC l f from fun h1 f hf => by
            rw [List.take_add_one, Hx.out] at hf
            rcases List.mem_append.1 hf with h | h
            · exact Hall.out f h
            · simp at h; subst h; rw [Hgx.out]; exact h1)
          rcases (show gx = 0 ∨ gx = 1 ∨ 2 ≤ gx by omega) with h0 | h0 | h0
          · subst h0
            have HF := Lib.hid (rlK_in (l := l) (fs := fs) (f := x) (List.mem_of_getElem? Hx.out) Hgx.out)
            clear hm
            go_wp2
            all_goals go_returns
            all_goals (rw [HF.out, (rlF_no HF.out).1, (rlF_no HF.out).2]; exact acc2B (acc_none _ _ _ hbw) (acc_none _ _ _ hbw) (by simp) (by simp) (fun g g' h _ => by simp [Value.ownBlock] at h) rfl)
          · subst h0
            have Hfn := Lib.hid (filter_next (p := rlP l) Hx.out (decide_eq_true Hgx.out))
            have hmb := mapI_own hm Hacc.out.1
            obtain ⟨D, hown0, hhas, hat⟩ := hm
            have hkey := keyI (a := x) (by omega) (by omega)
            have Hf := Lib.hid (show _ ∧ _ ∧ _ from ⟨hown0.isMap, hhas, hat⟩)
            clear hhas hat
            go_wp2_with (first
              | (at_delete; refine wpList_delete_own _ rfl _ _ 71 3 rfl 3 lawI Try.underlying71 _ mb (l.length + k) D rfl hown0 _ _ rfl hkey ?_; intro w4 hown1 hturn1; have hacc4 := acc_turn Hacc.out hturn1.grown hmb (by omega); have hown := hacc4.1; have Hm1 := Lib.hid ((mapI_del Hf.out.2.1 Hf.out.2.2 hown1).congr (g' := fun f => refC l f - inN (fs.take (k + 1)) f) (rlN_step Hx.out Hgx.out rfl)); clear hown1 hturn1)
              | (at_builtin; refine wpList_append_own _ rfl _ _ 29 rfl w.heap.size 3 j0 _ 1 8 Try.underlying29 hj0 hy0 hy1 hy2 rfl (by decide) _ _ _ rfl (hown.alloc _) ⟨w4.heap.size, 0, none⟩ 1 1 (IntR.enc x) rfl rfl ?c1 ?c2 ?c3 ?c4 ?c5 ?_)
              | fail)
            case c1 =>
              intro j u hu
              rcases j with _ | j <;> simp [IntR.enc] at hu <;> subst hu <;> simp [Addr.add, go_sem]
            case c2 => intro u hu; simp [IntR.enc] at hu; subst hu; rfl
            case c3 => unfold maxLen; omega
            case c4 => omega
            case c5 => have := hacc4.2.size; simp; omega
            intro v' w2' hown' hg' _
            have hbA : Below w4.heap.size w4 (w4.alloc (.cells #[.int .i64 x] 3)) := (Below.refl _ _).alloc (Nat.le_refl _) _
            have hnext := acc_push hacc4 hbA hown' hg'
            have hm2 := (Hm1.out.keep hbA).kept hg' (mapI_own Hm1.out hacc4.1)
            have Hn := Lib.hid (show _ ∧ _ ∧ _ from ⟨show xs ++ [x] = (fs.take (k + 1)).filter (rlP l) by rw [Hfn.out, Hxs.out], hnext, hm2.mono (show l.length + k ≤ l.length + (k + 1) by omega)⟩)
            clear hnext hown' hg' hown Hacc Hfn hm2 hbA Hm1 hacc4 hmb
            go_wp2
            go_roundw
            case rel => exact ⟨k + 1, _, by omega, by go_num, Hn.out.1, Hn1.out (by omega), Hn.out.2.1, Hn.out.2.2⟩
            case measure => simp [Go.RowKit.intOf]; omega
          · have e0 : (gx == 0) = false := by simp; omega
            have e1 : (gx == 1) = false := by simp; omega
            have Hfn := Lib.hid (filter_skip (p := rlP l) Hx.out (decide_eq_false (by rw [Hgx.out]; omega)))
            have hmb := mapI_own hm Hacc.out.1
            obtain ⟨D, hown0, hhas, hat⟩ := hm
            have hkey := keyI (a := x) (by omega) (by omega)
            have hwf := wf_i64 (a := gx - 1) (by omega) (by omega)
            have hwr : IntKind.i64.wrap (gx - 1) = gx - 1 := IntWalk.i64_in _ (by omega)
            have Hf := Lib.hid (show _ ∧ _ ∧ _ from ⟨hown0.isMap, hhas, hat⟩)
            clear hhas hat
            go_wp2_with (first
              | (at_mapUpdate; refine wpList_mapUpdate_own _ rfl _ _ _ 71 rfl 3 3 lawI Try.underlying71 _ mb (l.length + k) _ rfl hown0 (by unfold maxLen; omega) _ _ _ rfl rfl hkey _ [] (plainElem_int Try.underlying3 hwf) ?_; intro w4 hown1 hgrow1)
              | fail)
            have hm1 := (mapI_put Hf.out.1 Hf.out.2.1 Hf.out.2.2 (by omega) hown1).congr (g' := fun f => refC l f - inN (fs.take (k + 1)) f) (rlN_step Hx.out Hgx.out rfl)
            have hacc4 := acc_turn Hacc.out hgrow1 hmb (by omega)
            have Hn := Lib.hid (show _ ∧ _ ∧ _ from ⟨show xs = (fs.take (k + 1)).filter (rlP l) by rw [Hfn.out, Hxs.out], hacc4, hm1⟩)
            clear hown1 hgrow1 hown0 hrun Hacc hmb hacc4 hm1
            go_wp2
            go_roundw
            case rel => exact ⟨k + 1, xs, by omega, by go_num, Hn.out.1, Hn1.out (by omega), Hn.out.2.1, Hn.out.2.2⟩
            case measure => simp [Go.RowKit.intOf]; omega
        · have hkl : fs.take k = fs := List.take_of_length_le (by omega)
          rw [hkl] at hm
          have HK := Lib.hid (rlK_all H1.out H2.out (fun f hf => Hall.out f (by rw [hkl]; exact hf)))
          have HF := Lib.hid (rlF_ok HK.out).1
          have HG := Lib.hid (show rlG l fs = xs by rw [(rlF_ok HK.out).2, Hxs.out, hkl])
          clear hkl
          have Hm := Lib.hid hm
          clear hm
          go_wp2_with fail
          refine (refs_any mb (l.length + k) (rlN l fs) _ Hm.out (by omega) (fun f hf => rlN_out (by rw [H1.out, H2.out]; rfl) hf)).mono ?_
          rintro e w5 ⟨A5, c5, rfl, o5, b5⟩
          have hbw5 := hbw.trans (b5.mono hbw.size)
          have o6 := own_rebase (B := w.heap.size) o5 hbw.size
          have hdis := rows_ne o6.2 (acc_keep Hacc.out b5).1 (by decide)
          have HP := Lib.hid (show _ ∧ _ ∧ _ from ⟨(show Acc FileRefR.enc 2 67 w (cntR (rlN l fs)) _ w5 from ⟨o6.2, hbw5⟩), acc_keep Hacc.out b5, hdis⟩)
          have hcl := cntU_len (rlN l fs) 100
          clear Hacc o5 o6 hdis b5
          go_wp2
          all_goals go_returns
          all_goals (rw [HK.out, HF.out, HG.out]; exact acc2B HP.out.1 HP.out.2.1 (Nat.le_trans hcl (by omega)) (by omega) HP.out.2.2 rfl)
    · have HF := Lib.hid (show rlK l fs = false by unfold rlK; rw [h1, h2]; rfl)
      have H1 := Lib.hid h1
      have H2 := Lib.hid h2
      clear h1 h2
      go_enter Try.func31, Try.ntmps31
      go_wp2_with fail
      refine (implRefs_any A c l _ (ha.keep hB)).mono ?_
      rintro e w1 ⟨rfl, hb1⟩
      rw [H1.out]
      have hB2 := hB.trans (hb1.mono hB.size)
      have hfull := hb1
      clear hb1
      go_wp2_with fail
      refine (implFiles_any A' c' fs _ (hb.keep hB2)).mono ?_
      rintro e w2 ⟨rfl, hb2⟩
      rw [H2.out]
      have hB3 := hB2.trans (hb2.mono hB2.size)
      have hfull := hfull.trans (hb2.mono hfull.size)
      clear hb2
      go_wp2
      all_goals go_returns
      all_goals (rw [HF.out, (rlF_no HF.out).1, (rlF_no HF.out).2]; exact acc2B (acc_none _ _ _ hB3) (acc_none _ _ _ hB3) (by simp) (by simp) (fun g g' h _ => by simp [Value.ownBlock] at h) rfl)
  · have HF := Lib.hid (show rlK l fs = false by unfold rlK; rw [h1]; rfl)
    have H1 := Lib.hid h1
    clear h1
    go_enter Try.func31, Try.ntmps31
    go_wp2_with fail
    refine (implRefs_any A c l _ (ha.keep hB)).mono ?_
    rintro e w1 ⟨rfl, hb1⟩
    rw [H1.out]
    have hB2 := hB.trans (hb1.mono hB.size)
    have hfull := hb1
    clear hb1
    go_wp2
    all_goals go_returns
    all_goals (rw [HF.out, (rlF_no HF.out).1, (rlF_no HF.out).2]; exact acc2B (acc_none _ _ _ hB2) (acc_none _ _ _ hB2) (by simp) (by simp) (fun g g' h _ => by simp [Value.ownBlock] at h) rfl)
end Go.Proofs.Ytjjjlpnbniofjaa
