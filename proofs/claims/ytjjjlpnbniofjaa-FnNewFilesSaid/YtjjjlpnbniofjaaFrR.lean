import Derived.Test.YtjjjlpnbniofjaaFrN
import Derived.Test.YtjjjlpnbniofjaaFrK
namespace Go.Proofs.Ytjjjlpnbniofjaa
open Go.RowKit
open Go.Maps
theorem rgK_eq {l : List FileRefR} {fs : List Int} (h1 : vRefs l = true) (h2 : vFiles fs = true) : rgK l fs = fs.all (fun f => decide (refC l f ≤ 998)) := by unfold rgK; rw [h1, h2]; rfl
theorem rgF_no {l : List FileRefR} {fs : List Int} (h : rgK l fs = false) : rgF l fs = [] := by unfold rgF; rw [h]; rfl
theorem rgF_ok {l : List FileRefR} {fs : List Int} (h : rgK l fs = true) : rgF l fs = cntR (rgN l fs) := by unfold rgF; rw [if_pos h]
theorem rgK_over {l : List FileRefR} {fs : List Int} {f : Int} (h : 999 < rgN l fs f) : rgK l fs = false := by
  rw [Bool.eq_false_iff]
  intro hk
  have := rgN_bd hk f
  omega
theorem rgK_in {l : List FileRefR} {fs : List Int} {f : Int} (hf : f ∈ fs) (h : 999 ≤ refC l f) : rgK l fs = false := by
  rw [Bool.eq_false_iff]
  intro hk
  have := rgN_bd hk f
  unfold rgN inN at this
  rw [if_pos hf] at this
  omega
theorem rgK_all {l : List FileRefR} {fs : List Int} (h1 : vRefs l = true) (h2 : vFiles fs = true) (h : ∀ f : Int, 0 ≤ f → f ≤ 99 → rgN l fs f ≤ 999) : rgK l fs = true := by
  rw [rgK_eq h1 h2, List.all_eq_true]
  intro f hf
  have hb := vFiles_bd h2 hf
  have := h f hb.1 hb.2
  unfold rgN inN at this
  rw [if_pos hf] at this
  exact decide_eq_true (by omega)
set_option maxRecDepth 100000 in
set_option maxHeartbeats 4000000 in
theorem specRg_any (A : Option Addr) (c : Nat) (l : List FileRefR) (A' : Option Addr) (c' : Nat) (fs : List Int) (w : World) (ha : Row FileRefR.enc 2 w A l) (hb : Row IntR.enc 1 w A' fs) :
    Calls Try.prog 27 #[.slice A l.length c, .slice A' fs.length c'] w (OwnBPost FileRefR.enc 2 67 w (rgF l fs) (rgK l fs)) := by
  have hal := ha.1
  have hbl := hb.1
  obtain ⟨i0, hi0, hz0, hz1, hz2⟩ := info_parts FileRefR.zero_info
  have hB : Below w.heap.size w (w.alloc (.cells #[] 67)) := (Below.refl _ _).alloc (Nat.le_refl _) _
  have hst := acc_made FileRefR.enc 2 67 (Below.refl w.heap.size w)
  have Hst := Lib.hid hst
  clear hst
  rcases Bool.eq_false_or_eq_true (vRefs l) with h1 | h1
  · rcases Bool.eq_false_or_eq_true (vFiles fs) with h2 | h2
    · have H1 := Lib.hid h1
      have H2 := Lib.hid h2
      clear h1 h2
      go_enter Try.func27, Try.ntmps27
      go_wp2_with fail
      refine (specRefs_any A c l _ (ha.keep hB)).mono ?_
      rintro e w1 ⟨rfl, hb1⟩
      rw [H1.out]
      have hB2 := hB.trans (hb1.mono hB.size)
      have hfull := hb1
      clear hb1
      go_wp2_with fail
      refine (specFiles_any A' c' fs _ (hb.keep hB2)).mono ?_
      rintro e w2 ⟨rfl, hb2⟩
      rw [H2.out]
      have hB3 := hB2.trans (hb2.mono hB2.size)
      have hfull := hfull.trans (hb2.mono hfull.size)
      clear hb2
      have hst := acc_keep Hst.out (show Below (w.alloc (.cells #[] 67)).heap.size (w.alloc (.cells #[] 67)) w2 from hfull)
      have Hacc := Lib.hid hst
      clear hst Hst hfull
      go_wp2
      go_loopw [6, 7] (fun v i wr => ∃ (k : Nat) (xs : List FileRefR), k ≤ 100 ∧ i = .int .i64 k ∧ xs = cntU (rgN l fs) k ∧ (∀ f : Int, 0 ≤ f → f < k → rgN l fs f ≤ 999) ∧ Acc FileRefR.enc 2 67 w xs v wr) (fun _ i _ => 100 - (Go.RowKit.intOf i).toNat)
      case atStart => exact ⟨0, [], by omega, rfl, by simp [cntU], fun f h0 h1 => by omega, Hacc.out⟩
      case round =>
        obtain ⟨k, xs, hk, rfl, hxs, hall, hacc⟩ := hrel
        clear Hacc
        have Hxs := Lib.hid hxs
        have Hall := Lib.hid hall
        have Hacc := Lib.hid hacc
        have hbw := hacc.2
        have hlen : xs.length ≤ 100 := by rw [hxs]; exact Nat.le_trans (cntU_len _ _) hk
        clear hacc hxs hall
        by_cases hlt : k < 100
        · have hr0 := refC_bd H1.out (k : Int)
          have hne : (k : Int) ≤ 99 := by omega
          have hcu := cntU_succ (rgN l fs) k
          have Hcu := Lib.hid hcu
          clear hcu
          have hgN : rgN l fs k = refC l k + inN fs k := rfl
          have HgN := Lib.hid hgN
          clear hgN
          generalize hgx : refC l (k : Int) = gx at *
          have Hgx := Lib.hid hgx
          clear hgx
          rcases Classical.em ((k : Int) ∈ fs) with hin | hin
          · have hd : decide ((k : Int) ∈ fs) = true := decide_eq_true hin
            have HN := Lib.hid (show rgN l fs k = gx + 1 by rw [HgN.out]; unfold inN; rw [if_pos hin])
            clear hin HgN
            by_cases hov : gx = 999
            · have HF := Lib.hid (rgK_over (l := l) (fs := fs) (f := k) (by rw [HN.out]; omega))
              subst hov
              clear HN Hcu
              go_wp2_with (first | (go_at_call 57; refine (specRefC_any A c l _ _ (ha.keep hbw)).mono ?_; rintro e w' ⟨rfl, rfl⟩; (try rw [Hgx.out])) | (go_at_call 64; refine (specIsIn_any A' c' fs _ _ (hb.keep hbw)).mono ?_; rintro e w' ⟨rfl, rfl⟩; (try rw [hd])) | fail)
              all_goals go_returns
              all_goals (rw [HF.out, rgF_no HF.out]; exact accB (acc_none _ _ _ hbw) (by simp) rfl)
            · have hwk : gx + 1 ≤ 999 := by omega
              have Hnx := Lib.hid (show xs ++ [(⟨(k : Int), gx + 1⟩ : FileRefR)] = cntU (rgN l fs) (k + 1) by rw [Hcu.out, Hxs.out, HN.out, if_pos (by omega)])
              have hown := Hacc.out.1
              go_wp2_with (first | (go_at_call 57; refine (specRefC_any A c l _ _ (ha.keep hbw)).mono ?_; rintro e w' ⟨rfl, rfl⟩; (try rw [Hgx.out])) | (go_at_call 64; refine (specIsIn_any A' c' fs _ _ (hb.keep hbw)).mono ?_; rintro e w' ⟨rfl, rfl⟩; (try rw [hd])) | (at_builtin; refine wpList_append_own _ rfl _ _ 25 rfl w.heap.size 67 i0 _ 2 16 Try.underlying25 hi0 hz0 hz1 hz2 rfl (by decide) _ _ _ rfl (hown.alloc _) ⟨wr.heap.size, 0, none⟩ 1 1 (FileRefR.enc ⟨(k : Int), gx + 1⟩) rfl rfl ?c1 ?c2 ?c3 ?c4 ?c5 ?_) | fail)
              case c1 =>
                intro j u hu
                rcases j with _ | _ | j <;> simp [FileRefR.enc] at hu <;> subst hu <;> simp [Addr.add, go_sem]
              case c2 => intro u hu; simp [FileRefR.enc] at hu; rcases hu with rfl | rfl <;> rfl
              case c3 => unfold maxLen; omega
              case c4 => omega
              case c5 => have := Hacc.out.2.size; simp; omega
              intro v' w2' hown' hg' _
              have hnext := acc_push Hacc.out ((Below.refl _ _).alloc (Nat.le_refl _) _) hown' hg'
              have Hn := Lib.hid hnext
              clear hnext hown' hg' hown Hacc
              go_wp2
              go_roundw
              case rel => exact ⟨k + 1, _, by omega, by go_num, Hnx.out, fun f h0 h1 => by rcases (show f < k ∨ f = k by omega) with h | h; exact Hall.out f h0 h; rw [h, HN.out]; omega, Hn.out⟩
              case measure => simp [Go.RowKit.intOf]; omega
          · have hd : decide ((k : Int) ∈ fs) = false := decide_eq_false hin
            have HN := Lib.hid (show rgN l fs k = gx by rw [HgN.out]; unfold inN; rw [if_neg hin]; omega)
            clear hin HgN
            by_cases hpos : gx = 0
            · have Hnx := Lib.hid (show xs = cntU (rgN l fs) (k + 1) by rw [Hcu.out, Hxs.out, HN.out, if_neg (by omega), List.append_nil])
              subst hpos
              go_wp2_with (first | (go_at_call 57; refine (specRefC_any A c l _ _ (ha.keep hbw)).mono ?_; rintro e w' ⟨rfl, rfl⟩; (try rw [Hgx.out])) | (go_at_call 64; refine (specIsIn_any A' c' fs _ _ (hb.keep hbw)).mono ?_; rintro e w' ⟨rfl, rfl⟩; (try rw [hd])) | fail)
              go_roundw
              case rel => exact ⟨k + 1, xs, by omega, by go_num, Hnx.out, fun f h0 h1 => by rcases (show f < k ∨ f = k by omega) with h | h; exact Hall.out f h0 h; rw [h, HN.out]; omega, Hacc.out⟩
              case measure => simp [Go.RowKit.intOf]; omega
            · have hpos2 : 0 < gx := by omega
              have Hnx := Lib.hid (show xs ++ [(⟨(k : Int), gx⟩ : FileRefR)] = cntU (rgN l fs) (k + 1) by rw [Hcu.out, Hxs.out, HN.out, if_pos (by omega)])
              have hown := Hacc.out.1
              go_wp2_with (first | (go_at_call 57; refine (specRefC_any A c l _ _ (ha.keep hbw)).mono ?_; rintro e w' ⟨rfl, rfl⟩; (try rw [Hgx.out])) | (go_at_call 64; refine (specIsIn_any A' c' fs _ _ (hb.keep hbw)).mono ?_; rintro e w' ⟨rfl, rfl⟩; (try rw [hd])) | (at_builtin; refine wpList_append_own _ rfl _ _ 25 rfl w.heap.size 67 i0 _ 2 16 Try.underlying25 hi0 hz0 hz1 hz2 rfl (by decide) _ _ _ rfl (hown.alloc _) ⟨wr.heap.size, 0, none⟩ 1 1 (FileRefR.enc ⟨(k : Int), gx⟩) rfl rfl ?c1 ?c2 ?c3 ?c4 ?c5 ?_) | fail)
              case c1 =>
                intro j u hu
                rcases j with _ | _ | j <;> simp [FileRefR.enc] at hu <;> subst hu <;> simp [Addr.add, go_sem]
              case c2 => intro u hu; simp [FileRefR.enc] at hu; rcases hu with rfl | rfl <;> rfl
              case c3 => unfold maxLen; omega
              case c4 => omega
              case c5 => have := Hacc.out.2.size; simp; omega
              intro v' w2' hown' hg' _
              have hnext := acc_push Hacc.out ((Below.refl _ _).alloc (Nat.le_refl _) _) hown' hg'
              have Hn := Lib.hid hnext
              clear hnext hown' hg' hown Hacc
              go_wp2
              go_roundw
              case rel => exact ⟨k + 1, _, by omega, by go_num, Hnx.out, fun f h0 h1 => by rcases (show f < k ∨ f = k by omega) with h | h; exact Hall.out f h0 h; rw [h, HN.out]; omega, Hn.out⟩
              case measure => simp [Go.RowKit.intOf]; omega
        · have hk100 : k = 100 := by omega
          subst hk100
          have HK := Lib.hid (rgK_all H1.out H2.out (fun f h0 h1 => Hall.out f h0 (by omega)))
          have Hxe := Lib.hid (show rgF l fs = xs by rw [rgF_ok HK.out, Hxs.out]; rfl)
          go_wp2
          all_goals go_returns
          all_goals (rw [HK.out, Hxe.out]; exact accB Hacc.out (by omega) rfl)
    · have HF := Lib.hid (show rgK l fs = false by unfold rgK; rw [h1, h2]; rfl)
      have H1 := Lib.hid h1
      have H2 := Lib.hid h2
      clear h1 h2
      go_enter Try.func27, Try.ntmps27
      go_wp2_with fail
      refine (specRefs_any A c l _ (ha.keep hB)).mono ?_
      rintro e w1 ⟨rfl, hb1⟩
      rw [H1.out]
      have hB2 := hB.trans (hb1.mono hB.size)
      have hfull := hb1
      clear hb1
      go_wp2_with fail
      refine (specFiles_any A' c' fs _ (hb.keep hB2)).mono ?_
      rintro e w2 ⟨rfl, hb2⟩
      rw [H2.out]
      have hB3 := hB2.trans (hb2.mono hB2.size)
      have hfull := hfull.trans (hb2.mono hfull.size)
      clear hb2
      go_wp2
      all_goals go_returns
      all_goals (rw [HF.out, rgF_no HF.out]; exact accB (acc_none _ _ _ hB3) (by simp) rfl)
  · have HF := Lib.hid (show rgK l fs = false by unfold rgK; rw [h1]; rfl)
    have H1 := Lib.hid h1
    clear h1
    go_enter Try.func27, Try.ntmps27
    go_wp2_with fail
    refine (specRefs_any A c l _ (ha.keep hB)).mono ?_
    rintro e w1 ⟨rfl, hb1⟩
    rw [H1.out]
    have hB2 := hB.trans (hb1.mono hB.size)
    have hfull := hb1
    clear hb1
    go_wp2
    all_goals go_returns
    all_goals (rw [HF.out, rgF_no HF.out]; exact accB (acc_none _ _ _ hB2) (by simp) rfl)
end Go.Proofs.Ytjjjlpnbniofjaa
