import Derived.Test.YtjjjlpnbniofjaaFrRI
namespace Go.Proofs.Ytjjjlpnbniofjaa
open Go.RowKit
open Go.Maps
def Own2BPost {α β : Type} (enc : α → List Value) (k T : Nat) (enc' : β → List Value) (k' T' : Nat) (w : World) (l : List α) (m : List β) (b : Bool) (e : Ending) (w' : World) : Prop :=
  ∃ A c A' c', e = .returned (.tuple #[.slice A l.length c, .slice A' m.length c', .bool b]) ∧ Own enc k T w' w.heap.size (.slice A l.length c) l ∧ Own enc' k' T' w' w.heap.size (.slice A' m.length c') m ∧
    (∀ g g', Value.ownBlock (.slice A l.length c) = some g → Value.ownBlock (.slice A' m.length c') = some g' → g ≠ g') ∧ Below w.heap.size w w'
theorem acc2B {α β : Type} {enc : α → List Value} {k T : Nat} {enc' : β → List Value} {k' T' : Nat} {B0 wr : World} {xs : List α} {ys : List β} {v v' : Value} {b b' : Bool} (h : Acc enc k T B0 xs v wr) (h' : Acc enc' k' T' B0 ys v' wr) (hl : xs.length ≤ 1048576) (hl' : ys.length ≤ 1048576)
    (hne : ∀ g g', v.ownBlock = some g → v'.ownBlock = some g' → g ≠ g') (hb : b = b') : Own2BPost enc k T enc' k' T' B0 xs ys b (.returned (.tuple #[v, v', .bool b'])) wr := by
  subst hb
  obtain ⟨h1, h2⟩ := h
  have ho : Own enc k T wr B0.heap.size v xs := ⟨hl, h1⟩
  have ho' : Own enc' k' T' wr B0.heap.size v' ys := ⟨hl', h'.1⟩
  obtain ⟨A, c, rfl⟩ := ho.form
  obtain ⟨A', c', rfl⟩ := ho'.form
  exact ⟨A, c, A', c', rfl, ho, ho', hne, h2⟩
theorem acc_far {α β : Type} {enc : α → List Value} {k T : Nat} {enc' : β → List Value} {k' T' : Nat} {B0 wr w1 w' : World} {xs : List α} {ys : List β} {v v' : Value} (h : Acc enc k T B0 xs v wr) (h2 : Acc enc' k' T' B0 ys v' wr) (hT : T ≠ T') (hb : Below wr.heap.size wr w1) (hg : w1.grownBy w' v'.ownBlock) : Acc enc k T B0 xs v w' := by
  have hB1 := h.2.trans (hb.mono h.2.size)
  refine ⟨(ownsRow_keep h.1 hb).kept hg ?_, hB1.trans (below_of_gb hg hB1.size fun g hg' => (h2.1.lt g hg').1)⟩
  rcases hv : v.ownBlock with _ | g
  · exact .inl rfl
  · right
    intro he
    exact rows_ne h.1 h2.1 hT g g hv he.symm rfl
def rlP (l : List FileRefR) (f : Int) : Bool := decide (refC l f = 1)
def rlE (fs : List Int) (x : FileRefR) : Option FileRefR := if 0 < x.a1 - inN fs x.a0 then some ⟨x.a0, x.a1 - inN fs x.a0⟩ else none
theorem rlK_eq {l : List FileRefR} {fs : List Int} (h1 : vRefs l = true) (h2 : vFiles fs = true) : rlK l fs = fs.all (fun f => decide (1 ≤ refC l f)) := by unfold rlK; rw [h1, h2]; rfl
theorem rlF_no {l : List FileRefR} {fs : List Int} (h : rlK l fs = false) : rlF l fs = [] ∧ rlG l fs = [] := by unfold rlF rlG; rw [h]; exact ⟨rfl, rfl⟩
theorem rlF_ok {l : List FileRefR} {fs : List Int} (h : rlK l fs = true) : rlF l fs = cntR (rlN l fs) ∧ rlG l fs = fs.filter (rlP l) := by unfold rlF rlG; rw [if_pos h, if_pos h]; exact ⟨rfl, rfl⟩
theorem rlK_in {l : List FileRefR} {fs : List Int} {f : Int} (hf : f ∈ fs) (h : refC l f = 0) : rlK l fs = false := by
  rw [Bool.eq_false_iff]
  intro hk
  unfold rlK at hk
  rw [Bool.and_eq_true, List.all_eq_true] at hk
  have := hk.2 f hf
  rw [decide_eq_true_eq] at this
  omega
theorem rlK_all {l : List FileRefR} {fs : List Int} (h1 : vRefs l = true) (h2 : vFiles fs = true) (h : ∀ f ∈ fs, 1 ≤ refC l f) : rlK l fs = true := by
  rw [rlK_eq h1 h2, List.all_eq_true]
  intro f hf
  exact decide_eq_true (h f hf)
set_option maxRecDepth 100000 in
set_option maxHeartbeats 4000000 in
theorem specRl_any (A : Option Addr) (c : Nat) (l : List FileRefR) (A' : Option Addr) (c' : Nat) (fs : List Int) (w : World) (ha : Row FileRefR.enc 2 w A l) (hb : Row IntR.enc 1 w A' fs) :
    Calls Try.prog 30 #[.slice A l.length c, .slice A' fs.length c'] w (Own2BPost FileRefR.enc 2 67 IntR.enc 1 3 w (rlF l fs) (rlG l fs) (rlK l fs)) := by
  have hal := ha.1
  have hbl := hb.1
  obtain ⟨i0, hi0, hz0, hz1, hz2⟩ := info_parts FileRefR.zero_info
  obtain ⟨j0, hj0, hy0, hy1, hy2⟩ := info_parts IntR.zero_info
  have hB0 : Below w.heap.size w (w.alloc (.cells #[] 67)) := (Below.refl _ _).alloc (Nat.le_refl _) _
  have hB : Below w.heap.size w ((w.alloc (.cells #[] 67)).alloc (.cells #[] 3)) := hB0.alloc (by simp) _
  have hst0 := acc_keep (acc_made FileRefR.enc 2 67 (Below.refl w.heap.size w)) ((Below.refl _ _).alloc (Nat.le_refl _) (.cells #[] 3))
  have hst1 := acc_made IntR.enc 1 3 hB0
  simp only [World.size_alloc] at hst1
  have Hst := Lib.hid (show _ ∧ _ from ⟨hst0, hst1⟩)
  clear hst0 hst1 hB0
  rcases Bool.eq_false_or_eq_true (vRefs l) with h1 | h1
  · rcases Bool.eq_false_or_eq_true (vFiles fs) with h2 | h2
    · have H1 := Lib.hid h1
      have H2 := Lib.hid h2
      clear h1 h2
      go_enter Try.func30, Try.ntmps30
      go_wp2_with fail
      refine (specRefs_any A c l _ (ha.keep hB)).mono ?_
      rintro e w1 ⟨rfl, hb1⟩
      rw [H1.out]
      have hB2 := hB.trans (hb1.mono hB.size)
      have hfull := hb1
      clear hb1
      go_wp2_with fail
      refine (specFiles_any A' c' fs _ (hb.keep hB2)).mono ?_
      rintro e w2 ⟨rfl, hb2⟩
      rw [H2.out]
      have hB3 := hB2.trans (hb2.mono hB2.size)
      have hfull := hfull.trans (hb2.mono hfull.size)
      clear hb2
      have Hacc := Lib.hid (show _ ∧ _ from ⟨acc_keep Hst.out.1 hfull, acc_keep Hst.out.2 hfull⟩)
      clear Hst hfull
      go_wp2
      go_loopw [8, 9] (fun v i wr => ∃ (k : Nat) (xs : List Int), k ≤ fs.length ∧ i = .int .i64 k ∧ xs = (fs.take k).filter (rlP l) ∧ (∀ f ∈ fs.take k, 1 ≤ refC l f) ∧ Acc IntR.enc 1 3 w xs v wr ∧ Acc FileRefR.enc 2 67 w [] (.slice (some ⟨w.heap.size, 0, none⟩) 0 0) wr) (fun _ i _ => fs.length - (Go.RowKit.intOf i).toNat)
      case atStart => exact ⟨0, [], Nat.zero_le _, rfl, by simp, by simp, Hacc.out.2, Hacc.out.1⟩
      case round =>
        obtain ⟨k, xs, hk, rfl, hxs, hall, hacc, hout⟩ := hrel
        clear Hacc
        have Hxs := Lib.hid hxs
        have Hall := Lib.hid hall
        have Hacc := Lib.hid hacc
        have Hout := Lib.hid hout
        have hbw := hacc.2
        have hlen : xs.length ≤ fs.length := by rw [hxs]; exact filter_len _ _ _
        clear hacc hxs hall hout
        by_cases hlt : k < fs.length
        · obtain ⟨b, off, rfl, hblt, q0⟩ := (hb.keep hbw).atInt hlt
          have hx : fs[k]? = some fs[k] := List.getElem?_eq_getElem hlt
          generalize fs[k] = x at *
          have hr0 := refC_bd H1.out x
          have Hx := Lib.hid hx
          have Hb := Lib.hid hb
          clear hx hb
          generalize hgx : refC l x = gx at *
          have Hgx := Lib.hid hgx
          clear hgx
          have Hn1 := Lib.hid (show 1 ≤ gx → ∀ f ∈ fs.take (k + 1), 1 ≤ refC l f from fun h1 f hf => by
            rw [List.take_add_one, Hx.out] at hf
            rcases List.mem_append.1 hf with h | h
            · exact Hall.out f h
            · simp at h; subst h; rw [Hgx.out]; exact h1)
          rcases (show gx = 0 ∨ gx = 1 ∨ 2 ≤ gx by omega) with h0 | h0 | h0
          · subst h0
            have HF := Lib.hid (rlK_in (l := l) (fs := fs) (f := x) (List.mem_of_getElem? Hx.out) Hgx.out)
            go_wp2_with (first | (go_at_call 57; refine (specRefC_any A c l _ _ (ha.keep hbw)).mono ?_; rintro e w' ⟨rfl, rfl⟩; (try rw [Hgx.out])) | fail)
            all_goals go_returns
            all_goals (rw [HF.out, (rlF_no HF.out).1, (rlF_no HF.out).2]; exact acc2B (acc_none _ _ _ hbw) (acc_none _ _ _ hbw) (by simp) (by simp) (fun g g' h _ => by simp [Value.ownBlock] at h) rfl)
          · subst h0
            have Hfn := Lib.hid (filter_next (p := rlP l) Hx.out (decide_eq_true Hgx.out))
            have hown := Hacc.out.1
            go_wp2_with (first | (go_at_call 57; refine (specRefC_any A c l _ _ (ha.keep hbw)).mono ?_; rintro e w' ⟨rfl, rfl⟩; (try rw [Hgx.out])) | (at_builtin; refine wpList_append_own _ rfl _ _ 29 rfl w.heap.size 3 j0 _ 1 8 Try.underlying29 hj0 hy0 hy1 hy2 rfl (by decide) _ _ _ rfl (hown.alloc _) ⟨wr.heap.size, 0, none⟩ 1 1 (IntR.enc x) rfl rfl ?c1 ?c2 ?c3 ?c4 ?c5 ?_) | fail)
            case c1 =>
              intro j u hu
              rcases j with _ | j <;> simp [IntR.enc] at hu <;> subst hu <;> simp [Addr.add, go_sem]
            case c2 => intro u hu; simp [IntR.enc] at hu; subst hu; rfl
            case c3 => unfold maxLen; omega
            case c4 => omega
            case c5 => have := Hacc.out.2.size; simp; omega
            intro v' w2' hown' hg' _
            have hbA : Below wr.heap.size wr (wr.alloc (.cells #[.int .i64 x] 3)) := (Below.refl _ _).alloc (Nat.le_refl _) _
            have hnext := acc_push Hacc.out hbA hown' hg'
            have hout2 := acc_far Hout.out Hacc.out (by decide) hbA hg'
            have Hn := Lib.hid (show _ ∧ _ ∧ _ from ⟨show xs ++ [x] = (fs.take (k + 1)).filter (rlP l) by rw [Hfn.out, Hxs.out], hnext, hout2⟩)
            clear hnext hown' hg' hown Hacc Hfn hout2 hbA
            go_wp2
            go_roundw
            case rel => exact ⟨k + 1, _, by omega, by go_num, Hn.out.1, Hn1.out (by omega), Hn.out.2.1, Hn.out.2.2⟩
            case measure => simp [Go.RowKit.intOf]; omega
          · have e0 : (gx == 0) = false := by simp; omega
            have e1 : (gx == 1) = false := by simp; omega
            have Hfn := Lib.hid (filter_skip (p := rlP l) Hx.out (decide_eq_false (by rw [Hgx.out]; omega)))
            go_wp2_with (first | (go_at_call 57; refine (specRefC_any A c l _ _ (ha.keep hbw)).mono ?_; rintro e w' ⟨rfl, rfl⟩; (try rw [Hgx.out])) | fail)
            go_roundw
            case rel => exact ⟨k + 1, xs, by omega, by go_num, by rw [Hfn.out, Hxs.out], Hn1.out (by omega), Hacc.out, Hout.out⟩
            case measure => simp [Go.RowKit.intOf]; omega
        · have hkl : fs.take k = fs := List.take_of_length_le (by omega)
          have HK := Lib.hid (rlK_all H1.out H2.out (fun f hf => Hall.out f (by rw [hkl]; exact hf)))
          have HG := Lib.hid (show rlG l fs = xs by rw [(rlF_ok HK.out).2, Hxs.out, hkl])
          clear hkl Hall Hxs
          generalize hU : u8 = gv at *
          clear hU
          go_wp2
          go_loopw [7, 11] (fun v i wr => ∃ (k : Nat) (ys : List FileRefR), k ≤ l.length ∧ i = .int .i64 k ∧ ys = (l.take k).filterMap (rlE fs) ∧ Acc FileRefR.enc 2 67 w ys v wr ∧ Acc IntR.enc 1 3 w xs gv wr) (fun _ i _ => l.length - (Go.RowKit.intOf i).toNat)
          case atStart => exact ⟨0, [], Nat.zero_le _, rfl, by simp, Hout.out, Hacc.out⟩
          case round =>
            obtain ⟨k2, ys, hk2, rfl, hys, hacc2, hgone⟩ := hrel
            clear Hout Hacc
            have Hys := Lib.hid hys
            have Hacc := Lib.hid hacc2
            have Hgone := Lib.hid hgone
            have hbw := hacc2.2
            have hlen2 : ys.length ≤ l.length := by rw [hys]; exact fmap_len _ _ _
            clear hacc2 hys hgone
            by_cases hlt2 : k2 < l.length
            · obtain ⟨b, off, rfl, hblt, q0, q1⟩ := (ha.keep hbw).atFileRef hlt2
              have hx : l[k2]? = some l[k2] := List.getElem?_eq_getElem hlt2
              generalize l[k2] = x at *
              have hxb := vRefs_bd H1.out (List.mem_of_getElem? hx)
              have Hx := Lib.hid hx
              have Ha := Lib.hid ha
              clear hx ha
              rcases Classical.em (x.a0 ∈ fs) with hin | hin
              · have hd : decide (x.a0 ∈ fs) = true := decide_eq_true hin
                have Hin := Lib.hid (show inN fs x.a0 = 1 by unfold inN; rw [if_pos hin])
                clear hin
                by_cases hpos : x.a1 = 1
                · have Hfn := Lib.hid (fmap_skip (f := rlE fs) Hx.out (by unfold rlE; rw [Hin.out, if_neg (by omega)]))
                  have hz : x.a1 - 1 = 0 := by omega
                  go_wp2_with (first | (go_at_call 64; refine (specIsIn_any A' c' fs _ _ (hb.keep hbw)).mono ?_; rintro e w' ⟨rfl, rfl⟩; (try rw [hd])) | fail)
                  all_goals
                    go_roundw
                    case rel => exact ⟨k2 + 1, ys, by omega, by go_num, by rw [Hfn.out, Hys.out], Hacc.out, Hgone.out⟩
                    case measure => simp [Go.RowKit.intOf]; omega
                · have hp2 : 0 < x.a1 - 1 := by omega
                  have Hfn := Lib.hid (fmap_next (f := rlE fs) (y := ⟨x.a0, x.a1 - 1⟩) Hx.out (by unfold rlE; rw [Hin.out, if_pos hp2]))
                  have hown := Hacc.out.1
                  go_wp2_with (first | (go_at_call 64; refine (specIsIn_any A' c' fs _ _ (hb.keep hbw)).mono ?_; rintro e w' ⟨rfl, rfl⟩; (try rw [hd])) | (at_builtin; refine wpList_append_own _ rfl _ _ 25 rfl w.heap.size 67 i0 _ 2 16 Try.underlying25 hi0 hz0 hz1 hz2 rfl (by decide) _ _ _ rfl (hown.alloc _) ⟨wr.heap.size, 0, none⟩ 1 1 (FileRefR.enc ⟨x.a0, x.a1 - 1⟩) rfl rfl ?c1 ?c2 ?c3 ?c4 ?c5 ?_) | fail)
                  case c1 =>
                    intro j u hu
                    rcases j with _ | _ | j <;> simp [FileRefR.enc] at hu <;> subst hu <;> simp [Addr.add, go_sem]
                  case c2 => intro u hu; simp [FileRefR.enc] at hu; rcases hu with rfl | rfl <;> rfl
                  case c3 => unfold maxLen; omega
                  case c4 => omega
                  case c5 => have := Hacc.out.2.size; simp; omega
                  intro v' w2' hown' hg' _
                  have hbA : Below wr.heap.size wr (wr.alloc (.cells #[.int .i64 x.a0, .int .i64 (x.a1 - 1)] 67)) := (Below.refl _ _).alloc (Nat.le_refl _) _
                  have hnext := acc_push Hacc.out hbA hown' hg'
                  have hgone2 := acc_far Hgone.out Hacc.out (by decide) hbA hg'
                  have Hn := Lib.hid (show _ ∧ _ ∧ _ from ⟨show ys ++ [_] = (l.take (k2 + 1)).filterMap (rlE fs) by rw [Hfn.out, Hys.out], hnext, hgone2⟩)
                  clear hnext hown' hg' hown Hacc Hfn hgone2 hbA Hgone
                  go_wp2
                  go_roundw
                  case rel => exact ⟨k2 + 1, _, by omega, by go_num, Hn.out.1, Hn.out.2.1, Hn.out.2.2⟩
                  case measure => simp [Go.RowKit.intOf]; omega
              · have hd : decide (x.a0 ∈ fs) = false := decide_eq_false hin
                have Hin := Lib.hid (show inN fs x.a0 = 0 by unfold inN; rw [if_neg hin])
                clear hin
                have hp2 : 0 < x.a1 := by omega
                have Hfn := Lib.hid (fmap_next (f := rlE fs) (y := ⟨x.a0, x.a1⟩) Hx.out (by unfold rlE; rw [Hin.out, Int.sub_zero, if_pos hp2]))
                have hown := Hacc.out.1
                go_wp2_with (first | (go_at_call 64; refine (specIsIn_any A' c' fs _ _ (hb.keep hbw)).mono ?_; rintro e w' ⟨rfl, rfl⟩; (try rw [hd])) | (at_builtin; refine wpList_append_own _ rfl _ _ 25 rfl w.heap.size 67 i0 _ 2 16 Try.underlying25 hi0 hz0 hz1 hz2 rfl (by decide) _ _ _ rfl (hown.alloc _) ⟨wr.heap.size, 0, none⟩ 1 1 (FileRefR.enc ⟨x.a0, x.a1⟩) rfl rfl ?c1 ?c2 ?c3 ?c4 ?c5 ?_) | fail)
                case c1 =>
                  intro j u hu
                  rcases j with _ | _ | j <;> simp [FileRefR.enc] at hu <;> subst hu <;> simp [Addr.add, go_sem]
                case c2 => intro u hu; simp [FileRefR.enc] at hu; rcases hu with rfl | rfl <;> rfl
                case c3 => unfold maxLen; omega
                case c4 => omega
                case c5 => have := Hacc.out.2.size; simp; omega
                intro v' w2' hown' hg' _
                have hbA : Below wr.heap.size wr (wr.alloc (.cells #[.int .i64 x.a0, .int .i64 x.a1] 67)) := (Below.refl _ _).alloc (Nat.le_refl _) _
                have hnext := acc_push Hacc.out hbA hown' hg'
                have hgone2 := acc_far Hgone.out Hacc.out (by decide) hbA hg'
                have Hn := Lib.hid (show _ ∧ _ ∧ _ from ⟨show ys ++ [_] = (l.take (k2 + 1)).filterMap (rlE fs) by rw [Hfn.out, Hys.out], hnext, hgone2⟩)
                clear hnext hown' hg' hown Hacc Hfn hgone2 hbA Hgone
                go_wp2
                go_roundw
                case rel => exact ⟨k2 + 1, _, by omega, by go_num, Hn.out.1, Hn.out.2.1, Hn.out.2.2⟩
                case measure => simp [Go.RowKit.intOf]; omega
            · have hkl : l.take k2 = l := List.take_of_length_le (by omega)
              have HFE := Lib.hid (show rlF l fs = ys by rw [(rlF_ok HK.out).1, ← rlF_spec H1.out, Hys.out, hkl]; rfl)
              have hdis := rows_ne Hacc.out.1 Hgone.out.1 (by decide)
              clear hkl
              go_wp2
              all_goals go_returns
              all_goals (rw [HK.out, HFE.out, HG.out]; exact acc2B Hacc.out Hgone.out (by omega) (by omega) hdis rfl)
    · have HF := Lib.hid (show rlK l fs = false by unfold rlK; rw [h1, h2]; rfl)
      have H1 := Lib.hid h1
      have H2 := Lib.hid h2
      clear h1 h2
      go_enter Try.func30, Try.ntmps30
      go_wp2_with fail
      refine (specRefs_any A c l _ (ha.keep hB)).mono ?_
      rintro e w1 ⟨rfl, hb1⟩
      rw [H1.out]
      have hB2 := hB.trans (hb1.mono hB.size)
      have hfull := hb1
      clear hb1
      go_wp2_with fail
      refine (specFiles_any A' c' fs _ (hb.keep hB2)).mono ?_
      rintro e w2 ⟨rfl, hb2⟩
      rw [H2.out]
      have hB3 := hB2.trans (hb2.mono hB2.size)
      have hfull := hfull.trans (hb2.mono hfull.size)
      clear hb2
      go_wp2
      all_goals go_returns
      all_goals (rw [HF.out, (rlF_no HF.out).1, (rlF_no HF.out).2]; exact acc2B (acc_none _ _ _ hB3) (acc_none _ _ _ hB3) (by simp) (by simp) (fun g g' h _ => by simp [Value.ownBlock] at h) rfl)
  · have HF := Lib.hid (show rlK l fs = false by unfold rlK; rw [h1]; rfl)
    have H1 := Lib.hid h1
    clear h1
    go_enter Try.func30, Try.ntmps30
    go_wp2_with fail
    refine (specRefs_any A c l _ (ha.keep hB)).mono ?_
    rintro e w1 ⟨rfl, hb1⟩
    rw [H1.out]
    have hB2 := hB.trans (hb1.mono hB.size)
    have hfull := hb1
    clear hb1
    go_wp2
    all_goals go_returns
    all_goals (rw [HF.out, (rlF_no HF.out).1, (rlF_no HF.out).2]; exact acc2B (acc_none _ _ _ hB2) (acc_none _ _ _ hB2) (by simp) (by simp) (fun g g' h _ => by simp [Value.ownBlock] at h) rfl)
end Go.Proofs.Ytjjjlpnbniofjaa
