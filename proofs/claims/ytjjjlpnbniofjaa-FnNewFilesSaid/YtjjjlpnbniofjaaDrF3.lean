import Derived.Test.YtjjjlpnbniofjaaDrF2
namespace Go.Proofs.Ytjjjlpnbniofjaa
open Go.RowKit
def DrFiles (w : World) (e : Ending) (w' : World) : Prop :=
  ∃ (A : Option Addr) (c : Nat) (l : List FileRefR) (A' : Option Addr) (c' : Nat) (fs : List Int), e = .returned (.tuple #[.slice A l.length c, .slice A' fs.length c']) ∧ Row FileRefR.enc 2 w' A l ∧ Row IntR.enc 1 w' A' fs ∧ l.length ≤ 100 ∧ fs.length ≤ 101 ∧ (∀ x ∈ fs, -1 ≤ x ∧ x ≤ 100) ∧ Below w.heap.size w w'
set_option maxHeartbeats 2000000 in
theorem drawRegisterFiles_any (w : World) (a : Option Addr) (len cap : Nat) (z : List Int) (h : IsRow .u8 w a len cap z) (hl : len ≤ 1048576) : Calls Try.prog 37 #[.slice a len cap] w (DrFiles w) := by
  go_enter Try.func37, Try.ntmps37
  go_wp2_with fail
  refine (newReader_any _ a len cap z h hl).mono ?_
  rintro e w1 ⟨R, rfl, hR, hrN, hbN⟩
  go_wp2_with fail
  refine (anyRefs_any _ R 0 hrN (by omega)).mono ?_
  rintro e w2 ⟨A, c, l, p2, rfl, o2, n2, b2, hp2, hr2, hg2⟩
  have hRw1 := rd_lt hrN
  have B2 := hbN.trans (gr_of_below (B := w.heap.size) hg2 hbN.size hR)
  have zw1 := hbN.size
  clear hbN hrN hg2
  go_wp2_with fail
  refine (anyFiles_any _ R p2 hr2 (by omega)).mono ?_
  rintro e w3 ⟨A3, c3, fs, p3, rfl, r3, f3, n3, b3, hp3, hr3, hg3⟩
  have o3 := own_gr o2 hg3 hRw1
  have B3 := B2.trans (gr_of_below (B := w.heap.size) hg3 B2.size hR)
  have Hp := Lib.hid (show _ ∧ _ ∧ _ ∧ _ from ⟨o3.row FileRefR.enc_len, r3, b3, B3⟩)
  clear o2 o3 B2 B3 r3 f3 b3 hr2 hr3 hg3
  go_wp2
  all_goals go_returns
  all_goals exact ⟨A, c, l, A3, c3, fs, rfl, Hp.out.1, Hp.out.2.1, n2, n3, Hp.out.2.2.1, Hp.out.2.2.2⟩
set_option maxHeartbeats 2000000 in
theorem drawNewFiles_any (w : World) (a : Option Addr) (len cap : Nat) (z : List Int) (h : IsRow .u8 w a len cap z) (hl : len ≤ 1048576) : Calls Try.prog 32 #[.slice a len cap] w (DrFiles w) := by
  go_enter Try.func32, Try.ntmps32
  go_wp2_with fail
  refine (drawRegisterFiles_any _ a len cap z h hl).mono ?_
  rintro e w3 ⟨A, c, l, A3, c3, fs, rfl, r1, r2, n2, n3, b3, B3⟩
  have Hp := Lib.hid (show _ ∧ _ ∧ _ ∧ _ from ⟨r1, r2, b3, B3⟩)
  clear r1 r2 b3 B3
  go_wp2
  all_goals go_returns
  all_goals exact ⟨A, c, l, A3, c3, fs, rfl, Hp.out.1, Hp.out.2.1, n2, n3, Hp.out.2.2.1, Hp.out.2.2.2⟩
set_option maxRecDepth 100000 in
set_option maxHeartbeats 4000000 in
theorem drawReleaseFiles_any (w : World) (a : Option Addr) (len cap : Nat) (z : List Int) (h : IsRow .u8 w a len cap z) (hl : len ≤ 1048576) : Calls Try.prog 35 #[.slice a len cap] w (DrFiles w) := by
  obtain ⟨j0, hj0, hy0, hy1, hy2⟩ := info_parts IntR.zero_info
  go_enter Try.func35, Try.ntmps35
  go_wp2_with fail
  refine (newReader_any _ a len cap z h hl).mono ?_
  rintro e w1 ⟨R, rfl, hR, hrN, hbN⟩
  go_wp2_with fail
  refine (anyRefs_any _ R 0 hrN (by omega)).mono ?_
  rintro e w2 ⟨A, c, l, p2, rfl, o2, n2, b2, hp2, hr2, hg2⟩
  have hRw1 := rd_lt hrN
  have B2 := hbN.trans (gr_of_below (B := w.heap.size) hg2 hbN.size hR)
  have zw1 := hbN.size
  clear hbN hrN hg2
  have o3 := o2.keep (alloc_below w2 (.cells #[] 3))
  have hr3 := rd_alloc hr2 (.cells #[] 3)
  have g3 := gr_alloc (gr_refl w2 R) (.cells #[] 3)
  have oe : Own IntR.enc 1 3 (w2.alloc (.cells #[] 3)) w2.heap.size (.slice (some ⟨w2.heap.size, 0, none⟩) 0 0) [] := ⟨by simp, (acc_made IntR.enc 1 3 (Below.refl w2.heap.size w2)).1⟩
  have hRw2 := rd_lt hr2
  have Ho := Lib.hid (show _ ∧ _ ∧ _ ∧ _ from ⟨hr3, g3, oe, o3.row FileRefR.enc_len⟩)
  have Hf := Lib.hid (own_fr o2)
  have Hb := Lib.hid b2
  have hlo := fun g (hg : Value.ownBlock (.slice A l.length c) = some g) => (o2.lt g hg).2
  have Hlo := Lib.hid hlo
  have HB2 := Lib.hid B2
  have zB2 := B2.size
  clear o2 o3 hr2 hr3 g3 oe b2 hlo B2
  go_wp2
  go_loopw [6, 7] (fun v i wr => ∃ (k p' : Nat) (A5 : Option Addr) (c5 : Nat) (fs : List Int), k ≤ l.length ∧ i = .int .i64 k ∧ v = .slice A5 fs.length c5 ∧ p' ≤ p2 + k ∧ fs.length ≤ k ∧ (∀ x ∈ fs, -1 ≤ x ∧ x ≤ 100) ∧ Rd wr R p' ∧ Gr w2 wr R ∧ Own IntR.enc 1 3 wr w2.heap.size (.slice A5 fs.length c5) fs ∧ Row FileRefR.enc 2 wr A l) (fun _ i _ => l.length - (intOf i).toNat)
  case atStart => exact ⟨0, p2, _, _, [], Nat.zero_le _, rfl, rfl, by omega, by simp, by simp, Ho.out.1, Ho.out.2.1, Ho.out.2.2.1, Ho.out.2.2.2⟩
  case round =>
    obtain ⟨k, p', A5, c5, fs, hk, rfl, rfl, hp', hfl, hfb, hr, hg, ho, hrow⟩ := hrel
    clear Ho
    have Hfb := Lib.hid hfb
    clear hfb
    have zw := hg.size
    by_cases hlt : k < l.length
    · go_wp2_with fail
      refine (pick_any 2 _ R p' hr (by omega) (by omega)).mono ?_
      rintro e w4 ⟨v, rfl, v0, v1, -, hr4, hg4, -⟩
      have o4 := own_gr ho hg4 hRw2
      have row4 := row_gr hrow Hf.out hRw1 hg4
      have g4 := gr_trans hg hg4
      have zw4 := g4.size
      clear hr hg4 hg ho hrow
      rcases (show v = 0 ∨ v ≠ 0 by omega) with hv | hv
      · subst hv
        obtain ⟨b, off, hA, hblt, q0, q1⟩ := row4.atFileRef hlt
        have hxb := Hb.out l[k] (List.getElem_mem hlt)
        generalize l[k] = x at *
        have hown := o4.2
        have Hrow4 := Lib.hid row4
        clear row4
        subst hA
        go_wp2_with (first | (at_builtin; refine wpList_append_own _ rfl _ _ 29 rfl w2.heap.size 3 j0 _ 1 8 Try.underlying29 hj0 hy0 hy1 hy2 rfl (by decide) _ _ _ rfl (hown.alloc _) ⟨w4.heap.size, 0, none⟩ 1 1 (IntR.enc x.a0) rfl rfl ?c1 ?c2 ?c3 ?c4 ?c5 ?_) | fail)
        case c1 =>
          intro j u hu
          rcases j with _ | j <;> simp [IntR.enc] at hu <;> subst hu <;> simp [Addr.add, go_sem]
        case c2 => intro u hu; simp [IntR.enc] at hu; subst hu; rfl
        case c3 => unfold maxLen; omega
        case c4 => omega
        case c5 => simp; omega
        intro v' w5 hown' hg' _
        have bA : Below w4.heap.size w4 (w4.alloc (.cells #[.int .i64 x.a0] 3)) := (Below.refl _ _).alloc (Nat.le_refl _) _
        have o5 : Own IntR.enc 1 3 w5 w2.heap.size v' (fs ++ [x.a0]) := ⟨by simp; omega, by simpa using hown'⟩
        obtain ⟨A6, c6, rfl⟩ := o5.form
        have hlow := fun g hg => (hown.lt g hg).1
        have hr5 := rd_row hr4 bA hg' hlow hRw2
        have g5 := gr_row g4 bA hg' hlow
        have bb := below_of_gb (B0 := w2.heap.size) hg' (by simp; omega) hlow
        have row5 : Row FileRefR.enc 2 w5 (some ⟨b, off, none⟩) l := by
          have hr' := Hrow4.out.keep bA
          refine ⟨hr'.1, fun h0 => ?_⟩
          obtain ⟨b', off', e', hlt', hc'⟩ := hr'.2 h0
          injection e' with e'
          injection e' with e1 e2
          subst e1 e2
          have hbw2 : b < w2.heap.size := Hlo.out b rfl
          exact ⟨b, off, rfl, by have := bb.size; omega, fun i y hy j u hu => (bb.cell (p := ⟨b, off + i * 2 + j, none⟩) hbw2).trans (hc' i y hy j u hu)⟩
        have Hn := Lib.hid (show _ ∧ _ ∧ _ ∧ _ from ⟨hr5, g5, o5, row5⟩)
        clear hr5 g5 o5 hown hown' hg' hlow hr4 g4 o4 row5 bb
        go_wp2
        go_roundw
        case rel => exact ⟨k + 1, p' + 1, A6, c6, _, by omega, by go_num, by simp, by omega, by simp; omega, (fun y hy => by rcases List.mem_append.1 hy with h | h; exact Hfb.out y h; simp at h; subst h; exact hxb), Hn.out.1, Hn.out.2.1, Hn.out.2.2.1, Hn.out.2.2.2⟩
        case measure => simp [intOf]; omega
      · have e0 : (v == 0) = false := by simp [hv]
        have Hn := Lib.hid (show _ ∧ _ ∧ _ ∧ _ from ⟨hr4, g4, o4, row4⟩)
        clear hr4 g4 o4 row4
        go_wp2
        go_roundw
        case rel => exact ⟨k + 1, p' + 1, A5, c5, fs, by omega, by go_num, rfl, by omega, by omega, Hfb.out, Hn.out.1, Hn.out.2.1, Hn.out.2.2.1, Hn.out.2.2.2⟩
        case measure => simp [intOf]; omega
    · go_wp2_with fail
      refine (spoil_any _ R p' hr (by omega) A5 c5 fs (ho.row IntR.enc_len) (by omega) Hfb.out).mono ?_
      rintro e w4 ⟨A4, c4, l4, p4, rfl, r4, f4, n4, b4, hp4, hr4, hg4⟩
      have row4 := row_gr hrow Hf.out hRw1 hg4
      have B4 := (HB2.out.trans (gr_of_below (B := w.heap.size) hg zB2 hR)).trans (gr_of_below (B := w.heap.size) hg4 (Nat.le_trans zB2 zw) hR)
      have Hp := Lib.hid (show _ ∧ _ ∧ _ ∧ _ from ⟨row4, r4, b4, B4⟩)
      clear row4 r4 f4 b4 B4 hr4 hg4 hr hg ho hrow
      go_wp2
      all_goals go_returns
      all_goals exact ⟨A, c, l, A4, c4, l4, rfl, Hp.out.1, Hp.out.2.1, n2, n4, Hp.out.2.2.1, Hp.out.2.2.2⟩
end Go.Proofs.Ytjjjlpnbniofjaa
