import Derived.Test.YtjjjlpnbniofjaaFrR
namespace Go.Proofs.Ytjjjlpnbniofjaa
open Go.RowKit
open Go.Maps
theorem asc_len : ∀ (l : List Int) (a : Int), l.Pairwise (fun x y => x < y) → (∀ x ∈ l, a ≤ x ∧ x ≤ 99) → (l.length : Int) ≤ max 0 (100 - a)
  | [], a, _, _ => by simp; omega
  | x :: l, a, hp, hb => by
    obtain ⟨h1, h2⟩ := List.pairwise_cons.1 hp
    have hx := hb x (by simp)
    have ih := asc_len l (x + 1) h2 (fun y hy => ⟨by have := h1 y hy; omega, (hb y (by simp [hy])).2⟩)
    simp only [List.length_cons]
    omega
theorem files_len {fs : List Int} (h : vFiles fs = true) : fs.length ≤ 100 := by
  have := asc_len fs 0 (vFiles_pw h) (fun x hx => vFiles_bd h hx)
  omega
theorem refs_len {l : List FileRefR} (h : vRefs l = true) : l.length ≤ 100 := by
  have := asc_len (l.map (·.a0)) 0 (by rw [List.pairwise_map]; exact vRefs_pw h) (fun x hx => by
    obtain ⟨y, hy, rfl⟩ := List.mem_map.1 hx
    have := vRefs_bd h hy
    omega)
  rw [List.length_map] at this
  omega
theorem inN_zero (f : Int) : inN [] f = 0 := by unfold inN; simp
theorem inN_next {fs : List Int} {k : Nat} {x : Int} (hx : fs[k]? = some x) (f : Int) : inN (fs.take (k + 1)) f = if f = x then 1 else inN (fs.take k) f := by
  unfold inN
  rw [List.take_add_one, hx]
  by_cases h : f = x
  · subst h; simp
  · simp [h]
theorem files_new {fs : List Int} (hv : vFiles fs = true) {k : Nat} {x : Int} (hx : fs[k]? = some x) : x ∉ fs.take k := by
  intro hm
  obtain ⟨i, hi⟩ := List.getElem?_of_mem hm
  rw [List.getElem?_take] at hi
  split at hi
  · have := pw_get (vFiles_pw hv) (by assumption) hi hx
    omega
  · cases hi
theorem inN_new {fs : List Int} (hv : vFiles fs = true) {k : Nat} {x : Int} (hx : fs[k]? = some x) : inN (fs.take k) x = 0 := by
  unfold inN; rw [if_neg (files_new hv hx)]
set_option maxRecDepth 100000 in
set_option maxHeartbeats 4000000 in
theorem implRg_any (A : Option Addr) (c : Nat) (l : List FileRefR) (A' : Option Addr) (c' : Nat) (fs : List Int) (w : World) (ha : Row FileRefR.enc 2 w A l) (hb : Row IntR.enc 1 w A' fs) :
    Calls Try.prog 28 #[.slice A l.length c, .slice A' fs.length c'] w (OwnBPost FileRefR.enc 2 67 w (rgF l fs) (rgK l fs)) := by
  have hal := ha.1
  have hbl := hb.1
  have hB : Below w.heap.size w w := Below.refl _ _
  rcases Bool.eq_false_or_eq_true (vRefs l) with h1 | h1
  · rcases Bool.eq_false_or_eq_true (vFiles fs) with h2 | h2
    · have hl1 := refs_len h1
      have hl2 := files_len h2
      have H1 := Lib.hid h1
      have H2 := Lib.hid h2
      clear h1 h2
      go_enter Try.func28, Try.ntmps28
      go_wp2_with fail
      refine (implRefs_any A c l _ (ha.keep hB)).mono ?_
      rintro e w1 ⟨rfl, hb1⟩
      rw [H1.out]
      have hB2 := hB.trans (hb1.mono hB.size)
      clear hb1
      go_wp2_with fail
      refine (implFiles_any A' c' fs _ (hb.keep hB2)).mono ?_
      rintro e w2 ⟨rfl, hb2⟩
      rw [H2.out]
      have hB3 := hB2.trans (hb2.mono hB2.size)
      clear hb2
      go_wp2_with fail
      refine (usesOf_any A c l _ (ha.keep hB3) H1.out).mono ?_
      rintro e w3 ⟨rfl, hm, hb3⟩
      have hB4 := hB3.trans (hb3.mono hB3.size)
      have hbase := hB3.size
      have Hm := Lib.hid (show MapI w3 w2.heap.size (l.length + 0) (fun f => refC l f + inN (fs.take 0) f) from hm.congr (fun f => by rw [List.take_zero, inN_zero]; omega))
      clear hb3 hm hB2
      generalize w2.heap.size = mb at *
      go_wp2
      go_loopw [21] (fun i wr => ∃ k : Nat, k ≤ fs.length ∧ i = .int .i64 k ∧ (∀ f ∈ fs.take k, refC l f ≤ 998) ∧ MapI wr mb (l.length + k) (fun f => refC l f + inN (fs.take k) f) ∧ Below w.heap.size w wr) (fun i _ => fs.length - (Go.RowKit.intOf i).toNat)
      case atStart => exact ⟨0, Nat.zero_le _, rfl, by simp, Hm.out, hB4⟩
      case round =>
        obtain ⟨k, hk, rfl, hall, hm, hbw⟩ := hrel
        clear Hm
        have Hall := Lib.hid hall
        clear hall
        by_cases hlt : k < fs.length
        · obtain ⟨b, off, rfl, hblt, q0⟩ := (hb.keep hbw).atInt hlt
          have hx : fs[k]? = some fs[k] := List.getElem?_eq_getElem hlt
          generalize fs[k] = x at *
          have hxb := vFiles_bd H2.out (List.mem_of_getElem? hx)
          have hx0 := inN_new H2.out hx
          have hr0 := refC_bd H1.out x
          have Hx := Lib.hid hx
          have Hb := Lib.hid hb
          clear hx hb
          have hrun := hm.run (k := x) (by omega) (by omega)
          simp only [hx0, Int.add_zero] at hrun
          have Hx0 := Lib.hid hx0
          generalize hgx : refC l x = gx at *
          have Hgx := Lib.hid hgx
          clear hgx hx0
          by_cases hov : gx = 999
          · have HF := Lib.hid (rgK_in (l := l) (fs := fs) (f := x) (List.mem_of_getElem? Hx.out) (by rw [Hgx.out]; omega))
            subst hov
            go_wp2
            all_goals go_returns
            all_goals (rw [HF.out, rgF_no HF.out]; exact accB (acc_none _ _ _ hbw) (by simp) rfl)
          · have hov2 : (gx == 999) = false := by simp [hov]
            obtain ⟨D, hown, hhas, hat⟩ := hm
            have hkey := keyI (a := x) (by omega) (by omega)
            have hwf := wf_i64 (a := gx + 1) (by omega) (by omega)
            have hwr : IntKind.i64.wrap (gx + 1) = gx + 1 := IntWalk.i64_in _ (by omega)
            have Hf := Lib.hid (show _ ∧ _ ∧ _ from ⟨hown.isMap, hhas, hat⟩)
            clear hhas hat
            go_wp2_with (first
              | (at_mapUpdate; refine wpList_mapUpdate_own _ rfl _ _ _ 71 rfl 3 3 lawI Try.underlying71 _ mb (l.length + k) _ rfl hown (by unfold maxLen; omega) _ _ _ rfl rfl hkey _ [] (plainElem_int Try.underlying3 hwf) ?_; intro w4 hown1 hgrow1)
              | go_in)
            have hm1 := (mapI_put Hf.out.1 Hf.out.2.1 Hf.out.2.2 (by omega) hown1).congr (g' := fun f => refC l f + inN (fs.take (k + 1)) f) (fun f => by
              show updI _ x (gx + 1) f = refC l f + inN (fs.take (k + 1)) f
              rw [inN_next Hx.out]
              unfold updI
              by_cases hf : f = x
              · subst hf; rw [if_pos rfl, if_pos rfl, Hgx.out]
              · rw [if_neg hf, if_neg hf])
            have hbw1 := hbw.trans (below_of_gb (B0 := w.heap.size) hgrow1 (by have := hbw.size; omega) (fun g hg => by injection hg with hg; omega))
            have Hn := Lib.hid (show ∀ f ∈ fs.take (k + 1), refC l f ≤ 998 from fun f hf => by
              rw [List.take_add_one, Hx.out] at hf
              rcases List.mem_append.1 hf with h | h
              · exact Hall.out f h
              · simp at h; subst h; rw [Hgx.out]; omega)
            clear hown1 hgrow1 hown hrun
            go_wp2
            go_roundw
            case rel => exact ⟨k + 1, by omega, by go_num, Hn.out, hm1, hbw1⟩
            case measure => simp [Go.RowKit.intOf]; omega
        · have hkl : fs.take k = fs := List.take_of_length_le (by omega)
          rw [hkl] at hm
          have HK := Lib.hid (show rgK l fs = true from rgK_all H1.out H2.out (fun f h0 h1 => by
            have hr := refC_bd H1.out f
            unfold rgN inN
            split
            · rename_i hf
              have := Hall.out f (by rw [hkl]; exact hf)
              omega
            · omega))
          have HF := Lib.hid (rgF_ok HK.out)
          clear hkl
          have Hm := Lib.hid hm
          clear hm
          go_wp2_with fail
          refine (refs_any mb (l.length + k) (rgN l fs) _ Hm.out (by omega) (fun f hf => rgN_out (by rw [H1.out, H2.out]; rfl) hf)).mono ?_
          rintro e w5 ⟨A5, c5, rfl, o5, b5⟩
          have hbw5 := hbw.trans (b5.mono hbw.size)
          have o6 := own_rebase (B := w.heap.size) o5 hbw.size
          go_wp2
          all_goals go_returns
          all_goals (rw [HK.out, HF.out]; exact ⟨_, _, rfl, o6, hbw5⟩)
    · have HF := Lib.hid (show rgK l fs = false by unfold rgK; rw [h1, h2]; rfl)
      have H1 := Lib.hid h1
      have H2 := Lib.hid h2
      clear h1 h2
      go_enter Try.func28, Try.ntmps28
      go_wp2_with fail
      refine (implRefs_any A c l _ (ha.keep hB)).mono ?_
      rintro e w1 ⟨rfl, hb1⟩
      rw [H1.out]
      have hB2 := hB.trans (hb1.mono hB.size)
      clear hb1
      go_wp2_with fail
      refine (implFiles_any A' c' fs _ (hb.keep hB2)).mono ?_
      rintro e w2 ⟨rfl, hb2⟩
      rw [H2.out]
      have hB3 := hB2.trans (hb2.mono hB2.size)
      clear hb2
      go_wp2
      all_goals go_returns
      all_goals (rw [HF.out, rgF_no HF.out]; exact accB (acc_none _ _ _ hB3) (by simp) rfl)
  · have HF := Lib.hid (show rgK l fs = false by unfold rgK; rw [h1]; rfl)
    have H1 := Lib.hid h1
    clear h1
    go_enter Try.func28, Try.ntmps28
    go_wp2_with fail
    refine (implRefs_any A c l _ (ha.keep hB)).mono ?_
    rintro e w1 ⟨rfl, hb1⟩
    rw [H1.out]
    have hB2 := hB.trans (hb1.mono hB.size)
    clear hb1
    go_wp2
    all_goals go_returns
    all_goals (rw [HF.out, rgF_no HF.out]; exact accB (acc_none _ _ _ hB2) (by simp) rfl)
end Go.Proofs.Ytjjjlpnbniofjaa
