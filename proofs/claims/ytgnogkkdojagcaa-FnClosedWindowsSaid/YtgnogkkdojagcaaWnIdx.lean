import Derived.Test.YtgnogkkdojagcaaWn
import Derived.Test.YtgnogkkdojagcaaTyInt
import Derived.Test.YtgnogkkdojagcaaInR
namespace Go.Proofs.Ytgnogkkdojagcaa
open Go.RowKit
def closedB (mark : Int) (e : WindowR) : Bool := decide (e.a1 - 1 ≤ mark)
def closedF (l : List WindowR) (mark : Int) : List Int := if vWns l = true ∧ -1 ≤ mark ∧ mark ≤ 1998 then idxs (closedB mark) l 0 else []
theorem wn_bounds {l : List WindowR} {k : Nat} {x : WindowR} (h : vWns l = true) (hx : l[k]? = some x) : -999 ≤ x.a0 ∧ x.a0 ≤ 999 ∧ x.a0 < x.a1 ∧ x.a1 ≤ 1998 := by
  unfold vWns at h
  rw [Bool.and_eq_true, List.all_eq_true] at h
  have := h.2 x (List.mem_of_getElem? hx)
  unfold vWnB at this
  exact of_decide_eq_true this
set_option maxRecDepth 100000 in
set_option maxHeartbeats 2000000 in
theorem specClosed_any (A : Option Addr) (c : Nat) (l : List WindowR) (mark : Int) (w : World) (ha : Row WindowR.enc 2 w A l) :
    Calls Try.prog 10 #[.slice A l.length c, .int .i64 mark] w (OwnPost IntR.enc 1 3 w (closedF l mark)) := by
  have hal := ha.1
  obtain ⟨i0, hi0, hz0, hz1, hz2⟩ := info_parts IntR.zero_info
  have hst := acc_made IntR.enc 1 3 (Below.refl w.heap.size w)
  have Hst := Lib.hid hst
  clear hst
  go_enter Try.func10, Try.ntmps10
  go_wp2_with fail
  refine (specWns_any A c l _ (ha.keep ((Below.refl _ _).alloc (Nat.le_refl _) _))).mono ?_
  rintro e w1 ⟨rfl, hb1⟩
  have hacc := acc_keep Hst.out hb1
  have Hacc := Lib.hid hacc
  clear hacc Hst
  by_cases hv : vWns l = true ∧ -1 ≤ mark ∧ mark ≤ 1998
  · have hF : closedF l mark = idxs (closedB mark) l 0 := by unfold closedF; rw [if_pos hv]
    have HF := Lib.hid hF
    obtain ⟨hv, m0, m1⟩ := hv
    have Hv := Lib.hid hv
    rw [hv]
    clear hF hv
    clear hb1
    go_wp2_with (go_at_call 31; refine (inRS_t _ _ _ _ (by omega) (by omega)).mono ?_; rintro e w' ⟨rfl, rfl⟩)
    go_loopw [5, 6] (fun v i wr => ∃ k : Nat, k ≤ l.length ∧ i = .int .i64 k ∧ Acc IntR.enc 1 3 w (idxs (closedB mark) (l.take k) 0) v wr) (fun _ i _ => l.length - (intOf i).toNat)
    case atStart => exact ⟨0, Nat.zero_le _, rfl, by simpa [idxs] using Hacc.out⟩
    case round =>
      obtain ⟨k, hk, rfl, hacc⟩ := hrel
      clear Hacc
      have Hacc := Lib.hid hacc
      have hbw := hacc.2
      clear hacc
      by_cases hlt : k < l.length
      · obtain ⟨b, off, rfl, _, q0, q1⟩ := (ha.keep hbw).atWindow hlt
        have hx := List.getElem?_eq_getElem hlt
        obtain ⟨x0, x1, x2, x3⟩ := wn_bounds Hv.out hx
        generalize l[k] = x at *
        have Hx := Lib.hid hx
        clear hx ha hbw
        by_cases hp : x.a1 - 1 ≤ mark
        · have hin : closedB mark x = true := by unfold closedB; exact decide_eq_true hp
          have hfn := idxs_next Hx.out hin
          have hfl := idxs_len (closedB mark) (l.take k) 0
          rw [List.length_take] at hfl
          have Hfn := Lib.hid hfn
          clear hin hfn
          have hown := Hacc.out.1
          go_wp2_with (first | (at_builtin; refine wpList_append_own _ rfl _ _ 26 rfl w.heap.size 3 i0 _ 1 8 Try.underlying26 hi0 hz0 hz1 hz2 rfl (by decide) _ _ _ rfl (hown.alloc _) ⟨wr.heap.size, 0, none⟩ 1 1 (IntR.enc (k : Int)) rfl rfl ?c1 ?c2 ?c3 ?c4 ?c5 ?_) | go_in)
          case c1 =>
            intro j u hu
            rcases j with _ | j <;> simp [IntR.enc] at hu <;> subst hu <;> simp [Addr.add, go_sem]
          case c2 => intro u hu; simp [IntR.enc] at hu; subst hu; rfl
          case c3 => unfold maxLen; omega
          case c4 => omega
          case c5 => have := Hacc.out.2.size; simp; omega
          intro v' w2 hown' hg' _
          have hnext := acc_push Hacc.out ((Below.refl _ _).alloc (Nat.le_refl _) _) hown' hg'
          rw [← Hfn.out] at hnext
          have Hn := Lib.hid hnext
          clear hnext hown' hg' hown Hacc Hfn hfl
          go_wp2
          go_roundw
          case rel => exact ⟨k + 1, by omega, by go_num, Hn.out⟩
          case measure => simp [intOf]; omega
        · have hin : closedB mark x = false := by unfold closedB; exact decide_eq_false hp
          have hfs := idxs_skip Hx.out hin
          have hnext := Hacc.out
          rw [← hfs] at hnext
          have Hn := Lib.hid hnext
          clear hnext hfs hin Hacc
          go_wp2
          all_goals
            go_roundw
            case rel => exact ⟨k + 1, by omega, by go_num, Hn.out⟩
            case measure => simp [intOf]; omega
      · have hkl : l.take k = l := List.take_of_length_le (by omega)
        have hfin := Hacc.out
        rw [hkl] at hfin
        have Hfin := Lib.hid hfin
        have hlen := idxs_len (closedB mark) l 0
        clear hfin hkl Hacc
        go_wp2
        all_goals go_returns
        all_goals (rw [HF.out]; exact acc_post Hfin.out (by omega))
  · have hF : closedF l mark = [] := by unfold closedF; rw [if_neg hv]
    have HF := Lib.hid hF
    have hB : Below w.heap.size w w1 := Hacc.out.2
    have Hv := Lib.hid hv
    rcases Bool.eq_false_or_eq_true (vWns l) with hw | hw
    all_goals
      rw [hw]
      have hm : vWns l = true → ¬(-1 ≤ mark ∧ mark ≤ 1998) := fun h h' => Hv.out ⟨h, h'⟩
      have Hm := Lib.hid hm
      have Hw := Lib.hid hw
      clear hm hF hv hw
      go_wp2
      all_goals first | (go_returns; rw [HF.out]; exact acc_post (acc_none _ _ _ hB) (by simp)) | (exfalso; have h1 := Hm.out Hw.out; apply h1; first | omega | (simp at *; omega))
set_option maxHeartbeats 1000000 in
theorem closW_any (x : WindowR) (mark : Int) (m : Nat) (w : World) (hm : w.cell? ⟨m, 0, none⟩ = some (.int .i64 mark)) (hlt : m < w.heap.size) (h0 : -1000 ≤ x.a1) (h1 : x.a1 ≤ 2000) :
    Calls Try.prog 28 #[.agg #[.int .i64 x.a0, .int .i64 x.a1], .pointer (some ⟨m, 0, none⟩)] w fun e w' => e = .returned (.bool (closedB mark x)) ∧ Below w.heap.size w w' := by
  go_enter Try.func28, Try.ntmps28
  go_wp2
  all_goals go_returns
  all_goals refine ⟨ret_bool ?_, by go_grown⟩
  all_goals
    unfold closedB
    first | rfl | (rw [Bool.eq_iff_iff]; simp; done) | (rw [Bool.eq_iff_iff]; simp; omega)
set_option maxRecDepth 100000 in
set_option maxHeartbeats 2000000 in
theorem idxW_any (A : Option Addr) (c : Nat) (l : List WindowR) (mark : Int) (m : Nat) (w : World) (ha : Row WindowR.enc 2 w A l) (hv : vWns l = true) (hm : w.cell? ⟨m, 0, none⟩ = some (.int .i64 mark)) (hlt : m < w.heap.size) :
    Calls Try.prog 27 #[.slice A l.length c, .func (.func 28) #[] #[.pointer (some ⟨m, 0, none⟩)]] w (OwnPost IntR.enc 1 3 w (idxs (closedB mark) l 0)) := by
  have hal := ha.1
  obtain ⟨i0, hi0, hz0, hz1, hz2⟩ := info_parts IntR.zero_info
  have hst := acc_none IntR.enc 1 3 (Below.refl w.heap.size w)
  have Hacc := Lib.hid hst
  have Hv := Lib.hid hv
  have Hm := Lib.hid hm
  clear hst hv hm
  go_enter Try.func27, Try.ntmps27
  go_wp2
  go_loopw [5, 10] (fun v i wr => ∃ k : Nat, k ≤ l.length ∧ i = .int .i64 k ∧ Acc IntR.enc 1 3 w (idxs (closedB mark) (l.take k) 0) v wr) (fun _ i _ => l.length - (intOf i).toNat)
  case atStart => exact ⟨0, Nat.zero_le _, rfl, by simpa [idxs] using Hacc.out⟩
  case round =>
    obtain ⟨k, hk, rfl, hacc⟩ := hrel
    clear Hacc
    have Hacc := Lib.hid hacc
    have hbw := hacc.2
    clear hacc
    by_cases hkl : k < l.length
    · obtain ⟨b, off, rfl, _, q0, q1⟩ := (ha.keep hbw).atWindow hkl
      have hx := List.getElem?_eq_getElem hkl
      obtain ⟨x0, x1, x2, x3⟩ := wn_bounds Hv.out hx
      generalize l[k] = x at *
      have Hx := Lib.hid hx
      clear hx ha
      have hmr : (wr.alloc (.cells #[.int .i64 x.a0, .int .i64 x.a1] 32)).cell? ⟨m, 0, none⟩ = some (.int .i64 mark) :=
        (((Below.refl _ _).alloc (Nat.le_refl _) _).cell (by have := hbw.size; show m < wr.heap.size; omega)).trans ((hbw.cell (p := ⟨m, 0, none⟩) hlt).trans Hm.out)
      have hlr : m < (wr.alloc (.cells #[.int .i64 x.a0, .int .i64 x.a1] 32)).heap.size := by have := hbw.size; simp; omega
      have Hmr := Lib.hid hmr
      clear hmr
      go_wp2_with fail
      refine (closW_any x mark m _ Hmr.out hlr (by omega) (by omega)).mono ?_
      rintro e w1 ⟨rfl, hb1⟩
      have hb2 : Below wr.heap.size wr w1 := ((Below.refl _ _).alloc (Nat.le_refl _) _).trans (hb1.mono (by simp))
      clear hb1 Hmr hlr hbw
      rcases Bool.eq_false_or_eq_true (closedB mark x) with hin | hin
      · rw [hin]
        have hfn := idxs_next Hx.out hin
        have hfl := idxs_len (closedB mark) (l.take k) 0
        rw [List.length_take] at hfl
        have Hfn := Lib.hid hfn
        clear hin hfn
        have hown := ownsRow_keep Hacc.out.1 hb2
        go_wp2_with (first | (at_builtin; refine wpList_append_own _ rfl _ _ 26 rfl w.heap.size 3 i0 _ 1 8 Try.underlying26 hi0 hz0 hz1 hz2 rfl (by decide) _ _ _ rfl (hown.alloc _) ⟨w1.heap.size, 0, none⟩ 1 1 (IntR.enc (k : Int)) rfl rfl ?c1 ?c2 ?c3 ?c4 ?c5 ?_) | go_in)
        case c1 =>
          intro j u hu
          rcases j with _ | j <;> simp [IntR.enc] at hu <;> subst hu <;> simp [Addr.add, go_sem]
        case c2 => intro u hu; simp [IntR.enc] at hu; subst hu; rfl
        case c3 => unfold maxLen; omega
        case c4 => omega
        case c5 => have := Hacc.out.2.size; have := hb2.size; simp; omega
        intro v' w2 hown' hg' _
        have hnext := acc_push Hacc.out (hb2.alloc hb2.size _) hown' hg'
        rw [← Hfn.out] at hnext
        have Hn := Lib.hid hnext
        clear hnext hown' hg' hown Hacc Hfn hfl
        go_wp2
        go_roundw
        case rel => exact ⟨k + 1, by omega, by go_num, Hn.out⟩
        case measure => simp [intOf]; omega
      · rw [hin]
        have hfs := idxs_skip Hx.out hin
        have hnext := acc_keep Hacc.out hb2
        rw [← hfs] at hnext
        have Hn := Lib.hid hnext
        clear hnext hfs hin Hacc
        go_wp2
        all_goals
          go_roundw
          case rel => exact ⟨k + 1, by omega, by go_num, Hn.out⟩
          case measure => simp [intOf]; omega
    · have hkl : l.take k = l := List.take_of_length_le (by omega)
      have hfin := Hacc.out
      rw [hkl] at hfin
      have Hfin := Lib.hid hfin
      have hlen := idxs_len (closedB mark) l 0
      clear hfin hkl Hacc
      go_wp2
      all_goals go_returns
      all_goals exact acc_post Hfin.out (by omega)
set_option maxRecDepth 100000 in
set_option maxHeartbeats 2000000 in
theorem implClosed_any (A : Option Addr) (c : Nat) (l : List WindowR) (mark : Int) (w : World) (ha : Row WindowR.enc 2 w A l) :
    Calls Try.prog 8 #[.slice A l.length c, .int .i64 mark] w (OwnPost IntR.enc 1 3 w (closedF l mark)) := by
  have hb0 : Below w.heap.size w (w.alloc (.cells #[.int .i64 mark] 3)) := (Below.refl _ _).alloc (Nat.le_refl _) _
  go_enter Try.func8, Try.ntmps8
  go_wp2_with fail
  refine (implWns_any A c l _ (ha.keep hb0)).mono ?_
  rintro e w1 ⟨rfl, hb1⟩
  have hbw := hb0.trans (hb1.mono (by simp))
  have hc0 : w1.cell? ⟨w.heap.size, 0, none⟩ = some (.int .i64 mark) := (hb1.cell (by simp)).trans (by simp [go_sem])
  have hz : w.heap.size < w1.heap.size := by have := hb1.size; simp at this; omega
  clear hb0 hb1
  by_cases hv : vWns l = true ∧ -1 ≤ mark ∧ mark ≤ 1998
  · have hF : closedF l mark = idxs (closedB mark) l 0 := by unfold closedF; rw [if_pos hv]
    have HF := Lib.hid hF
    obtain ⟨hv, m0, m1⟩ := hv
    have Hv := Lib.hid hv
    rw [hv]
    clear hF hv
    go_wp2_with (first | (go_at_call 43; refine (inRI_t _ _ _ _ (by omega) (by omega)).mono ?_; rintro e w' ⟨rfl, rfl⟩) | (go_at_call 27; refine (idxW_any A c l mark _ _ (ha.keep hbw) Hv.out hc0 hz).mono ?_; rintro e w2 ⟨A2, c2, rfl, ho2, hb2⟩) | go_in)
    go_returns
    rw [HF.out]
    exact ⟨A2, c2, rfl, ⟨ho2.1, ⟨ho2.2.1, ho2.2.2.imp_right fun ⟨g, cap, cur, h1, h2, h3⟩ => ⟨g, cap, cur, h1, Nat.le_trans hbw.size h2, h3⟩⟩⟩, hbw.trans (hb2.mono hbw.size)⟩
  · have hF : closedF l mark = [] := by unfold closedF; rw [if_neg hv]
    have HF := Lib.hid hF
    have Hv := Lib.hid hv
    rcases Bool.eq_false_or_eq_true (vWns l) with hw | hw
    all_goals
      rw [hw]
      have hm : vWns l = true → ¬(-1 ≤ mark ∧ mark ≤ 1998) := fun h h' => Hv.out ⟨h, h'⟩
      have Hm := Lib.hid hm
      have Hw := Lib.hid hw
      clear hm hF hv hw
      go_wp2_with (first | (go_at_call 43; refine (inRI_f _ _ _ _ (Hm.out Hw.out)).mono ?_; rintro e w' ⟨rfl, rfl⟩) | go_in)
      all_goals first | (go_returns; rw [HF.out]; exact acc_post (acc_none _ _ _ hbw) (by simp)) | (exfalso; have h1 := Hm.out Hw.out; apply h1; first | omega | (simp at *; omega))
end Go.Proofs.Ytgnogkkdojagcaa
