import Derived.Test.YtehedhkadjidpabIn
import Derived.Test.YtehedhkadjidpabTyInt
namespace Go.Proofs.Ytehedhkadjidpab
open Go.RowKit
def idleB (now idle : Int) (e : InputR) : Bool := decide (idle < now - e.a1)
instance (a b : Int) : Decidable (clk a b) := by unfold clk; infer_instance
def idleF (l : List InputR) (now idle : Int) : List Int := if vIns l = true ∧ clk now idle then idxs (idleB now idle) l 0 else []
set_option maxRecDepth 100000 in
set_option maxHeartbeats 2000000 in
theorem specIdleIn_any (A : Option Addr) (c : Nat) (l : List InputR) (now idle : Int) (w : World) (ha : Row InputR.enc 2 w A l) (hv : vIns l = true) (n0 : 0 ≤ now) (n1 : now ≤ 9999) :
    Calls Try.prog 53 #[.slice A l.length c, .int .i64 now, .int .i64 idle] w (OwnPost IntR.enc 1 3 w (idxs (idleB now idle) l 0)) := by
  have hal := ha.1
  obtain ⟨i0, hi0, hz0, hz1, hz2⟩ := info_parts IntR.zero_info
  have hst := acc_made IntR.enc 1 3 (Below.refl w.heap.size w)
  have Hacc := Lib.hid hst
  have Hv := Lib.hid hv
  clear hst hv
  go_enter Try.func53, Try.ntmps53
  go_wp2
  go_loopw [7, 8] (fun v i wr => ∃ k : Nat, k ≤ l.length ∧ i = .int .i64 k ∧ Acc IntR.enc 1 3 w (idxs (idleB now idle) (l.take k) 0) v wr) (fun _ i _ => l.length - (intOf i).toNat)
  case atStart => exact ⟨0, Nat.zero_le _, rfl, by simpa [idxs] using Hacc.out⟩
  case round =>
    obtain ⟨k, hk, rfl, hacc⟩ := hrel
    clear Hacc
    have Hacc := Lib.hid hacc
    have hbw := hacc.2
    clear hacc
    by_cases hlt : k < l.length
    · obtain ⟨b, off, rfl, _, q0, q1⟩ := (ha.keep hbw).atInput hlt
      have hx := List.getElem?_eq_getElem hlt
      obtain ⟨x0, x1, x2, x3⟩ := in_bounds Hv.out hx
      generalize l[k] = x at *
      have Hx := Lib.hid hx
      clear hx ha hbw
      by_cases hp : idle < now - x.a1
      · have hin : idleB now idle x = true := by unfold idleB; exact decide_eq_true hp
        have hfn := idxs_next Hx.out hin
        have hfl := idxs_len (idleB now idle) (l.take k) 0
        rw [List.length_take] at hfl
        have Hfn := Lib.hid hfn
        clear hin hfn
        have hown := Hacc.out.1
        go_wp2_with (first | (at_builtin; refine wpList_append_own _ rfl _ _ 26 rfl w.heap.size 3 i0 _ 1 8 Try.underlying26 hi0 hz0 hz1 hz2 rfl (by decide) _ _ _ rfl (hown.alloc _) ⟨wr.heap.size, 0, none⟩ 1 1 (IntR.enc (k : Int)) rfl rfl ?c1 ?c2 ?c3 ?c4 ?c5 ?_) | go_in)
        case c1 =>
          intro j u hu
          rcases j with _ | j <;> simp [IntR.enc] at hu <;> subst hu <;> simp [Addr.add, go_sem]
        case c2 => intro u hu; simp [IntR.enc] at hu; subst hu; rfl
        case c3 => unfold maxLen; omega
        case c4 => omega
        case c5 => have := Hacc.out.2.size; simp; omega
        intro v' w2 hown' hg' _
        have hnext := acc_push Hacc.out ((Below.refl _ _).alloc (Nat.le_refl _) _) hown' hg'
        rw [← Hfn.out] at hnext
        have Hn := Lib.hid hnext
        clear hnext hown' hg' hown Hacc Hfn hfl
        go_wp2
        go_roundw
        case rel => exact ⟨k + 1, by omega, by go_num, Hn.out⟩
        case measure => simp [intOf]; omega
      · have hin : idleB now idle x = false := by unfold idleB; exact decide_eq_false hp
        have hfs := idxs_skip Hx.out hin
        have hnext := Hacc.out
        rw [← hfs] at hnext
        have Hn := Lib.hid hnext
        clear hnext hfs hin Hacc
        go_wp2
        all_goals
          go_roundw
          case rel => exact ⟨k + 1, by omega, by go_num, Hn.out⟩
          case measure => simp [intOf]; omega
    · have hkl : l.take k = l := List.take_of_length_le (by omega)
      have hfin := Hacc.out
      rw [hkl] at hfin
      have Hfin := Lib.hid hfin
      have hlen := idxs_len (idleB now idle) l 0
      clear hfin hkl Hacc
      go_wp2
      all_goals go_returns
      all_goals (exact acc_post Hfin.out (by omega))
set_option maxHeartbeats 1000000 in
theorem specIdle_any (A : Option Addr) (c : Nat) (l : List InputR) (now idle : Int) (w : World) (ha : Row InputR.enc 2 w A l) :
    Calls Try.prog 18 #[.slice A l.length c, .int .i64 now, .int .i64 idle] w (OwnPost IntR.enc 1 3 w (idleF l now idle)) := by
  go_enter Try.func18, Try.ntmps18
  go_wp2_with fail
  refine (specIns_any A c l _ ha).mono ?_
  rintro e w1 ⟨rfl, hb1⟩
  by_cases hv : vIns l = true ∧ clk now idle
  · have hF : idleF l now idle = idxs (idleB now idle) l 0 := by unfold idleF; rw [if_pos hv]
    have HF := Lib.hid hF
    obtain ⟨hv, hc⟩ := hv
    unfold clk at hc
    obtain ⟨m0, m1, m2, m3⟩ := hc
    have Hv := Lib.hid hv
    rw [hv]
    clear hF hv
    go_wp2_with (first | (go_at_call 52; refine (specClock_t _ _ _ (by omega) (by omega) (by omega) (by omega)).mono ?_; rintro e w' ⟨rfl, rfl⟩) | (go_at_call 53; refine (specIdleIn_any A c l now idle _ (ha.keep hb1) Hv.out m0 m1).mono ?_; rintro e w2 ⟨A2, c2, rfl, ho2, hb2⟩) | go_in)
    go_returns
    rw [HF.out]
    exact ⟨A2, c2, rfl, ⟨ho2.1, ⟨ho2.2.1, ho2.2.2.imp_right fun ⟨g, cap, cur, h1, h2, h3⟩ => ⟨g, cap, cur, h1, Nat.le_trans hb1.size h2, h3⟩⟩⟩, hb1.trans (hb2.mono hb1.size)⟩
  · have hF : idleF l now idle = [] := by unfold idleF; rw [if_neg hv]
    have HF := Lib.hid hF
    have Hv := Lib.hid hv
    rcases Bool.eq_false_or_eq_true (vIns l) with hw | hw
    all_goals
      rw [hw]
      have hm : vIns l = true → ¬ clk now idle := fun h h' => Hv.out ⟨h, h'⟩
      have Hm := Lib.hid hm
      have Hw := Lib.hid hw
      clear hm hF hv hw
      go_wp2_with (first | (go_at_call 52; refine (specClock_f _ _ _ (Hm.out Hw.out)).mono ?_; rintro e w' ⟨rfl, rfl⟩) | go_in)
      all_goals (go_returns; rw [HF.out]; exact acc_post (acc_none _ _ _ hb1) (by simp))
set_option maxHeartbeats 1000000 in
theorem idleC_any (x : InputR) (now idle : Int) (m m2 : Nat) (w : World) (hm : w.cell? ⟨m, 0, none⟩ = some (.int .i64 now)) (hlt : m < w.heap.size) (hm2 : w.cell? ⟨m2, 0, none⟩ = some (.int .i64 idle)) (hlt2 : m2 < w.heap.size) (h0 : 0 ≤ x.a1) (h1 : x.a1 ≤ 9999) (n0 : 0 ≤ now) (n1 : now ≤ 9999) :
    Calls Try.prog 49 #[.agg #[.int .i64 x.a0, .int .i64 x.a1], .pointer (some ⟨m, 0, none⟩), .pointer (some ⟨m2, 0, none⟩)] w fun e w' => e = .returned (.bool (idleB now idle x)) ∧ Below w.heap.size w w' := by
  go_enter Try.func49, Try.ntmps49
  go_wp2
  all_goals go_returns
  all_goals refine ⟨ret_bool ?_, by go_grown⟩
  all_goals
    unfold idleB
    first | rfl | (rw [Bool.eq_iff_iff]; simp; done) | (rw [Bool.eq_iff_iff]; simp; omega)
set_option maxRecDepth 100000 in
set_option maxHeartbeats 2000000 in
theorem idxIn_any (A : Option Addr) (c : Nat) (l : List InputR) (now idle : Int) (m m2 : Nat) (w : World) (ha : Row InputR.enc 2 w A l) (hv : vIns l = true) (hm : w.cell? ⟨m, 0, none⟩ = some (.int .i64 now)) (hlt : m < w.heap.size) (hm2 : w.cell? ⟨m2, 0, none⟩ = some (.int .i64 idle)) (hlt2 : m2 < w.heap.size) (n0 : 0 ≤ now) (n1 : now ≤ 9999) :
    Calls Try.prog 48 #[.slice A l.length c, .func (.func 49) #[] #[.pointer (some ⟨m, 0, none⟩), .pointer (some ⟨m2, 0, none⟩)]] w (OwnPost IntR.enc 1 3 w (idxs (idleB now idle) l 0)) := by
  have hal := ha.1
  obtain ⟨i0, hi0, hz0, hz1, hz2⟩ := info_parts IntR.zero_info
  have hst := acc_none IntR.enc 1 3 (Below.refl w.heap.size w)
  have Hacc := Lib.hid hst
  have Hv := Lib.hid hv
  have Hm := Lib.hid hm
  have Hm2 := Lib.hid hm2
  clear hst hv hm hm2
  go_enter Try.func48, Try.ntmps48
  go_wp2
  go_loopw [5, 10] (fun v i wr => ∃ k : Nat, k ≤ l.length ∧ i = .int .i64 k ∧ Acc IntR.enc 1 3 w (idxs (idleB now idle) (l.take k) 0) v wr) (fun _ i _ => l.length - (intOf i).toNat)
  case atStart => exact ⟨0, Nat.zero_le _, rfl, by simpa [idxs] using Hacc.out⟩
  case round =>
    obtain ⟨k, hk, rfl, hacc⟩ := hrel
    clear Hacc
    have Hacc := Lib.hid hacc
    have hbw := hacc.2
    clear hacc
    by_cases hkl : k < l.length
    · obtain ⟨b, off, rfl, _, q0, q1⟩ := (ha.keep hbw).atInput hkl
      have hx := List.getElem?_eq_getElem hkl
      obtain ⟨x0, x1, x2, x3⟩ := in_bounds Hv.out hx
      generalize l[k] = x at *
      have Hx := Lib.hid hx
      clear hx ha
      have hmr : (wr.alloc (.cells #[.int .i64 x.a0, .int .i64 x.a1] 33)).cell? ⟨m, 0, none⟩ = some (.int .i64 now) :=
        (((Below.refl _ _).alloc (Nat.le_refl _) _).cell (by have := hbw.size; show m < wr.heap.size; omega)).trans ((hbw.cell (p := ⟨m, 0, none⟩) hlt).trans Hm.out)
      have hmr2 : (wr.alloc (.cells #[.int .i64 x.a0, .int .i64 x.a1] 33)).cell? ⟨m2, 0, none⟩ = some (.int .i64 idle) :=
        (((Below.refl _ _).alloc (Nat.le_refl _) _).cell (by have := hbw.size; show m2 < wr.heap.size; omega)).trans ((hbw.cell (p := ⟨m2, 0, none⟩) hlt2).trans Hm2.out)
      have hlr2 : m2 < (wr.alloc (.cells #[.int .i64 x.a0, .int .i64 x.a1] 33)).heap.size := by have := hbw.size; simp; omega
      have Hmr2 := Lib.hid hmr2
      clear hmr2
      have hlr : m < (wr.alloc (.cells #[.int .i64 x.a0, .int .i64 x.a1] 33)).heap.size := by have := hbw.size; simp; omega
      have Hmr := Lib.hid hmr
      clear hmr
      go_wp2_with fail
      refine (idleC_any x now idle m m2 _ Hmr.out hlr Hmr2.out hlr2 (by omega) (by omega) n0 n1).mono ?_
      rintro e w1 ⟨rfl, hb1⟩
      have hb2 : Below wr.heap.size wr w1 := ((Below.refl _ _).alloc (Nat.le_refl _) _).trans (hb1.mono (by simp))
      clear hb1 Hmr hlr hbw Hmr2 hlr2
      rcases Bool.eq_false_or_eq_true (idleB now idle x) with hin | hin
      · rw [hin]
        have hfn := idxs_next Hx.out hin
        have hfl := idxs_len (idleB now idle) (l.take k) 0
        rw [List.length_take] at hfl
        have Hfn := Lib.hid hfn
        clear hin hfn
        have hown := ownsRow_keep Hacc.out.1 hb2
        go_wp2_with (first | (at_builtin; refine wpList_append_own _ rfl _ _ 26 rfl w.heap.size 3 i0 _ 1 8 Try.underlying26 hi0 hz0 hz1 hz2 rfl (by decide) _ _ _ rfl (hown.alloc _) ⟨w1.heap.size, 0, none⟩ 1 1 (IntR.enc (k : Int)) rfl rfl ?c1 ?c2 ?c3 ?c4 ?c5 ?_) | go_in)
        case c1 =>
          intro j u hu
          rcases j with _ | j <;> simp [IntR.enc] at hu <;> subst hu <;> simp [Addr.add, go_sem]
        case c2 => intro u hu; simp [IntR.enc] at hu; subst hu; rfl
        case c3 => unfold maxLen; omega
        case c4 => omega
        case c5 => have := Hacc.out.2.size; have := hb2.size; simp; omega
        intro v' w2 hown' hg' _
        have hnext := acc_push Hacc.out (hb2.alloc hb2.size _) hown' hg'
        rw [← Hfn.out] at hnext
        have Hn := Lib.hid hnext
        clear hnext hown' hg' hown Hacc Hfn hfl
        go_wp2
        go_roundw
        case rel => exact ⟨k + 1, by omega, by go_num, Hn.out⟩
        case measure => simp [intOf]; omega
      · rw [hin]
        have hfs := idxs_skip Hx.out hin
        have hnext := acc_keep Hacc.out hb2
        rw [← hfs] at hnext
        have Hn := Lib.hid hnext
        clear hnext hfs hin Hacc
        go_wp2
        all_goals
          go_roundw
          case rel => exact ⟨k + 1, by omega, by go_num, Hn.out⟩
          case measure => simp [intOf]; omega
    · have hkl : l.take k = l := List.take_of_length_le (by omega)
      have hfin := Hacc.out
      rw [hkl] at hfin
      have Hfin := Lib.hid hfin
      have hlen := idxs_len (idleB now idle) l 0
      clear hfin hkl Hacc
      go_wp2
      all_goals go_returns
      all_goals exact acc_post Hfin.out (by omega)
set_option maxRecDepth 100000 in
set_option maxHeartbeats 2000000 in
theorem implIdle_any (A : Option Addr) (c : Nat) (l : List InputR) (now idle : Int) (w : World) (ha : Row InputR.enc 2 w A l) :
    Calls Try.prog 16 #[.slice A l.length c, .int .i64 now, .int .i64 idle] w (OwnPost IntR.enc 1 3 w (idleF l now idle)) := by
  have hb0 : Below w.heap.size w ((w.alloc (.cells #[.int .i64 now] 3)).alloc (.cells #[.int .i64 idle] 3)) := ((Below.refl _ _).alloc (Nat.le_refl _) _).alloc (by simp) _
  by_cases hv : vIns l = true ∧ clk now idle
  · have hF : idleF l now idle = idxs (idleB now idle) l 0 := by unfold idleF; rw [if_pos hv]
    have HF := Lib.hid hF
    obtain ⟨hv, hc⟩ := hv
    unfold clk at hc
    obtain ⟨m0, m1, m2, m3⟩ := hc
    have Hv := Lib.hid hv
    clear hF hv
    go_enter Try.func16, Try.ntmps16
    go_wp2_with fail
    refine (implWait_t A c l now idle _ (ha.keep hb0) Hv.out m0 m1 m2 m3).mono ?_
    rintro e w1 ⟨rfl, hb1⟩
    have hbw := hb0.trans (hb1.mono (by simp; omega))
    have hc0 : w1.cell? ⟨w.heap.size, 0, none⟩ = some (.int .i64 now) := (hb1.cell (by simp; omega)).trans (by simp [go_sem])
    have hc1 : w1.cell? ⟨w.heap.size + 1, 0, none⟩ = some (.int .i64 idle) := (hb1.cell (by simp)).trans (by simp [go_sem])
    have hz1 : w.heap.size + 1 < w1.heap.size := by have := hb1.size; simp at this; omega
    have hz : w.heap.size < w1.heap.size := by omega
    clear hb0 hb1
    go_wp2_with (first | (go_at_call 48; refine (idxIn_any A c l now idle _ _ _ (ha.keep hbw) Hv.out hc0 hz hc1 hz1 m0 m1).mono ?_; rintro e w2 ⟨A2, c2, rfl, ho2, hb2⟩) | go_in)
    go_returns
    rw [HF.out]
    exact ⟨A2, c2, rfl, ⟨ho2.1, ⟨ho2.2.1, ho2.2.2.imp_right fun ⟨g, cap, cur, h1, h2, h3⟩ => ⟨g, cap, cur, h1, Nat.le_trans hbw.size h2, h3⟩⟩⟩, hbw.trans (hb2.mono hbw.size)⟩
  · have hF : idleF l now idle = [] := by unfold idleF; rw [if_neg hv]
    have HF := Lib.hid hF
    have Hv := Lib.hid hv
    clear hF hv
    go_enter Try.func16, Try.ntmps16
    go_wp2_with fail
    refine (implWait_f A c l now idle _ (ha.keep hb0) Hv.out).mono ?_
    rintro e w1 ⟨rfl, hb1⟩
    have hbw := hb0.trans (hb1.mono (by simp; omega))
    clear hb0 hb1
    go_wp2
    all_goals (go_returns; rw [HF.out]; exact acc_post (acc_none _ _ _ hbw) (by simp))
end Go.Proofs.Ytehedhkadjidpab
