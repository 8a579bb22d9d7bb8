import Derived.Test.YtjjjlpnbniofjabVaI
namespace Go.Proofs.Ytjjjlpnbniofjab
open Go.RowKit
/-- An element that is kept: it is the last one, or the next one is of another key or later. -/
def keepAt (l : List VersionR) (mark : Int) (i : Nat) : Option VersionR := match l[i]? with
  | some x => match l[i + 1]? with
    | some y => if y.a0 = x.a0 ∧ y.a1 ≤ mark + 1 then none else some x
    | none => some x
  | none => none
def purK (l : List VersionR) (mark : Int) (k : Nat) : List VersionR := (List.range k).filterMap (keepAt l mark)
theorem pur_keep {l : List VersionR} {mark : Int} {k : Nat} {x : VersionR} (h : keepAt l mark k = some x) : purK l mark (k + 1) = purK l mark k ++ [x] := by
  unfold purK; rw [List.range_succ, List.filterMap_append]; simp [h]
theorem pur_drop {l : List VersionR} {mark : Int} {k : Nat} (h : keepAt l mark k = none) : purK l mark (k + 1) = purK l mark k := by
  unfold purK; rw [List.range_succ, List.filterMap_append]; simp [h]
theorem pur_len (l : List VersionR) (mark : Int) (k : Nat) : (purK l mark k).length ≤ k := by
  unfold purK; refine Nat.le_trans (List.length_filterMap_le _ _) ?_; simp
theorem keep_last {l : List VersionR} {mark : Int} {k : Nat} {x : VersionR} (hx : l[k]? = some x) (h : k + 1 = l.length) : keepAt l mark k = some x := by
  unfold keepAt; rw [hx, List.getElem?_eq_none (by omega)]
theorem keep_yes {l : List VersionR} {mark : Int} {k : Nat} {x y : VersionR} (hx : l[k]? = some x) (hy : l[k + 1]? = some y) (h : ¬ (y.a0 = x.a0 ∧ y.a1 ≤ mark + 1)) : keepAt l mark k = some x := by
  unfold keepAt; simp only [hx, hy]; rw [if_neg h]
theorem keep_no {l : List VersionR} {mark : Int} {k : Nat} {x y : VersionR} (hx : l[k]? = some x) (hy : l[k + 1]? = some y) (h : y.a0 = x.a0 ∧ y.a1 ≤ mark + 1) : keepAt l mark k = none := by
  unfold keepAt; simp only [hx, hy]; rw [if_pos h]
def purP (l : List VersionR) (mark : Int) : Prop := vVers l = true ∧ -1 ≤ mark ∧ mark ≤ 3000
instance (l : List VersionR) (mark : Int) : Decidable (purP l mark) := by unfold purP; infer_instance
def purF (l : List VersionR) (mark : Int) : List VersionR := if purP l mark then purK l mark l.length else []
theorem reach_t (m : Int) (w : World) (h0 : -1 ≤ m) (h1 : m ≤ 3000) : Calls Try.prog 81 #[.int .i64 m] w fun e w' => e = .returned (.bool true) ∧ w = w' := by
  go_enter Try.func81, Try.ntmps81
  go_wp2_with (go_at_call 83; refine (inRI_t _ _ _ _ (by omega) (by omega)).mono ?_; rintro e w' ⟨rfl, rfl⟩)
  all_goals go_returns
  all_goals exact ⟨rfl, rfl⟩
theorem reach_f (m : Int) (w : World) (h : ¬ (-1 ≤ m ∧ m ≤ 3000)) : Calls Try.prog 81 #[.int .i64 m] w fun e w' => e = .returned (.bool false) ∧ w = w' := by
  have H := Lib.hid h
  clear h
  go_enter Try.func81, Try.ntmps81
  go_wp2_with (go_at_call 83; refine (inRI_f _ _ _ _ H.out).mono ?_; rintro e w' ⟨rfl, rfl⟩)
  all_goals go_returns
  all_goals exact ⟨rfl, rfl⟩
set_option maxRecDepth 100000 in
set_option maxHeartbeats 4000000 in
theorem specPur_any (A : Option Addr) (c : Nat) (l : List VersionR) (mark : Int) (w : World) (ha : Row VersionR.enc 3 w A l) :
    Calls Try.prog 41 #[.slice A l.length c, .int .i64 mark] w (OwnPost VersionR.enc 3 39 w (purF l mark)) := by
  have hal := ha.1
  obtain ⟨i0, hi0, hz0, hz1, hz2⟩ := info_parts VersionR.zero_info
  have hB0 : Below w.heap.size w (w.alloc (.cells #[] 39)) := (Below.refl _ _).alloc (Nat.le_refl _) _
  have Hst := Lib.hid (acc_made VersionR.enc 3 39 (Below.refl w.heap.size w))
  go_enter Try.func41, Try.ntmps41
  go_wp2_with fail
  refine (specVers_any A c l _ (ha.keep hB0)).mono ?_
  rintro e w1 ⟨rfl, hb1⟩
  have Hacc0 := Lib.hid (acc_keep Hst.out hb1)
  have hbw1 := hB0.trans (hb1.mono hB0.size)
  clear hb1 hB0 Hst
  by_cases hv : purP l mark
  · have HF := Lib.hid (show purF l mark = purK l mark l.length by unfold purF; rw [if_pos hv])
    obtain ⟨hv, m0, m1⟩ := hv
    rw [hv]
    have h40 := ver_len hv
    clear hv
    go_wp2_with (go_at_call 82; refine (inRS_t _ _ _ _ (by omega) (by omega)).mono ?_; rintro e w' ⟨rfl, rfl⟩)
    go_loopw [5, 6] (fun v i wr => ∃ k : Nat, k ≤ l.length ∧ i = .int .i64 k ∧ Acc VersionR.enc 3 39 w (purK l mark k) v wr) (fun _ i _ => l.length - (intOf i).toNat)
    case atStart => exact ⟨0, Nat.zero_le _, rfl, by simpa [purK] using Hacc0.out⟩
    case round =>
      clear Hacc0 hbw1
      obtain ⟨k, hk, rfl, hacc⟩ := hrel
      have Hacc := Lib.hid hacc
      have hbw := hacc.2
      clear hacc
      by_cases hlt : k < l.length
      · obtain ⟨b, off, rfl, hblt, q0, q1, q2⟩ := (ha.keep hbw).atVersion hlt
        have hx := List.getElem?_eq_getElem hlt
        generalize hxl : l[k] = x at *
        have Hx := Lib.hid hx
        have Hxl := Lib.hid hxl
        have hl1 := pur_len l mark k
        have hz := hbw.size
        have i0' : (0 : Int) ≤ (k : Int) := by omega
        have i1' : (k : Int) < (l.length : Int) := by omega
        clear hx hxl
        have Q0 := Bw.cellOf hblt q0
        have Q1 := Bw.cellOf hblt q1
        have Q2 := Bw.cellOf hblt q2
        by_cases hlast1 : k + 1 < l.length
        · obtain ⟨b2, off2, e2, _, r0, r1, r2⟩ := (ha.keep hbw).atVersion hlast1
          injection e2 with e2
          injection e2 with e3 e4
          subst e3 e4
          have hy := List.getElem?_eq_getElem hlast1
          generalize l[k + 1] = y at *
          have Hy := Lib.hid hy
          have i2' : (0 : Int) ≤ (k : Int) + 1 := by omega
          have i3' : (k : Int) + 1 < (l.length : Int) := by omega
          have i4' : ((k : Int) + 1).toNat = k + 1 := by omega
          have hlast : ((k : Int) + 1 == (l.length : Int)) = false := by simp; omega
          have hyb := hy
          clear hy
          by_cases hky : y.a0 = x.a0
          · have hcmp : (y.a0 != x.a0) = false := by simp [hky]
            by_cases hfy : y.a1 ≤ mark + 1
            · have Hk := Lib.hid (pur_drop (keep_no Hx.out Hy.out ⟨hky, hfy⟩))
              have hfr : decide (mark + 1 < y.a1) = false := by simp; omega
              clear hky
              go_wp2_with fail
              have R0 := Bw.cellOf hblt r0
              have R1 := Bw.cellOf hblt r1
              have R2 := Bw.cellOf hblt r2
              have hwk : IntKind.i64.wrap ((k : Int) + 1) = (k : Int) + 1 := IntWalk.i64_in _ (by omega)
              have hwm : IntKind.i64.wrap (mark + 1) = mark + 1 := IntWalk.i64_in _ (by omega)
              refine wp_region_quiet_below (by kernel_rfl) (by kernel_rfl) ?_
              repeat (any_goals (go_big_quiet_step (fail)))
              clear hwk hwm
              refine wpQuiet_nil ?_
              intro w4 hb4
              have hnext := acc_keep Hacc.out hb4
              rw [← Hk.out] at hnext
              have Hn := Lib.hid hnext
              clear hnext Hacc Hk
              go_wp2
              go_roundw
              case rel => exact ⟨k + 1, by omega, by go_num, Hn.out⟩
              case measure => simp [intOf]; omega
            · have Hk := Lib.hid (pur_keep (keep_yes (mark := mark) Hx.out Hy.out (fun h => hfy h.2)))
              have hfr : decide (mark + 1 < y.a1) = true := by simp; omega
              clear hky hfy
              go_wp2_with fail
              have R0 := Bw.cellOf hblt r0
              have R1 := Bw.cellOf hblt r1
              have R2 := Bw.cellOf hblt r2
              have hwk : IntKind.i64.wrap ((k : Int) + 1) = (k : Int) + 1 := IntWalk.i64_in _ (by omega)
              have hwm : IntKind.i64.wrap (mark + 1) = mark + 1 := IntWalk.i64_in _ (by omega)
              refine wp_region_quiet_below (by kernel_rfl) (by kernel_rfl) ?_
              repeat (any_goals (go_big_quiet_step (fail)))
              clear hwk hwm
              refine wpQuiet_nil ?_
              intro w4 hb4
              have hacc2 := acc_keep Hacc.out hb4
              have hown := hacc2.1
              have hzz := hacc2.2.size
              obtain ⟨b', off', e', _, q0', q1', q2'⟩ := (ha.keep hacc2.2).atVersion hlt
              injection e' with e'
              injection e' with e1 e2
              subst e1 e2
              rw [Hxl.out] at q0' q1' q2'
              have Hacc2 := Lib.hid hacc2
              clear hacc2 hb4 Q0 Q1 Q2
              go_wp2_with (first | (at_builtin; refine wpList_append_own _ rfl _ _ 37 rfl w.heap.size 39 i0 _ 3 24 Try.underlying37 hi0 hz0 hz1 hz2 rfl (by decide) _ _ _ rfl (hown.alloc _) ⟨w4.heap.size, 0, none⟩ 1 1 (VersionR.enc x) rfl rfl ?c1 ?c2 ?c3 ?c4 ?c5 ?_) | go_in)
              case c1 =>
                intro j u hu
                rcases j with _ | _ | _ | j <;> simp [VersionR.enc] at hu <;> subst hu <;> simp [Addr.add, go_sem]
              case c2 => intro u hu; simp [VersionR.enc] at hu; rcases hu with rfl | rfl | rfl <;> rfl
              case c3 => unfold maxLen; omega
              case c4 => omega
              case c5 => first | omega | (simp; done) | (simp; omega)
              intro v' w6 hown' hg' _
              have hnext := acc_push Hacc2.out ((Below.refl _ _).alloc (Nat.le_refl _) _) hown' hg'
              rw [← Hk.out] at hnext
              have Hn := Lib.hid hnext
              clear hnext hown' hg' hown Hacc Hacc2 Hk
              go_wp2
              go_roundw
              case rel => exact ⟨k + 1, by omega, by go_num, Hn.out⟩
              case measure => simp [intOf]; omega
          · have Hk := Lib.hid (pur_keep (keep_yes (mark := mark) Hx.out Hy.out (fun h => hky h.1)))
            have hcmp : (y.a0 != x.a0) = true := by simp [hky]
            clear hky
            go_wp2_with fail
            have R0 := Bw.cellOf hblt r0
            have R1 := Bw.cellOf hblt r1
            have R2 := Bw.cellOf hblt r2
            have hwk : IntKind.i64.wrap ((k : Int) + 1) = (k : Int) + 1 := IntWalk.i64_in _ (by omega)
            have hwm : IntKind.i64.wrap (mark + 1) = mark + 1 := IntWalk.i64_in _ (by omega)
            refine wp_region_quiet_below (by kernel_rfl) (by kernel_rfl) ?_
            repeat (any_goals (go_big_quiet_step (fail)))
            clear hwk hwm
            refine wpQuiet_nil ?_
            intro w4 hb4
            have hacc2 := acc_keep Hacc.out hb4
            have hown := hacc2.1
            have hzz := hacc2.2.size
            obtain ⟨b', off', e', _, q0', q1', q2'⟩ := (ha.keep hacc2.2).atVersion hlt
            injection e' with e'
            injection e' with e1 e2
            subst e1 e2
            rw [Hxl.out] at q0' q1' q2'
            have Hacc2 := Lib.hid hacc2
            clear hacc2 hb4 Q0 Q1 Q2
            go_wp2_with (first | (at_builtin; refine wpList_append_own _ rfl _ _ 37 rfl w.heap.size 39 i0 _ 3 24 Try.underlying37 hi0 hz0 hz1 hz2 rfl (by decide) _ _ _ rfl (hown.alloc _) ⟨w4.heap.size, 0, none⟩ 1 1 (VersionR.enc x) rfl rfl ?c1 ?c2 ?c3 ?c4 ?c5 ?_) | go_in)
            case c1 =>
              intro j u hu
              rcases j with _ | _ | _ | j <;> simp [VersionR.enc] at hu <;> subst hu <;> simp [Addr.add, go_sem]
            case c2 => intro u hu; simp [VersionR.enc] at hu; rcases hu with rfl | rfl | rfl <;> rfl
            case c3 => unfold maxLen; omega
            case c4 => omega
            case c5 => first | omega | (simp; done) | (simp; omega)
            intro v' w6 hown' hg' _
            have hnext := acc_push Hacc2.out ((Below.refl _ _).alloc (Nat.le_refl _) _) hown' hg'
            rw [← Hk.out] at hnext
            have Hn := Lib.hid hnext
            clear hnext hown' hg' hown Hacc Hacc2 Hk
            go_wp2
            go_roundw
            case rel => exact ⟨k + 1, by omega, by go_num, Hn.out⟩
            case measure => simp [intOf]; omega
        · have Hk := Lib.hid (pur_keep (keep_last (mark := mark) Hx.out (by omega)))
          have hlast : ((k : Int) + 1 == (l.length : Int)) = true := by simp; omega
          go_wp2_with fail
          have hwk : IntKind.i64.wrap ((k : Int) + 1) = (k : Int) + 1 := IntWalk.i64_in _ (by omega)
          have hwm : IntKind.i64.wrap (mark + 1) = mark + 1 := IntWalk.i64_in _ (by omega)
          refine wp_region_quiet_below (by kernel_rfl) (by kernel_rfl) ?_
          repeat (any_goals (go_big_quiet_step (fail)))
          clear hwk hwm
          refine wpQuiet_nil ?_
          intro w4 hb4
          have hacc2 := acc_keep Hacc.out hb4
          have hown := hacc2.1
          have hzz := hacc2.2.size
          obtain ⟨b', off', e', _, q0', q1', q2'⟩ := (ha.keep hacc2.2).atVersion hlt
          injection e' with e'
          injection e' with e1 e2
          subst e1 e2
          rw [Hxl.out] at q0' q1' q2'
          have Hacc2 := Lib.hid hacc2
          clear hacc2 hb4 Q0 Q1 Q2
          go_wp2_with (first | (at_builtin; refine wpList_append_own _ rfl _ _ 37 rfl w.heap.size 39 i0 _ 3 24 Try.underlying37 hi0 hz0 hz1 hz2 rfl (by decide) _ _ _ rfl (hown.alloc _) ⟨w4.heap.size, 0, none⟩ 1 1 (VersionR.enc x) rfl rfl ?c1 ?c2 ?c3 ?c4 ?c5 ?_) | go_in)
          case c1 =>
            intro j u hu
            rcases j with _ | _ | _ | j <;> simp [VersionR.enc] at hu <;> subst hu <;> simp [Addr.add, go_sem]
          case c2 => intro u hu; simp [VersionR.enc] at hu; rcases hu with rfl | rfl | rfl <;> rfl
          case c3 => unfold maxLen; omega
          case c4 => omega
          case c5 => first | omega | (simp; done) | (simp; omega)
          intro v' w6 hown' hg' _
          have hnext := acc_push Hacc2.out ((Below.refl _ _).alloc (Nat.le_refl _) _) hown' hg'
          rw [← Hk.out] at hnext
          have Hn := Lib.hid hnext
          clear hnext hown' hg' hown Hacc Hacc2 Hk
          go_wp2
          go_roundw
          case rel => exact ⟨k + 1, by omega, by go_num, Hn.out⟩
          case measure => simp [intOf]; omega
      · obtain rfl : k = l.length := by omega
        have hl1 := pur_len l mark l.length
        go_wp2
        all_goals go_returns
        all_goals (rw [HF.out]; exact acc_post Hacc.out (by omega))
  · have HF := Lib.hid (show purF l mark = [] by unfold purF; rw [if_neg hv])
    rcases Bool.eq_false_or_eq_true (vVers l) with h1 | h1
    · have hm : ¬ (-1 ≤ mark ∧ mark ≤ 3000) := fun h => hv ⟨h1, h.1, h.2⟩
      have Hm := Lib.hid hm
      rw [h1]
      clear hv h1 hm
      go_wp2_with (go_at_call 82; refine (inRS_f _ _ _ _ Hm.out).mono ?_; rintro e w' ⟨rfl, rfl⟩)
      all_goals go_returns
      all_goals (rw [HF.out]; exact acc_post (acc_none _ _ _ hbw1) (by simp))
    · rw [h1]
      clear hv h1
      go_wp2
      all_goals go_returns
      all_goals (rw [HF.out]; exact acc_post (acc_none _ _ _ hbw1) (by simp))
set_option maxRecDepth 100000 in
set_option maxHeartbeats 4000000 in
theorem implPur_any (A : Option Addr) (c : Nat) (l : List VersionR) (mark : Int) (w : World) (ha : Row VersionR.enc 3 w A l) :
    Calls Try.prog 40 #[.slice A l.length c, .int .i64 mark] w (OwnPost VersionR.enc 3 39 w (purF l mark)) := by
  have hal := ha.1
  obtain ⟨i0, hi0, hz0, hz1, hz2⟩ := info_parts VersionR.zero_info
  have hB0 : Below w.heap.size w w := Below.refl _ _
  have Hst := Lib.hid (acc_none VersionR.enc 3 39 (Below.refl w.heap.size w))
  go_enter Try.func40, Try.ntmps40
  go_wp2_with fail
  refine (implVers_any A c l _ (ha.keep hB0)).mono ?_
  rintro e w1 ⟨rfl, hb1⟩
  have Hacc0 := Lib.hid (acc_keep Hst.out hb1)
  have hbw1 := hB0.trans (hb1.mono hB0.size)
  clear hb1 hB0 Hst
  by_cases hv : purP l mark
  · have HF := Lib.hid (show purF l mark = purK l mark l.length by unfold purF; rw [if_pos hv])
    obtain ⟨hv, m0, m1⟩ := hv
    rw [hv]
    have h40 := ver_len hv
    clear hv
    go_wp2_with (go_at_call 81; refine (reach_t _ _ (by omega) (by omega)).mono ?_; rintro e w' ⟨rfl, rfl⟩)
    go_loopw [5, 18] (fun v i wr => ∃ k : Nat, k ≤ l.length ∧ i = .int .i64 k ∧ Acc VersionR.enc 3 39 w (purK l mark k) v wr) (fun _ i _ => l.length - (intOf i).toNat)
    case atStart => exact ⟨0, Nat.zero_le _, rfl, by simpa [purK] using Hacc0.out⟩
    case round =>
      clear Hacc0 hbw1
      obtain ⟨k, hk, rfl, hacc⟩ := hrel
      have Hacc := Lib.hid hacc
      have hbw := hacc.2
      clear hacc
      by_cases hlt : k < l.length
      · obtain ⟨b, off, rfl, hblt, q0, q1, q2⟩ := (ha.keep hbw).atVersion hlt
        have hx := List.getElem?_eq_getElem hlt
        generalize hxl : l[k] = x at *
        have Hx := Lib.hid hx
        have Hxl := Lib.hid hxl
        have hl1 := pur_len l mark k
        have hz := hbw.size
        have i0' : (0 : Int) ≤ (k : Int) := by omega
        have i1' : (k : Int) < (l.length : Int) := by omega
        clear hx hxl
        have hbv : Below wr.heap.size wr (wr.alloc (.cells #[.int .i64 x.a0, .int .i64 x.a1, .int .i64 x.a2] 39)) := (Below.refl _ _).alloc (Nat.le_refl _) _
        have v0 : (wr.alloc (.cells #[.int .i64 x.a0, .int .i64 x.a1, .int .i64 x.a2] 39)).cell? ⟨wr.heap.size, 0, none⟩ = some (.int .i64 x.a0) := by simp [go_sem]
        have v1 : (wr.alloc (.cells #[.int .i64 x.a0, .int .i64 x.a1, .int .i64 x.a2] 39)).cell? ⟨wr.heap.size, 1, none⟩ = some (.int .i64 x.a1) := by simp [go_sem]
        have v2 : (wr.alloc (.cells #[.int .i64 x.a0, .int .i64 x.a1, .int .i64 x.a2] 39)).cell? ⟨wr.heap.size, 2, none⟩ = some (.int .i64 x.a2) := by simp [go_sem]
        have hzv : wr.heap.size < (wr.alloc (.cells #[.int .i64 x.a0, .int .i64 x.a1, .int .i64 x.a2] 39)).heap.size := by simp
        by_cases hlast1 : k + 1 < l.length
        · obtain ⟨b2, off2, e2, _, r0, r1, r2⟩ := (ha.keep hbw).atVersion hlast1
          injection e2 with e2
          injection e2 with e3 e4
          subst e3 e4
          have hy := List.getElem?_eq_getElem hlast1
          generalize l[k + 1] = y at *
          have Hy := Lib.hid hy
          have i2' : (0 : Int) ≤ (k : Int) + 1 := by omega
          have i3' : (k : Int) + 1 < (l.length : Int) := by omega
          have i4' : ((k : Int) + 1).toNat = k + 1 := by omega
          have hlast : decide ((k : Int) + 1 < (l.length : Int)) = true := by simp; omega
          have hyb := hy
          clear hy
          by_cases hky : y.a0 = x.a0
          · have hcmp : (y.a0 == x.a0) = true := by simp [hky]
            by_cases hfy : y.a1 ≤ mark + 1
            · have Hk := Lib.hid (pur_drop (keep_no Hx.out Hy.out ⟨hky, hfy⟩))
              have hfr : decide (y.a1 ≤ mark + 1) = true := by simp; omega
              clear hky
              go_wp2_with fail
              generalize wr.alloc (.cells #[.int .i64 x.a0, .int .i64 x.a1, .int .i64 x.a2] 39) = wv at *
              have V0 := Bw.cellOf hzv v0
              have V1 := Bw.cellOf hzv v1
              have V2 := Bw.cellOf hzv v2
              have R0 := Bw.cellOf (w := wv) (by have := hbv.size; omega) ((hbv.cell hblt).trans r0)
              have R1 := Bw.cellOf (w := wv) (by have := hbv.size; omega) ((hbv.cell hblt).trans r1)
              have R2 := Bw.cellOf (w := wv) (by have := hbv.size; omega) ((hbv.cell hblt).trans r2)
              have hwk : IntKind.i64.wrap ((k : Int) + 1) = (k : Int) + 1 := IntWalk.i64_in _ (by omega)
              have hwm : IntKind.i64.wrap (mark + 1) = mark + 1 := IntWalk.i64_in _ (by omega)
              refine wp_region_quiet_below (by kernel_rfl) (by kernel_rfl) ?_
              repeat (any_goals (go_big_quiet_step (fail)))
              clear hwk hwm
              refine wpQuiet_nil ?_
              intro w4 hb5
              have hb4 := hbv.trans (hb5.mono hbv.size)
              have x0 := (hb5.cell hzv).trans v0
              have x1 := (hb5.cell hzv).trans v1
              have x2 := (hb5.cell hzv).trans v2
              have hnext := acc_keep Hacc.out hb4
              rw [← Hk.out] at hnext
              have Hn := Lib.hid hnext
              clear hnext Hacc Hk
              go_wp2
              go_roundw
              case rel => exact ⟨k + 1, by omega, by go_num, Hn.out⟩
              case measure => simp [intOf]; omega
            · have Hk := Lib.hid (pur_keep (keep_yes (mark := mark) Hx.out Hy.out (fun h => hfy h.2)))
              have hfr : decide (y.a1 ≤ mark + 1) = false := by simp; omega
              clear hky hfy
              go_wp2_with fail
              generalize wr.alloc (.cells #[.int .i64 x.a0, .int .i64 x.a1, .int .i64 x.a2] 39) = wv at *
              have V0 := Bw.cellOf hzv v0
              have V1 := Bw.cellOf hzv v1
              have V2 := Bw.cellOf hzv v2
              have R0 := Bw.cellOf (w := wv) (by have := hbv.size; omega) ((hbv.cell hblt).trans r0)
              have R1 := Bw.cellOf (w := wv) (by have := hbv.size; omega) ((hbv.cell hblt).trans r1)
              have R2 := Bw.cellOf (w := wv) (by have := hbv.size; omega) ((hbv.cell hblt).trans r2)
              have hwk : IntKind.i64.wrap ((k : Int) + 1) = (k : Int) + 1 := IntWalk.i64_in _ (by omega)
              have hwm : IntKind.i64.wrap (mark + 1) = mark + 1 := IntWalk.i64_in _ (by omega)
              refine wp_region_quiet_below (by kernel_rfl) (by kernel_rfl) ?_
              repeat (any_goals (go_big_quiet_step (fail)))
              clear hwk hwm
              refine wpQuiet_nil ?_
              intro w4 hb5
              have hb4 := hbv.trans (hb5.mono hbv.size)
              have x0 := (hb5.cell hzv).trans v0
              have x1 := (hb5.cell hzv).trans v1
              have x2 := (hb5.cell hzv).trans v2
              have hacc2 := acc_keep Hacc.out hb4
              have hown := hacc2.1
              have hzz := hacc2.2.size
              have Hacc2 := Lib.hid hacc2
              clear hacc2 hb4 hb5 hbv v0 v1 v2 V0 V1 V2 hzv
              go_wp2_with (first | (at_builtin; refine wpList_append_own _ rfl _ _ 37 rfl w.heap.size 39 i0 _ 3 24 Try.underlying37 hi0 hz0 hz1 hz2 rfl (by decide) _ _ _ rfl (hown.alloc _) ⟨w4.heap.size, 0, none⟩ 1 1 (VersionR.enc x) rfl rfl ?c1 ?c2 ?c3 ?c4 ?c5 ?_) | go_in)
              case c1 =>
                intro j u hu
                rcases j with _ | _ | _ | j <;> simp [VersionR.enc] at hu <;> subst hu <;> simp [Addr.add, go_sem]
              case c2 => intro u hu; simp [VersionR.enc] at hu; rcases hu with rfl | rfl | rfl <;> rfl
              case c3 => unfold maxLen; omega
              case c4 => omega
              case c5 => first | omega | (simp; done) | (simp; omega)
              intro v' w6 hown' hg' _
              have hnext := acc_push Hacc2.out ((Below.refl _ _).alloc (Nat.le_refl _) _) hown' hg'
              rw [← Hk.out] at hnext
              have Hn := Lib.hid hnext
              clear hnext hown' hg' hown Hacc Hacc2 Hk
              go_wp2
              go_roundw
              case rel => exact ⟨k + 1, by omega, by go_num, Hn.out⟩
              case measure => simp [intOf]; omega
          · have Hk := Lib.hid (pur_keep (keep_yes (mark := mark) Hx.out Hy.out (fun h => hky h.1)))
            have hcmp : (y.a0 == x.a0) = false := by simp [hky]
            clear hky
            go_wp2_with fail
            generalize wr.alloc (.cells #[.int .i64 x.a0, .int .i64 x.a1, .int .i64 x.a2] 39) = wv at *
            have V0 := Bw.cellOf hzv v0
            have V1 := Bw.cellOf hzv v1
            have V2 := Bw.cellOf hzv v2
            have R0 := Bw.cellOf (w := wv) (by have := hbv.size; omega) ((hbv.cell hblt).trans r0)
            have R1 := Bw.cellOf (w := wv) (by have := hbv.size; omega) ((hbv.cell hblt).trans r1)
            have R2 := Bw.cellOf (w := wv) (by have := hbv.size; omega) ((hbv.cell hblt).trans r2)
            have hwk : IntKind.i64.wrap ((k : Int) + 1) = (k : Int) + 1 := IntWalk.i64_in _ (by omega)
            have hwm : IntKind.i64.wrap (mark + 1) = mark + 1 := IntWalk.i64_in _ (by omega)
            refine wp_region_quiet_below (by kernel_rfl) (by kernel_rfl) ?_
            repeat (any_goals (go_big_quiet_step (fail)))
            clear hwk hwm
            refine wpQuiet_nil ?_
            intro w4 hb5
            have hb4 := hbv.trans (hb5.mono hbv.size)
            have x0 := (hb5.cell hzv).trans v0
            have x1 := (hb5.cell hzv).trans v1
            have x2 := (hb5.cell hzv).trans v2
            have hacc2 := acc_keep Hacc.out hb4
            have hown := hacc2.1
            have hzz := hacc2.2.size
            have Hacc2 := Lib.hid hacc2
            clear hacc2 hb4 hb5 hbv v0 v1 v2 V0 V1 V2 hzv
            go_wp2_with (first | (at_builtin; refine wpList_append_own _ rfl _ _ 37 rfl w.heap.size 39 i0 _ 3 24 Try.underlying37 hi0 hz0 hz1 hz2 rfl (by decide) _ _ _ rfl (hown.alloc _) ⟨w4.heap.size, 0, none⟩ 1 1 (VersionR.enc x) rfl rfl ?c1 ?c2 ?c3 ?c4 ?c5 ?_) | go_in)
            case c1 =>
              intro j u hu
              rcases j with _ | _ | _ | j <;> simp [VersionR.enc] at hu <;> subst hu <;> simp [Addr.add, go_sem]
            case c2 => intro u hu; simp [VersionR.enc] at hu; rcases hu with rfl | rfl | rfl <;> rfl
            case c3 => unfold maxLen; omega
            case c4 => omega
            case c5 => first | omega | (simp; done) | (simp; omega)
            intro v' w6 hown' hg' _
            have hnext := acc_push Hacc2.out ((Below.refl _ _).alloc (Nat.le_refl _) _) hown' hg'
            rw [← Hk.out] at hnext
            have Hn := Lib.hid hnext
            clear hnext hown' hg' hown Hacc Hacc2 Hk
            go_wp2
            go_roundw
            case rel => exact ⟨k + 1, by omega, by go_num, Hn.out⟩
            case measure => simp [intOf]; omega
        · have Hk := Lib.hid (pur_keep (keep_last (mark := mark) Hx.out (by omega)))
          have hlast : decide ((k : Int) + 1 < (l.length : Int)) = false := by simp; omega
          go_wp2_with fail
          generalize wr.alloc (.cells #[.int .i64 x.a0, .int .i64 x.a1, .int .i64 x.a2] 39) = wv at *
          have V0 := Bw.cellOf hzv v0
          have V1 := Bw.cellOf hzv v1
          have V2 := Bw.cellOf hzv v2
          have hwk : IntKind.i64.wrap ((k : Int) + 1) = (k : Int) + 1 := IntWalk.i64_in _ (by omega)
          have hwm : IntKind.i64.wrap (mark + 1) = mark + 1 := IntWalk.i64_in _ (by omega)
          refine wp_region_quiet_below (by kernel_rfl) (by kernel_rfl) ?_
          repeat (any_goals (go_big_quiet_step (fail)))
          clear hwk hwm
          refine wpQuiet_nil ?_
          intro w4 hb5
          have hb4 := hbv.trans (hb5.mono hbv.size)
          have x0 := (hb5.cell hzv).trans v0
          have x1 := (hb5.cell hzv).trans v1
          have x2 := (hb5.cell hzv).trans v2
          have hacc2 := acc_keep Hacc.out hb4
          have hown := hacc2.1
          have hzz := hacc2.2.size
          have Hacc2 := Lib.hid hacc2
          clear hacc2 hb4 hb5 hbv v0 v1 v2 V0 V1 V2 hzv
          go_wp2_with (first | (at_builtin; refine wpList_append_own _ rfl _ _ 37 rfl w.heap.size 39 i0 _ 3 24 Try.underlying37 hi0 hz0 hz1 hz2 rfl (by decide) _ _ _ rfl (hown.alloc _) ⟨w4.heap.size, 0, none⟩ 1 1 (VersionR.enc x) rfl rfl ?c1 ?c2 ?c3 ?c4 ?c5 ?_) | go_in)
          case c1 =>
            intro j u hu
            rcases j with _ | _ | _ | j <;> simp [VersionR.enc] at hu <;> subst hu <;> simp [Addr.add, go_sem]
          case c2 => intro u hu; simp [VersionR.enc] at hu; rcases hu with rfl | rfl | rfl <;> rfl
          case c3 => unfold maxLen; omega
          case c4 => omega
          case c5 => first | omega | (simp; done) | (simp; omega)
          intro v' w6 hown' hg' _
          have hnext := acc_push Hacc2.out ((Below.refl _ _).alloc (Nat.le_refl _) _) hown' hg'
          rw [← Hk.out] at hnext
          have Hn := Lib.hid hnext
          clear hnext hown' hg' hown Hacc Hacc2 Hk
          go_wp2
          go_roundw
          case rel => exact ⟨k + 1, by omega, by go_num, Hn.out⟩
          case measure => simp [intOf]; omega
      · obtain rfl : k = l.length := by omega
        have hl1 := pur_len l mark l.length
        go_wp2
        all_goals go_returns
        all_goals (rw [HF.out]; exact acc_post Hacc.out (by omega))
  · have HF := Lib.hid (show purF l mark = [] by unfold purF; rw [if_neg hv])
    rcases Bool.eq_false_or_eq_true (vVers l) with h1 | h1
    · have hm : ¬ (-1 ≤ mark ∧ mark ≤ 3000) := fun h => hv ⟨h1, h.1, h.2⟩
      have Hm := Lib.hid hm
      rw [h1]
      clear hv h1 hm
      go_wp2_with (go_at_call 81; refine (reach_f _ _ Hm.out).mono ?_; rintro e w' ⟨rfl, rfl⟩)
      all_goals go_returns
      all_goals (rw [HF.out]; exact acc_post (acc_none _ _ _ hbw1) (by simp))
    · rw [h1]
      clear hv h1
      go_wp2
      all_goals go_returns
      all_goals (rw [HF.out]; exact acc_post (acc_none _ _ _ hbw1) (by simp))
end Go.Proofs.Ytjjjlpnbniofjab
