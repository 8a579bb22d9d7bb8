import Derived.Test.YtjjjlpnbniofjabVaI
import Derived.Deep.RegionHeld3
namespace Go.Proofs.Ytjjjlpnbniofjab
open Go.RowKit
def putP (l : List VersionR) (v : VersionR) : Prop := vVers l = true ∧ vVerB v = true
instance (l : List VersionR) (v : VersionR) : Decidable (putP l v) := by unfold putP; infer_instance
def befV (v x : VersionR) : Bool := decide (cmpVer x v < 0)
def putJ (l : List VersionR) (v : VersionR) : Nat := if hitVn v l[cutN (befV v) l]? = true then cutN (befV v) l + 1 else cutN (befV v) l
def putG (l : List VersionR) (v : VersionR) : List VersionR := l.take (cutN (befV v) l) ++ [v] ++ l.drop (putJ l v)
def putF (l : List VersionR) (v : VersionR) : List VersionR := if putP l v ∧ (hitVn v l[cutN (befV v) l]? = true ∨ l.length ≠ 40) then putG l v else []
def putK (l : List VersionR) (v : VersionR) : Bool := decide (putP l v ∧ (hitVn v l[cutN (befV v) l]? = true ∨ l.length ≠ 40))
theorem befV_mono {l : List VersionR} (hv : vVers l = true) (v : VersionR) : ∀ (i j : Nat) (x y : VersionR), i ≤ j → l[i]? = some x → l[j]? = some y → befV v y = true → befV v x = true := by
  intro i j x y hij hx hy h
  unfold befV at h ⊢
  rw [decide_eq_true_eq] at h ⊢
  rcases Nat.lt_or_eq_of_le hij with hlt | rfl
  · exact cmp2_trans _ _ _ _ _ _ (pw_get (ver_pw hv) hlt hx hy) h
  · rw [hx] at hy
    injection hy with hy
    subst hy
    exact h
theorem placeV {l : List VersionR} (hv : vVers l = true) (v : VersionR) : (∀ (i : Nat) (x : VersionR), i < cutN (befV v) l → l[i]? = some x → cmpVer x v < 0) ∧ (∀ (i : Nat) (x : VersionR), cutN (befV v) l ≤ i → l[i]? = some x → ¬ cmpVer x v < 0) :=
  ⟨fun i x hi hx => by have := cutN_lt hi hx; unfold befV at this; exact of_decide_eq_true this,
   fun i x hi hx => by have := cutN_ge (befV_mono hv v) hi hx; unfold befV at this; exact of_decide_eq_false this⟩
theorem cmpVer_flip (x y : VersionR) : cmpVer x y = - cmpVer y x := by unfold cmpVer; exact cmp2_flip _ _ _ _
/-- How a version lies to the elements of a valid table. -/
theorem putCmp {l : List VersionR} (hv : vVers l = true) (v : VersionR) : (∀ (i : Nat) (x : VersionR), i < cutN (befV v) l → l[i]? = some x → 0 < cmpVer v x) ∧
    (∀ (x : VersionR), l[cutN (befV v) l]? = some x → cmpVer v x ≤ 0 ∧ (cmpVer v x = 0 ↔ hitVn v l[cutN (befV v) l]? = true)) ∧
    (∀ (i : Nat) (x : VersionR), cutN (befV v) l < i → l[i]? = some x → cmpVer v x < 0) := by
  obtain ⟨h0, h1⟩ := placeV hv v
  refine ⟨fun i x hi hx => ?_, fun x hx => ⟨?_, ?_⟩, fun i x hi hx => ?_⟩
  · have := h0 i x hi hx; rw [cmpVer_flip]; omega
  · have := h1 _ x (Nat.le_refl _) hx; rw [cmpVer_flip]; omega
  · rw [hx, cmpVer_flip]
    show _ ↔ decide (cmpVer x v = 0) = true
    rw [decide_eq_true_eq]; omega
  · have hlt : cutN (befV v) l < l.length := Nat.lt_of_lt_of_le hi (Nat.le_of_lt (List.getElem?_eq_some_iff.1 hx).1)
    have hc : l[cutN (befV v) l]? = some l[cutN (befV v) l] := List.getElem?_eq_getElem hlt
    have h2 := pw_get (ver_pw hv) hi hc hx
    have h3 := h1 _ _ (Nat.le_refl _) hc
    rw [cmpVer_flip]
    unfold cmpVer at *
    rw [cmp2_neg] at h2 h3
    have h4 : cmp2L v.a0 v.a1 x.a0 x.a1 < 0 := by rw [cmp2_neg]; omega
    rw [cmp2_flip] at h4
    omega
/-- What has been laid down after k elements: v stands for the elements from K to J. -/
def putAt (K J : Nat) (v : VersionR) (l : List VersionR) (k : Nat) : List VersionR := if k ≤ K then l.take k else l.take K ++ v :: (l.take k).drop J
theorem put_lt {K J : Nat} {v : VersionR} {l : List VersionR} {k : Nat} {x : VersionR} (h : k < K) (hx : l[k]? = some x) : putAt K J v l (k + 1) = putAt K J v l k ++ [x] := by
  unfold putAt
  rw [if_pos (by omega), if_pos (by omega), List.take_add_one, hx]
  rfl
theorem put_eq0 {K : Nat} {v : VersionR} {l : List VersionR} {x : VersionR} (hx : l[K]? = some x) : putAt K K v l (K + 1) = (putAt K K v l K ++ [v]) ++ [x] := by
  have hK : K < l.length := (List.getElem?_eq_some_iff.1 hx).1
  unfold putAt
  rw [if_neg (by omega), if_pos (Nat.le_refl _), List.take_add_one, hx]
  have e : (l.take K ++ (some x).toList).drop K = [x] := by
    rw [List.drop_append_of_le_length (by simp; omega)]
    simp
  rw [e]
  simp
theorem put_eq1 {K : Nat} {v : VersionR} {l : List VersionR} {x : VersionR} (hx : l[K]? = some x) : putAt K (K + 1) v l (K + 1) = putAt K (K + 1) v l K ++ [v] := by
  have hK : K < l.length := (List.getElem?_eq_some_iff.1 hx).1
  unfold putAt
  rw [if_neg (by omega), if_pos (Nat.le_refl _)]
  have e : (l.take (K + 1)).drop (K + 1) = [] := List.drop_of_length_le (by simp; omega)
  rw [e]
theorem put_gt {K J : Nat} {v : VersionR} {l : List VersionR} {k : Nat} {x : VersionR} (h : K < k) (hJ : J ≤ K + 1) (hx : l[k]? = some x) : putAt K J v l (k + 1) = putAt K J v l k ++ [x] := by
  have hk : k < l.length := (List.getElem?_eq_some_iff.1 hx).1
  unfold putAt
  rw [if_neg (by omega), if_neg (by omega), List.take_add_one, hx]
  rw [List.drop_append_of_le_length (by simp; omega)]
  simp
theorem put_len (K J : Nat) (v : VersionR) (l : List VersionR) (k : Nat) (hk : k ≤ l.length) (hJ : K ≤ J) : (putAt K J v l k).length ≤ l.length + 1 := by
  unfold putAt
  split
  · simp; omega
  · simp; omega
theorem put_end {K J : Nat} {v : VersionR} {l : List VersionR} (hK : K < l.length) : putAt K J v l l.length = l.take K ++ [v] ++ l.drop J := by
  unfold putAt
  rw [if_neg (by omega), List.take_of_length_le (Nat.le_refl _)]
  simp
theorem put_none {K J : Nat} {v : VersionR} {l : List VersionR} (hK : l.length ≤ K) : putAt K J v l l.length = l := by
  unfold putAt
  rw [if_pos hK, List.take_of_length_le (Nat.le_refl _)]
set_option maxRecDepth 100000 in
set_option maxHeartbeats 8000000 in
theorem specPut_any (A : Option Addr) (c : Nat) (l : List VersionR) (v : VersionR) (w : World) (ha : Row VersionR.enc 3 w A l) :
    Calls Try.prog 30 #[.slice A l.length c, .agg #[.int .i64 v.a0, .int .i64 v.a1, .int .i64 v.a2]] w (OwnBPost VersionR.enc 3 39 w (putF l v) (putK l v)) := by
  have hal := ha.1
  obtain ⟨i0, hi0, hz0, hz1, hz2⟩ := info_parts VersionR.zero_info
  have hBA : Below w.heap.size w (w.alloc (.cells #[.int .i64 v.a0, .int .i64 v.a1, .int .i64 v.a2] 39)) := (Below.refl _ _).alloc (Nat.le_refl _) _
  have hAz : w.heap.size < (w.alloc (.cells #[.int .i64 v.a0, .int .i64 v.a1, .int .i64 v.a2] 39)).heap.size := by simp
  have c0 : (w.alloc (.cells #[.int .i64 v.a0, .int .i64 v.a1, .int .i64 v.a2] 39)).cell? ⟨w.heap.size, 0, none⟩ = some (.int .i64 v.a0) := by simp [go_sem]
  have c1 : (w.alloc (.cells #[.int .i64 v.a0, .int .i64 v.a1, .int .i64 v.a2] 39)).cell? ⟨w.heap.size, 1, none⟩ = some (.int .i64 v.a1) := by simp [go_sem]
  have c2 : (w.alloc (.cells #[.int .i64 v.a0, .int .i64 v.a1, .int .i64 v.a2] 39)).cell? ⟨w.heap.size, 2, none⟩ = some (.int .i64 v.a2) := by simp [go_sem]
  go_enter Try.func30, Try.ntmps30
  go_wp2_with fail
  generalize w.alloc (.cells #[.int .i64 v.a0, .int .i64 v.a1, .int .i64 v.a2] 39) = wA at *
  refine (specVers_any A c l _ (ha.keep hBA)).mono ?_
  rintro e w1 ⟨rfl, hb1⟩
  have d0 : w1.cell? ⟨w.heap.size, 0, none⟩ = some (.int .i64 v.a0) := (hb1.cell hAz).trans c0
  have d1 : w1.cell? ⟨w.heap.size, 1, none⟩ = some (.int .i64 v.a1) := (hb1.cell hAz).trans c1
  have d2 : w1.cell? ⟨w.heap.size, 2, none⟩ = some (.int .i64 v.a2) := (hb1.cell hAz).trans c2
  have Hc := Lib.hid (show _ ∧ _ ∧ _ from ⟨c0, c1, c2⟩)
  clear c0 c1 c2
  by_cases hv : putP l v
  · have Hv := Lib.hid hv
    have h40 := ver_len hv.1
    have Hcmp := Lib.hid (putCmp hv.1 v)
    have hK := cutN_le (befV v) l
    have hJ : putJ l v = cutN (befV v) l ∨ putJ l v = cutN (befV v) l + 1 := by unfold putJ; split; exact .inr rfl; exact .inl rfl
    have hJh : putJ l v = cutN (befV v) l + 1 ↔ hitVn v l[cutN (befV v) l]? = true := by
      unfold putJ
      split
      · rename_i h; simp [h]
      · rename_i h; simp [h]
    have hhit : hitVn v l[cutN (befV v) l]? = true → cutN (befV v) l < l.length := by
      intro h
      rcases Nat.lt_or_ge (cutN (befV v) l) l.length with h1 | h1
      · exact h1
      · rw [List.getElem?_eq_none h1] at h; cases h
    have HG := Lib.hid (show putG l v = l.take (cutN (befV v) l) ++ [v] ++ l.drop (putJ l v) from rfl)
    have HF := Lib.hid (show (hitVn v l[cutN (befV v) l]? = true ∨ l.length ≠ 40 → putF l v = putG l v ∧ putK l v = true) ∧ (¬ (hitVn v l[cutN (befV v) l]? = true ∨ l.length ≠ 40) → putF l v = [] ∧ putK l v = false) by
      unfold putF putK
      exact ⟨fun h => ⟨if_pos ⟨hv, h⟩, decide_eq_true ⟨hv, h⟩⟩, fun h => ⟨if_neg (fun h' => h h'.2), decide_eq_false (fun h' => h h'.2)⟩⟩)
    have HJ := Lib.hid (show _ ∧ _ ∧ _ from ⟨hJ, hJh, hhit⟩)
    obtain ⟨hv1, hv2⟩ := hv
    rw [hv1]
    clear hv1 hJ hJh hhit
    generalize hitVn v l[cutN (befV v) l]? = f at *
    generalize putJ l v = J at *
    generalize cutN (befV v) l = K at *
    go_wp2_with fail
    refine (specValidVersion_any v _).mono ?_
    rintro e w2 ⟨rfl, hb2⟩
    rw [hv2]
    have hB2 := hb1.trans (hb2.mono hb1.size)
    have Hs := Lib.hid (acc_made VersionR.enc 3 39 hB2)
    clear hb1 hb2 d0 d1 d2 hB2 hv2
    go_wp2
    go_loopw [6, 7, 8] (fun u f i wr => ∃ k : Nat, k ≤ l.length ∧ i = .int .i64 k ∧ f = .bool (decide (K < k)) ∧ Acc VersionR.enc 3 39 wA (putAt K J v l k) u wr) (fun _ _ i _ => l.length - (intOf i).toNat)
    case atStart => exact ⟨0, Nat.zero_le _, rfl, by simp, by simpa [putAt] using Hs.out⟩
    case round =>
      clear Hs
      obtain ⟨k, hk, rfl, rfl, hacc⟩ := hrel
      have Hacc := Lib.hid hacc
      have hbA := hacc.2
      have hbw := hBA.trans (hbA.mono hBA.size)
      have hzA := hbA.size
      have hbx : w.heap.size < wr.heap.size := by omega
      clear hacc
      have hl1 := put_len K J v l k hk (by rcases HJ.out.1 with h | h <;> omega)
      by_cases hlt : k < l.length
      · obtain ⟨b, off, rfl, hblt, q0, q1, q2⟩ := (ha.keep hbw).atVersion hlt
        have hx := List.getElem?_eq_getElem hlt
        generalize hxl : l[k] = x at *
        have Hx := Lib.hid hx
        have Hxl := Lib.hid hxl
        have Q0 := Bw.cellOf hblt q0
        have Q1 := Bw.cellOf hblt q1
        have Q2 := Bw.cellOf hblt q2
        have K0 := Bw.cellOf hbx ((hbA.cell hAz).trans Hc.out.1)
        have K1 := Bw.cellOf hbx ((hbA.cell hAz).trans Hc.out.2.1)
        have K2 := Bw.cellOf hbx ((hbA.cell hAz).trans Hc.out.2.2)
        have i0' : (0 : Int) ≤ (k : Int) := by omega
        have i1' : (k : Int) < (l.length : Int) := by omega
        clear hx hxl
        rcases Nat.lt_trichotomy k K with hkK | hkK | hkK
        · have hc := Hcmp.out.1 k x hkK Hx.out
          have hd : decide (K < k) = false := decide_eq_false (by omega)
          have Hd' := Lib.hid (show decide (K < k + 1) = false from decide_eq_false (by omega))
          rw [hd]
          have hc1 : decide (cmpVer v x ≤ 0) = false := decide_eq_false (by omega)
          have hc2 : (cmpVer v x != 0) = true := by simp; omega
          have Hi := Lib.hid (put_lt (J := J) (v := v) hkK Hx.out)
          clear hd hc
          go_wp2_with fail
          refine wp_region_quiet_below (by kernel_rfl) (by kernel_rfl) ?_
          repeat (any_goals (go_big_quiet_step (first | (go_at_call 75; refine Calls.below_of (cmpVerS_any v x _)))))
          refine wpQuiet_nil ?_
          intro w4 hb4
          have hacc4 := acc_keep Hacc.out hb4
          have hown := hacc4.1
          have hbA4 := hacc4.2
          have hzz := hacc4.2.size
          have hbb := hBA.trans (hbA4.mono hBA.size)
          have Hacc4 := Lib.hid hacc4
          clear hacc4 hb4 Q0 Q1 Q2 K0 K1 K2
          obtain ⟨b', off', e', _, q0', q1', q2'⟩ := (ha.keep hbb).atVersion hlt
          injection e' with e'
          injection e' with e1 e2
          subst e1 e2
          rw [Hxl.out] at q0' q1' q2'
          go_wp2_with (first | (at_builtin; refine wpList_append_own _ rfl _ _ 37 rfl wA.heap.size 39 i0 _ 3 24 Try.underlying37 hi0 hz0 hz1 hz2 rfl (by decide) _ _ _ rfl (hown.alloc _) ⟨w4.heap.size, 0, none⟩ 1 1 (VersionR.enc x) rfl rfl ?c1 ?c2 ?c3 ?c4 ?c5 ?_) | go_in)
          case c1 =>
            intro j u hu
            rcases j with _ | _ | _ | j <;> simp [VersionR.enc] at hu <;> subst hu <;> simp [Addr.add, go_sem]
          case c2 => intro u hu; simp [VersionR.enc] at hu; rcases hu with rfl | rfl | rfl <;> rfl
          case c3 => unfold maxLen; omega
          case c4 => omega
          case c5 => first | omega | (simp; done) | (simp; omega)
          intro v' w6 hown' hg' _
          have hnext := acc_push Hacc4.out ((Below.refl _ _).alloc (Nat.le_refl _) _) hown' hg'
          rw [← Hi.out] at hnext
          have Hn := Lib.hid hnext
          clear hnext hown' hg' hown Hacc Hacc4 Hi
          go_wp2
          go_roundw
          case rel => exact ⟨k + 1, by omega, by go_num, by rw [Hd'.out], Hn.out⟩
          case measure => simp [intOf]; omega
        · subst hkK
          have hcm := Hcmp.out.2.1 x Hx.out
          have hd : decide (k < k) = false := decide_eq_false (by omega)
          have Hd' := Lib.hid (show decide (k < k + 1) = true from decide_eq_true (by omega))
          rw [hd]
          have hc1 : decide (cmpVer v x ≤ 0) = true := decide_eq_true hcm.1
          by_cases hz : cmpVer v x = 0
          · have hJk : J = k + 1 := HJ.out.2.1.2 (hcm.2.1 hz)
            subst hJk
            have hc2 : (cmpVer v x != 0) = false := by simp [hz]
            have Hi := Lib.hid (put_eq1 (v := v) Hx.out)
            have hc3 := hcm.1
            clear hd hz hcm
            go_wp2_with fail
            refine wp_region_quiet_below (by kernel_rfl) (by kernel_rfl) ?_
            repeat (any_goals (go_big_quiet_step (first | (go_at_call 75; refine Calls.below_of (cmpVerS_any v x _)))))
            refine wpQuiet_nil ?_
            intro w4 hb4
            have hacc4 := acc_keep Hacc.out hb4
            have hown := hacc4.1
            have hbA4 := hacc4.2
            have hzz := hacc4.2.size
            have hbb := hBA.trans (hbA4.mono hBA.size)
            have Hacc4 := Lib.hid hacc4
            clear hacc4 hb4 Q0 Q1 Q2 K0 K1 K2
            have p0 := (hbA4.cell hAz).trans Hc.out.1
            have p1 := (hbA4.cell hAz).trans Hc.out.2.1
            have p2 := (hbA4.cell hAz).trans Hc.out.2.2
            go_wp2_with (first | (at_builtin; refine wpList_append_own _ rfl _ _ 37 rfl wA.heap.size 39 i0 _ 3 24 Try.underlying37 hi0 hz0 hz1 hz2 rfl (by decide) _ _ _ rfl (hown.alloc _) ⟨w4.heap.size, 0, none⟩ 1 1 (VersionR.enc v) rfl rfl ?c1 ?c2 ?c3 ?c4 ?c5 ?_) | go_in)
            case c1 =>
              intro j u hu
              rcases j with _ | _ | _ | j <;> simp [VersionR.enc] at hu <;> subst hu <;> simp [Addr.add, go_sem]
            case c2 => intro u hu; simp [VersionR.enc] at hu; rcases hu with rfl | rfl | rfl <;> rfl
            case c3 => unfold maxLen; omega
            case c4 => omega
            case c5 => first | omega | (simp; done) | (simp; omega)
            intro v5 w6 hown5 hg5 _
            have hnext := acc_push Hacc4.out ((Below.refl _ _).alloc (Nat.le_refl _) _) hown5 hg5
            rw [← Hi.out] at hnext
            have Hn := Lib.hid hnext
            clear hnext hown5 hg5 hown Hacc Hacc4 Hi p0 p1 p2
            go_wp2
            go_roundw
            case rel => exact ⟨k + 1, by omega, by go_num, by rw [Hd'.out], Hn.out⟩
            case measure => simp [intOf]; omega
          · have hJk : k = J := by
              rcases HJ.out.1 with h | h
              · exact h.symm
              · exact absurd (hcm.2.2 (HJ.out.2.1.1 h)) hz
            subst hJk
            have hc2 : (cmpVer v x != 0) = true := by simp [hz]
            have Hi := Lib.hid (put_eq0 (v := v) Hx.out)
            have hc3 := hcm.1
            clear hd hz hcm
            go_wp2_with fail
            refine wp_region_quiet_below (by kernel_rfl) (by kernel_rfl) ?_
            repeat (any_goals (go_big_quiet_step (first | (go_at_call 75; refine Calls.below_of (cmpVerS_any v x _)))))
            refine wpQuiet_nil ?_
            intro w4 hb4
            have hacc4 := acc_keep Hacc.out hb4
            have hown := hacc4.1
            have hbA4 := hacc4.2
            have hzz := hacc4.2.size
            have hbb := hBA.trans (hbA4.mono hBA.size)
            have Hacc4 := Lib.hid hacc4
            clear hacc4 hb4 Q0 Q1 Q2 K0 K1 K2
            have p0 := (hbA4.cell hAz).trans Hc.out.1
            have p1 := (hbA4.cell hAz).trans Hc.out.2.1
            have p2 := (hbA4.cell hAz).trans Hc.out.2.2
            go_wp2_with (first | (at_builtin; refine wpList_append_own _ rfl _ _ 37 rfl wA.heap.size 39 i0 _ 3 24 Try.underlying37 hi0 hz0 hz1 hz2 rfl (by decide) _ _ _ rfl (hown.alloc _) ⟨w4.heap.size, 0, none⟩ 1 1 (VersionR.enc v) rfl rfl ?c1 ?c2 ?c3 ?c4 ?c5 ?_) | go_in)
            case c1 =>
              intro j u hu
              rcases j with _ | _ | _ | j <;> simp [VersionR.enc] at hu <;> subst hu <;> simp [Addr.add, go_sem]
            case c2 => intro u hu; simp [VersionR.enc] at hu; rcases hu with rfl | rfl | rfl <;> rfl
            case c3 => unfold maxLen; omega
            case c4 => omega
            case c5 => first | omega | (simp; done) | (simp; omega)
            intro v5 w6 hown5 hg5 _
            have hacc6 := acc_push Hacc4.out ((Below.refl _ _).alloc (Nat.le_refl _) _) hown5 hg5
            have hown6 := hacc6.1
            have hbb := hBA.trans (hacc6.2.mono hBA.size)
            have hzz6 := hacc6.2.size
            obtain ⟨b', off', e', _, q0', q1', q2'⟩ := (ha.keep hbb).atVersion hlt
            injection e' with e'
            injection e' with e1 e2
            subst e1 e2
            rw [Hxl.out] at q0' q1' q2'
            have hl6 : (putAt k k v l k ++ [v]).length = (putAt k k v l k).length + 1 := by simp
            have hl6' : (putAt k k v l k ++ [v]).length ≤ l.length + 2 := by omega
            have Hacc6 := Lib.hid hacc6
            clear hacc6 p0 p1 p2 hown5 hg5 hown Hacc4 hl6
            go_wp2_with (first | (at_builtin; refine wpList_append_own _ rfl _ _ 37 rfl wA.heap.size 39 i0 _ 3 24 Try.underlying37 hi0 hz0 hz1 hz2 rfl (by decide) _ _ _ rfl (hown6.alloc _) ⟨w6.heap.size, 0, none⟩ 1 1 (VersionR.enc x) rfl rfl ?c1 ?c2 ?c3 ?c4 ?c5 ?_) | go_in)
            case c1 =>
              intro j u hu
              rcases j with _ | _ | _ | j <;> simp [VersionR.enc] at hu <;> subst hu <;> simp [Addr.add, go_sem]
            case c2 => intro u hu; simp [VersionR.enc] at hu; rcases hu with rfl | rfl | rfl <;> rfl
            case c3 => unfold maxLen; omega
            case c4 => omega
            case c5 => first | omega | (simp; done) | (simp; omega)
            intro v' w7 hown' hg' _
            have hnext := acc_push Hacc6.out ((Below.refl _ _).alloc (Nat.le_refl _) _) (by simpa using hown') hg'
            rw [← Hi.out] at hnext
            have Hn := Lib.hid hnext
            clear hnext hown' hg' hown6 Hacc Hacc6 Hi
            go_wp2
            go_roundw
            case rel => exact ⟨k + 1, by omega, by go_num, by rw [Hd'.out], Hn.out⟩
            case measure => simp [intOf]; omega
        · have hc := Hcmp.out.2.2 k x hkK Hx.out
          have hd : decide (K < k) = true := decide_eq_true (by omega)
          have Hd' := Lib.hid (show decide (K < k + 1) = true from decide_eq_true (by omega))
          rw [hd]
          have hc1 : decide (cmpVer v x ≤ 0) = true := decide_eq_true (by omega)
          have hc2 : (cmpVer v x != 0) = true := by simp; omega
          have hc3 : cmpVer v x ≤ 0 := by omega
          have Hi := Lib.hid (put_gt (J := J) (v := v) hkK (by rcases HJ.out.1 with h | h <;> omega) Hx.out)
          clear hd hc
          go_wp2_with fail
          refine wp_region_quiet_below (by kernel_rfl) (by kernel_rfl) ?_
          repeat (any_goals (go_big_quiet_step (first | (go_at_call 75; refine Calls.below_of (cmpVerS_any v x _)))))
          refine wpQuiet_nil ?_
          intro w4 hb4
          have hacc4 := acc_keep Hacc.out hb4
          have hown := hacc4.1
          have hbA4 := hacc4.2
          have hzz := hacc4.2.size
          have hbb := hBA.trans (hbA4.mono hBA.size)
          have Hacc4 := Lib.hid hacc4
          clear hacc4 hb4 Q0 Q1 Q2 K0 K1 K2
          obtain ⟨b', off', e', _, q0', q1', q2'⟩ := (ha.keep hbb).atVersion hlt
          injection e' with e'
          injection e' with e1 e2
          subst e1 e2
          rw [Hxl.out] at q0' q1' q2'
          go_wp2_with (first | (at_builtin; refine wpList_append_own _ rfl _ _ 37 rfl wA.heap.size 39 i0 _ 3 24 Try.underlying37 hi0 hz0 hz1 hz2 rfl (by decide) _ _ _ rfl (hown.alloc _) ⟨w4.heap.size, 0, none⟩ 1 1 (VersionR.enc x) rfl rfl ?c1 ?c2 ?c3 ?c4 ?c5 ?_) | go_in)
          case c1 =>
            intro j u hu
            rcases j with _ | _ | _ | j <;> simp [VersionR.enc] at hu <;> subst hu <;> simp [Addr.add, go_sem]
          case c2 => intro u hu; simp [VersionR.enc] at hu; rcases hu with rfl | rfl | rfl <;> rfl
          case c3 => unfold maxLen; omega
          case c4 => omega
          case c5 => first | omega | (simp; done) | (simp; omega)
          intro v' w6 hown' hg' _
          have hnext := acc_push Hacc4.out ((Below.refl _ _).alloc (Nat.le_refl _) _) hown' hg'
          rw [← Hi.out] at hnext
          have Hn := Lib.hid hnext
          clear hnext hown' hg' hown Hacc Hacc4 Hi
          go_wp2
          go_roundw
          case rel => exact ⟨k + 1, by omega, by go_num, by rw [Hd'.out], Hn.out⟩
          case measure => simp [intOf]; omega
      · obtain rfl : k = l.length := by omega
        by_cases hKl : K < l.length
        · have hd : decide (K < l.length) = true := decide_eq_true hKl
          rw [hd]
          have hfin := Hacc.out
          rw [put_end hKl, ← HG.out] at hfin
          have hgl : (putG l v).length = l.length + 1 + K - J := by rw [HG.out]; simp; rcases HJ.out.1 with h | h <;> omega
          by_cases hok : f = true ∨ l.length ≠ 40
          · have HF2 := Lib.hid (HF.out.1 hok)
            have hg40 : (putG l v).length ≤ 40 := by
              rw [hgl]
              rcases hok with h | h
              · have := HJ.out.2.1.2 h; omega
              · rcases HJ.out.1 with h' | h' <;> omega
            obtain ⟨A', c', hv'⟩ := (show Own VersionR.enc 3 39 wr wA.heap.size _ _ from ⟨by omega, hfin.1⟩).form
            subst hv'
            have Hf := Lib.hid (acc_up hfin hBA)
            have Hgl := Lib.hid hg40
            generalize hnn : (putG l v).length = nn at *
            have Hnn := Lib.hid hnn
            clear hfin hd Hacc hgl hnn
            go_wp2
            all_goals go_returns
            all_goals (rw [HF2.out.1, HF2.out.2]; exact accB Hf.out (by rw [Hnn.out]; omega) rfl)
          · have HF2 := Lib.hid (HF.out.2 hok)
            have hg41 : (putG l v).length = 41 := by
              rw [hgl]
              have h1 : ¬ f = true := fun h => hok (.inl h)
              have h2 : l.length = 40 := by
                rcases Nat.lt_trichotomy l.length 40 with h | h | h
                · exact absurd (.inr (by omega)) hok
                · exact h
                · exact absurd (.inr (by omega)) hok
              rcases HJ.out.1 with h' | h'
              · omega
              · exact absurd (HJ.out.2.1.1 h') h1
            obtain ⟨A', c', hv'⟩ := (show Own VersionR.enc 3 39 wr wA.heap.size _ _ from ⟨by omega, hfin.1⟩).form
            subst hv'
            have hbz := hBA.trans (hfin.2.mono hBA.size)
            have Hbz := Lib.hid hbz
            rw [hg41] at hfin ⊢
            clear hfin hd Hacc hgl hg41 hok hbz
            go_wp2
            all_goals go_returns
            all_goals (rw [HF2.out.1, HF2.out.2]; exact accB (acc_none _ _ _ Hbz.out) (by simp) rfl)
        · have hd : decide (K < l.length) = false := decide_eq_false hKl
          rw [hd]
          have hfin := Hacc.out
          rw [put_none (by omega)] at hfin
          have hbA4 := hbA
          have p0 := (hbA4.cell hAz).trans Hc.out.1
          have p1 := (hbA4.cell hAz).trans Hc.out.2.1
          have p2 := (hbA4.cell hAz).trans Hc.out.2.2
          have hf : ¬ f = true := fun h => by have := HJ.out.2.2 h; omega
          have hJK : J = K := by
            rcases HJ.out.1 with h | h
            · exact h
            · exact absurd (HJ.out.2.1.1 h) hf
          have Hacc4 := Lib.hid hfin
          have hown := hfin.1
          have hgl : putG l v = l ++ [v] := by rw [HG.out, hJK, List.take_of_length_le (by omega), List.drop_of_length_le (by omega), List.append_nil]
          have Hgl := Lib.hid hgl
          have Hf := Lib.hid hf
          clear hfin hd Hacc hgl hf hJK
          go_wp2_with (first | (at_builtin; refine wpList_append_own _ rfl _ _ 37 rfl wA.heap.size 39 i0 _ 3 24 Try.underlying37 hi0 hz0 hz1 hz2 rfl (by decide) _ _ _ rfl (hown.alloc _) ⟨wr.heap.size, 0, none⟩ 1 1 (VersionR.enc v) rfl rfl ?c1 ?c2 ?c3 ?c4 ?c5 ?_) | go_in)
          case c1 =>
            intro j u hu
            rcases j with _ | _ | _ | j <;> simp [VersionR.enc] at hu <;> subst hu <;> simp [Addr.add, go_sem]
          case c2 => intro u hu; simp [VersionR.enc] at hu; rcases hu with rfl | rfl | rfl <;> rfl
          case c3 => unfold maxLen; omega
          case c4 => omega
          case c5 => first | omega | (simp; done) | (simp; omega)
          intro v' w6 hown' hg' _
          have hnext := acc_push Hacc4.out ((Below.refl _ _).alloc (Nat.le_refl _) _) hown' hg'
          rw [← Hgl.out] at hnext
          have hgl2 : (putG l v).length = l.length + 1 := by rw [Hgl.out]; simp
          obtain ⟨A', c', hv'⟩ := (show Own VersionR.enc 3 39 w6 wA.heap.size _ _ from ⟨by omega, hnext.1⟩).form
          subst hv'
          have Hfin := Lib.hid (acc_up hnext hBA)
          have Hbz := Lib.hid (hBA.trans (hnext.2.mono hBA.size))
          by_cases h40' : l.length = 40
          · have HF2 := Lib.hid (HF.out.2 (by rintro (h | h); exact Hf.out h; exact h h40'))
            rw [hgl2, h40'] at *
            clear hnext hown' hg' hown Hacc4 p0 p1 p2 hgl2 Hfin h40'
            go_wp2
            all_goals go_returns
            all_goals (rw [HF2.out.1, HF2.out.2]; exact accB (acc_none _ _ _ Hbz.out) (by simp) rfl)
          · have HF2 := Lib.hid (HF.out.1 (.inr h40'))
            have hlt40 : l.length + 1 ≤ 40 := by omega
            have Hg2 := Lib.hid hgl2
            rw [hgl2] at Hfin ⊢
            clear hnext hown' hg' hown Hacc4 p0 p1 p2 hgl2 h40'
            go_wp2
            all_goals go_returns
            all_goals (rw [HF2.out.1, HF2.out.2]; exact accB Hfin.out (by rw [Hg2.out]; omega) rfl)
  · have HF := Lib.hid (show putF l v = [] ∧ putK l v = false by
      unfold putF putK
      exact ⟨if_neg (fun h => hv h.1), decide_eq_false (fun h => hv h.1)⟩)
    have hbw1 := hBA.trans (hb1.mono hBA.size)
    rcases Bool.eq_false_or_eq_true (vVers l) with h1 | h1
    · have h2 : vVerB v = false := by
        rw [Bool.eq_false_iff]; intro h; exact hv ⟨h1, h⟩
      rw [h1]
      clear hv h1
      go_wp2_with fail
      refine (specValidVersion_any v _).mono ?_
      rintro e w2 ⟨rfl, hb2⟩
      rw [h2]
      have hbw2 := hbw1.trans (hb2.mono hbw1.size)
      clear h2
      go_wp2
      all_goals go_returns
      all_goals (rw [HF.out.1, HF.out.2]; exact accB (acc_none _ _ _ hbw2) (by simp) rfl)
    · rw [h1]
      clear hv h1
      go_wp2
      all_goals go_returns
      all_goals (rw [HF.out.1, HF.out.2]; exact accB (acc_none _ _ _ hbw1) (by simp) rfl)
end Go.Proofs.Ytjjjlpnbniofjab
