import Derived.Test.YtjjjlpnbniofjabRemI
namespace Go.Proofs.Ytjjjlpnbniofjab
open Go.RowKit
def addP (l : List TimerR) (t : TimerR) : Prop := vTims l = true ∧ vTimB t = true
instance (l : List TimerR) (t : TimerR) : Decidable (addP l t) := by unfold addP; infer_instance
def addG (l : List TimerR) (t : TimerR) : List TimerR := l.take (cutN (befTm t) l) ++ [t] ++ l.drop (cutN (befTm t) l)
def addF (l : List TimerR) (t : TimerR) : List TimerR := if addP l t then (if t ∈ l ∨ l.length = 20 then l else addG l t) else []
def addK (l : List TimerR) (t : TimerR) : Bool := if addP l t then (if t ∈ l then true else if l.length = 20 then false else true) else false
/-- What has been laid down after k elements where t goes ahead of element K. -/
def insAt (K : Nat) (t : TimerR) (l : List TimerR) (k : Nat) : List TimerR := if k ≤ K then l.take k else l.take K ++ t :: (l.take k).drop K
theorem ins_lt {K : Nat} {t : TimerR} {l : List TimerR} {k : Nat} {x : TimerR} (h : k < K) (hx : l[k]? = some x) : insAt K t l (k + 1) = insAt K t l k ++ [x] := by
  unfold insAt
  rw [if_pos (by omega), if_pos (by omega), List.take_add_one, hx]
  rfl
theorem ins_eq {K : Nat} {t : TimerR} {l : List TimerR} {x : TimerR} (hx : l[K]? = some x) : insAt K t l (K + 1) = (insAt K t l K ++ [t]) ++ [x] := by
  have hK : K < l.length := (List.getElem?_eq_some_iff.1 hx).1
  unfold insAt
  rw [if_neg (by omega), if_pos (Nat.le_refl _), List.take_add_one, hx]
  have e : (l.take K ++ (some x).toList).drop K = [x] := by
    rw [List.drop_append_of_le_length (by simp; omega)]
    simp [List.drop_take]
  rw [e]
  simp
theorem ins_gt {K : Nat} {t : TimerR} {l : List TimerR} {k : Nat} {x : TimerR} (h : K < k) (hx : l[k]? = some x) : insAt K t l (k + 1) = insAt K t l k ++ [x] := by
  have hk : k < l.length := (List.getElem?_eq_some_iff.1 hx).1
  unfold insAt
  rw [if_neg (by omega), if_neg (by omega), List.take_add_one, hx]
  rw [List.drop_append_of_le_length (by simp; omega)]
  simp
theorem ins_len (K : Nat) (t : TimerR) (l : List TimerR) (k : Nat) (hk : k ≤ l.length) : (insAt K t l k).length ≤ l.length + 1 := by
  unfold insAt
  split
  · simp; omega
  · simp; omega
theorem ins_end {K : Nat} {t : TimerR} {l : List TimerR} (hK : K < l.length) : insAt K t l l.length = l.take K ++ [t] ++ l.drop K := by
  unfold insAt
  rw [if_neg (by omega), List.take_of_length_le (Nat.le_refl _)]
  simp
theorem ins_none {K : Nat} {t : TimerR} {l : List TimerR} (hK : l.length ≤ K) : insAt K t l l.length = l := by
  unfold insAt
  rw [if_pos hK, List.take_of_length_le (Nat.le_refl _)]
/-- The comparison the other way round. -/
theorem cmpTim_flip (x y : TimerR) : cmpTim x y = - cmpTim y x := by unfold cmpTim; exact cmp3_flip _ _ _ _ _ _
theorem add_cmp {l : List TimerR} (hv : vTims l = true) {t : TimerR} (hm : t ∉ l) : (∀ (i : Nat) (x : TimerR), i < cutN (befTm t) l → l[i]? = some x → ¬ cmpTim t x < 0) ∧ (∀ (i : Nat) (x : TimerR), cutN (befTm t) l ≤ i → l[i]? = some x → cmpTim t x < 0) := by
  obtain ⟨h0, h1⟩ := place_at hv t
  constructor
  · intro i x hi hx
    have := h0 i x hi hx
    rw [cmpTim_flip]; omega
  · intro i x hi hx
    have h2 := h1 i x hi hx
    have h3 : cmpTim x t ≠ 0 := fun h => hm (by rw [← cmpTim_eq.1 h]; exact List.mem_of_getElem? hx)
    rw [cmpTim_flip]; omega
theorem mem_take_next {l : List TimerR} {t : TimerR} {k : Nat} {x : TimerR} (hx : l[k]? = some x) : decide (t ∈ l.take (k + 1)) = (decide (t ∈ l.take k) || decide (x = t)) := by
  rw [List.take_add_one, hx, Bool.eq_iff_iff]
  simp only [List.mem_append, Option.toList, List.mem_singleton, Bool.or_eq_true, decide_eq_true_eq]
  constructor <;> (rintro (h | h); exact .inl h; exact .inr h.symm)
set_option maxRecDepth 100000 in
set_option maxHeartbeats 8000000 in
theorem specAdd_any (A : Option Addr) (c : Nat) (l : List TimerR) (t : TimerR) (w : World) (ha : Row TimerR.enc 3 w A l) :
    Calls Try.prog 17 #[.slice A l.length c, .agg #[.int .i64 t.a0, .int .i64 t.a1, .int .i64 t.a2]] w (OwnBPost TimerR.enc 3 25 w (addF l t) (addK l t)) := by
  have hal := ha.1
  obtain ⟨i0, hi0, hz0, hz1, hz2⟩ := info_parts TimerR.zero_info
  have hBA : Below w.heap.size w (w.alloc (.cells #[.int .i64 t.a0, .int .i64 t.a1, .int .i64 t.a2] 25)) := (Below.refl _ _).alloc (Nat.le_refl _) _
  have hAz : w.heap.size < (w.alloc (.cells #[.int .i64 t.a0, .int .i64 t.a1, .int .i64 t.a2] 25)).heap.size := by simp
  have c0 : (w.alloc (.cells #[.int .i64 t.a0, .int .i64 t.a1, .int .i64 t.a2] 25)).cell? ⟨w.heap.size, 0, none⟩ = some (.int .i64 t.a0) := by simp [go_sem]
  have c1 : (w.alloc (.cells #[.int .i64 t.a0, .int .i64 t.a1, .int .i64 t.a2] 25)).cell? ⟨w.heap.size, 1, none⟩ = some (.int .i64 t.a1) := by simp [go_sem]
  have c2 : (w.alloc (.cells #[.int .i64 t.a0, .int .i64 t.a1, .int .i64 t.a2] 25)).cell? ⟨w.heap.size, 2, none⟩ = some (.int .i64 t.a2) := by simp [go_sem]
  go_enter Try.func17, Try.ntmps17
  go_wp2_with fail
  generalize w.alloc (.cells #[.int .i64 t.a0, .int .i64 t.a1, .int .i64 t.a2] 25) = wA at *
  refine (specTims_any A c l _ (ha.keep hBA)).mono ?_
  rintro e w1 ⟨rfl, hb1⟩
  have d0 : w1.cell? ⟨w.heap.size, 0, none⟩ = some (.int .i64 t.a0) := (hb1.cell hAz).trans c0
  have d1 : w1.cell? ⟨w.heap.size, 1, none⟩ = some (.int .i64 t.a1) := (hb1.cell hAz).trans c1
  have d2 : w1.cell? ⟨w.heap.size, 2, none⟩ = some (.int .i64 t.a2) := (hb1.cell hAz).trans c2
  have Hc := Lib.hid (show _ ∧ _ ∧ _ from ⟨c0, c1, c2⟩)
  clear c0 c1 c2
  by_cases hv : addP l t
  · have Hv := Lib.hid hv
    obtain ⟨hv1, hv2⟩ := hv
    rw [hv1]
    clear hv1 hv2
    go_wp2_with fail
    refine (specValidTimer_any t _).mono ?_
    rintro e w2 ⟨rfl, hb2⟩
    rw [Hv.out.2]
    have hB2 := hb1.trans (hb2.mono hb1.size)
    clear hb1 hb2 d0 d1 d2
    have Hs := Lib.hid (acc_made TimerR.enc 3 25 hB2)
    have hB3 : Below wA.heap.size wA (w2.alloc (.cells #[] 25)) := hB2.alloc hB2.size _
    go_wp2
    go_loopw [7, 8] (fun f i wr => ∃ k : Nat, k ≤ l.length ∧ i = .int .i64 k ∧ f = .bool (decide (t ∈ l.take k)) ∧ Below (w2.alloc (.cells #[] 25)).heap.size (w2.alloc (.cells #[] 25)) wr) (fun _ i _ => l.length - (intOf i).toNat)
    case atStart => exact ⟨0, Nat.zero_le _, rfl, by simp, Below.refl _ _⟩
    case round =>
      obtain ⟨k, hk, rfl, rfl, hb3⟩ := hrel
      have hbA := hB3.trans (hb3.mono hB3.size)
      have hbw := hBA.trans (hbA.mono hBA.size)
      by_cases hlt : k < l.length
      · obtain ⟨b, off, rfl, hblt, q0, q1, q2⟩ := (ha.keep hbw).atTimer hlt
        have hx := List.getElem?_eq_getElem hlt
        generalize l[k] = x at *
        have hmx := mem_take_next (t := t) hx
        have Hmx := Lib.hid hmx
        have hzA := hbA.size
        have hbx : w.heap.size < wr.heap.size := by omega
        have Q0 := Bw.cellOf hblt q0
        have Q1 := Bw.cellOf hblt q1
        have Q2 := Bw.cellOf hblt q2
        have K0 := Bw.cellOf hbx ((hbA.cell hAz).trans Hc.out.1)
        have K1 := Bw.cellOf hbx ((hbA.cell hAz).trans Hc.out.2.1)
        have K2 := Bw.cellOf hbx ((hbA.cell hAz).trans Hc.out.2.2)
        have i0' : (0 : Int) ≤ (k : Int) := by omega
        have i1' : (k : Int) < (l.length : Int) := by omega
        clear hx hmx Hs ha
        rcases Bool.eq_false_or_eq_true (decide (t ∈ l.take k)) with hm | hm
        · rw [hm]
          have Hn := Lib.hid (show true = decide (t ∈ l.take (k + 1)) by rw [Hmx.out, hm]; rfl)
          clear hm
          go_wp2_with fail
          refine wp_region_quiet_below (by kernel_rfl) (by kernel_rfl) ?_
          repeat (any_goals (go_big_quiet_step (fail)))
          refine wpQuiet_nil ?_
          intro w4 hb4
          have hb5 := hb3.trans (hb4.mono hb3.size)
          go_wp2
          go_roundw
          case rel => exact ⟨k + 1, by omega, by go_num, by rw [Hn.out], hb5⟩
          case measure => simp [intOf]; omega
        · rw [hm]
          rcases Bool.eq_false_or_eq_true (decide (x = t)) with he | he
          all_goals
            have Hn := Lib.hid (show decide (x = t) = decide (t ∈ l.take (k + 1)) by rw [Hmx.out, hm]; rfl)
            have Hn2 := Lib.hid he
            have hne : ∀ W, (binOp .eql 25 (.agg #[.int .i64 x.a0, .int .i64 x.a1, .int .i64 x.a2]) (.agg #[.int .i64 t.a0, .int .i64 t.a1, .int .i64 t.a2])).run Try.prog W = .ok (.bool (decide (x = t))) W := fun W => eqlTm_run x t W
            rw [he] at hne
            clear hm he
            go_wp2_with fail
            refine wp_region_quiet_below (by kernel_rfl) (by kernel_rfl) ?_
            repeat (any_goals (go_big_quiet_step (fail)))
            refine wpQuiet_nil ?_
            intro w4 hb4
            have hb5 := hb3.trans (hb4.mono hb3.size)
            clear hne
            go_wp2
            go_roundw
            case rel => exact ⟨k + 1, by omega, by go_num, by rw [← Hn.out, Hn2.out], hb5⟩
            case measure => simp [intOf]; omega
      · have hkl : l.take k = l := List.take_of_length_le (by omega)
        rw [hkl]
        have Hacc := Lib.hid (acc_keep Hs.out hb3)
        clear Hs hkl
        have hbA2 := Hacc.out.2
        have hbw2 := hBA.trans (hbA2.mono hBA.size)
        clear hbA hbw
        by_cases hm : t ∈ l
        · have HF := Lib.hid (show addF l t = l ∧ addK l t = true by
            unfold addF addK
            rw [if_pos Hv.out, if_pos Hv.out, if_pos (.inl hm), if_pos hm]
            exact ⟨rfl, rfl⟩)
          have hd : decide (t ∈ l) = true := decide_eq_true hm
          rw [hd]
          clear hd hm
          go_wp2_with (at_builtin; refine wpList_append_row rfl _ _ 23 rfl i0 _ 24 Try.underlying23 hi0 hz0 hz1 hz2 rfl (by decide) (by decide) _ [] rfl Hacc.out A l.length c l rfl rfl (ha.keep hbw2) TimerR.enc_len ?h1 (by simp; omega) ?_)
          case h1 =>
            intro x u hu
            simp [TimerR.enc] at hu
            rcases hu with rfl | rfl | rfl <;> rfl
          intro v1 w5 hacc5 _ _
          have Hf := Lib.hid (acc_up hacc5 hBA)
          clear hacc5
          go_wp2
          all_goals go_returns
          all_goals (rw [HF.out.1, HF.out.2]; exact accB Hf.out (by omega) rfl)
        · have hd : decide (t ∈ l) = false := decide_eq_false hm
          have Hm := Lib.hid hm
          rw [hd]
          by_cases h20 : l.length = 20
          · have HF := Lib.hid (show addF l t = l ∧ addK l t = false by
              unfold addF addK
              rw [if_pos Hv.out, if_pos Hv.out, if_pos (.inr h20), if_neg hm, if_pos h20]
              exact ⟨rfl, rfl⟩)
            have hq : ((l.length : Int) == 20) = true := by simp; omega
            clear hd hm h20
            go_wp2_with (at_builtin; refine wpList_append_row rfl _ _ 23 rfl i0 _ 24 Try.underlying23 hi0 hz0 hz1 hz2 rfl (by decide) (by decide) _ [] rfl Hacc.out A l.length c l rfl rfl (ha.keep hbw2) TimerR.enc_len ?h1 (by simp; omega) ?_)
            case h1 =>
              intro x u hu
              simp [TimerR.enc] at hu
              rcases hu with rfl | rfl | rfl <;> rfl
            intro v1 w5 hacc5 _ _
            have Hf := Lib.hid (acc_up hacc5 hBA)
            clear hacc5
            go_wp2
            all_goals go_returns
            all_goals (rw [HF.out.1, HF.out.2]; exact accB Hf.out (by omega) rfl)
          · have HF := Lib.hid (show addF l t = addG l t ∧ addK l t = true by
              unfold addF addK
              rw [if_pos Hv.out, if_pos Hv.out, if_neg (by rintro (h | h); exact hm h; exact h20 h), if_neg hm, if_neg h20]
              exact ⟨rfl, rfl⟩)
            have hq : ((l.length : Int) == 20) = false := by simp; omega
            have hK := cutN_le (befTm t) l
            have Hcmp := Lib.hid (add_cmp Hv.out.1 hm)
            have HG := Lib.hid (show addG l t = l.take (cutN (befTm t) l) ++ [t] ++ l.drop (cutN (befTm t) l) from rfl)
            have h20' : l.length ≤ 20 := by
              have := Hv.out.1
              unfold vTims at this
              rw [Bool.and_eq_true, Bool.and_eq_true] at this
              exact of_decide_eq_true this.1.1
            clear hd hm h20
            generalize cutN (befTm t) l = K at *
            go_wp2
            go_loopw [6, 7, 9] (fun v f i wr => ∃ k : Nat, k ≤ l.length ∧ i = .int .i64 k ∧ f = .bool (decide (K < k)) ∧ Acc TimerR.enc 3 25 wA (insAt K t l k) v wr) (fun _ _ i _ => l.length - (intOf i).toNat)
            case atStart => exact ⟨0, Nat.zero_le _, rfl, by simp, by simpa [insAt] using Hacc.out⟩
            case round =>
              clear Hacc hbA2 hbw2 hb3
              obtain ⟨k, hk, rfl, rfl, hacc⟩ := hrel
              have Hacc := Lib.hid hacc
              have hbA := hacc.2
              have hbw := hBA.trans (hbA.mono hBA.size)
              have hzA := hbA.size
              have hbx : w.heap.size < wr.heap.size := by omega
              clear hacc
              by_cases hlt : k < l.length
              · obtain ⟨b, off, rfl, hblt, q0, q1, q2⟩ := (ha.keep hbw).atTimer hlt
                have hx := List.getElem?_eq_getElem hlt
                generalize hxl : l[k] = x at *
                have Hx := Lib.hid hx
                have Hxl := Lib.hid hxl
                have hl1 := ins_len K t l k hk
                have Q0 := Bw.cellOf hblt q0
                have Q1 := Bw.cellOf hblt q1
                have Q2 := Bw.cellOf hblt q2
                have K0 := Bw.cellOf hbx ((hbA.cell hAz).trans Hc.out.1)
                have K1 := Bw.cellOf hbx ((hbA.cell hAz).trans Hc.out.2.1)
                have K2 := Bw.cellOf hbx ((hbA.cell hAz).trans Hc.out.2.2)
                have i0' : (0 : Int) ≤ (k : Int) := by omega
                have i1' : (k : Int) < (l.length : Int) := by omega
                clear hx hxl
                rcases Nat.lt_trichotomy k K with hkK | hkK | hkK
                · have hc := Hcmp.out.1 k x hkK Hx.out
                  have hd : decide (K < k) = false := decide_eq_false (by omega)
                  have hd' : decide (K < k + 1) = false := decide_eq_false (by omega)
                  have Hd' := Lib.hid hd'
                  rw [hd]
                  have hcc : decide (cmpTim t x < 0) = false := decide_eq_false (by omega)
                  have Hi := Lib.hid (ins_lt (t := t) hkK Hx.out)
                  clear hd hd' hc
                  go_wp2_with fail
                  refine wp_region_quiet_below (by kernel_rfl) (by kernel_rfl) ?_
                  repeat (any_goals (go_big_quiet_step (first | (go_at_call 63; refine Calls.below_of (cmpTimS_any t x _)))))
                  refine wpQuiet_nil ?_
                  intro w4 hb4
                  have hacc4 := acc_keep Hacc.out hb4
                  have hown := hacc4.1
                  have hbb := hBA.trans (hacc4.2.mono hBA.size)
                  have hzz := hacc4.2.size
                  obtain ⟨b', off', e', _, q0', q1', q2'⟩ := (ha.keep hbb).atTimer hlt
                  injection e' with e'
                  injection e' with e1 e2
                  subst e1 e2
                  rw [Hxl.out] at q0' q1' q2'
                  have Hacc4 := Lib.hid hacc4
                  clear hacc4 hbb hb4 Q0 Q1 Q2 K0 K1 K2
                  go_wp2_with (first | (at_builtin; refine wpList_append_own _ rfl _ _ 23 rfl wA.heap.size 25 i0 _ 3 24 Try.underlying23 hi0 hz0 hz1 hz2 rfl (by decide) _ _ _ rfl (hown.alloc _) ⟨w4.heap.size, 0, none⟩ 1 1 (TimerR.enc x) rfl rfl ?c1 ?c2 ?c3 ?c4 ?c5 ?_) | go_in)
                  case c1 =>
                    intro j u hu
                    rcases j with _ | _ | _ | j <;> simp [TimerR.enc] at hu <;> subst hu <;> simp [Addr.add, go_sem]
                  case c2 => intro u hu; simp [TimerR.enc] at hu; rcases hu with rfl | rfl | rfl <;> rfl
                  case c3 => unfold maxLen; omega
                  case c4 => omega
                  case c5 => first | omega | (simp; done) | (simp; omega)
                  intro v' w6 hown' hg' _
                  have hnext := acc_push Hacc4.out ((Below.refl _ _).alloc (Nat.le_refl _) _) hown' hg'
                  rw [← Hi.out] at hnext
                  have Hn := Lib.hid hnext
                  clear hnext hown' hg' hown Hacc Hacc4 Hi
                  go_wp2
                  go_roundw
                  case rel => exact ⟨k + 1, by omega, by go_num, by rw [Hd'.out], Hn.out⟩
                  case measure => simp [intOf]; omega
                · subst hkK
                  have hc := Hcmp.out.2 k x (Nat.le_refl _) Hx.out
                  have hd : decide (k < k) = false := decide_eq_false (by omega)
                  have hd' : decide (k < k + 1) = true := decide_eq_true (by omega)
                  have Hd' := Lib.hid hd'
                  rw [hd]
                  have Hi := Lib.hid (ins_eq (t := t) Hx.out)
                  clear hd hd'
                  go_wp2_with fail
                  refine wp_region_quiet_below (by kernel_rfl) (by kernel_rfl) ?_
                  repeat (any_goals (go_big_quiet_step (first | (go_at_call 63; refine Calls.below_of (cmpTimS_any t x _)))))
                  refine wpQuiet_nil ?_
                  intro w4 hb4
                  have hacc4 := acc_keep Hacc.out hb4
                  have hown := hacc4.1
                  have hzz := hacc4.2.size
                  have hbA4 := hacc4.2
                  have p0 := (hbA4.cell hAz).trans Hc.out.1
                  have p1 := (hbA4.cell hAz).trans Hc.out.2.1
                  have p2 := (hbA4.cell hAz).trans Hc.out.2.2
                  have Hacc4 := Lib.hid hacc4
                  clear hacc4 hb4 Q0 Q1 Q2 K0 K1 K2
                  go_wp2_with (first | (at_builtin; refine wpList_append_own _ rfl _ _ 23 rfl wA.heap.size 25 i0 _ 3 24 Try.underlying23 hi0 hz0 hz1 hz2 rfl (by decide) _ _ _ rfl (hown.alloc _) ⟨w4.heap.size, 0, none⟩ 1 1 (TimerR.enc t) rfl rfl ?c1 ?c2 ?c3 ?c4 ?c5 ?_) | go_in)
                  case c1 =>
                    intro j u hu
                    rcases j with _ | _ | _ | j <;> simp [TimerR.enc] at hu <;> subst hu <;> simp [Addr.add, go_sem]
                  case c2 => intro u hu; simp [TimerR.enc] at hu; rcases hu with rfl | rfl | rfl <;> rfl
                  case c3 => unfold maxLen; omega
                  case c4 => omega
                  case c5 => first | omega | (simp; done) | (simp; omega)
                  intro v5 w6 hown5 hg5 _
                  have hacc6 := acc_push Hacc4.out ((Below.refl _ _).alloc (Nat.le_refl _) _) hown5 hg5
                  have hown6 := hacc6.1
                  have hbb := hBA.trans (hacc6.2.mono hBA.size)
                  have hzz6 := hacc6.2.size
                  obtain ⟨b', off', e', _, q0', q1', q2'⟩ := (ha.keep hbb).atTimer hlt
                  injection e' with e'
                  injection e' with e1 e2
                  subst e1 e2
                  rw [Hxl.out] at q0' q1' q2'
                  have hl6 : (insAt k t l k ++ [t]).length = (insAt k t l k).length + 1 := by simp
                  have hl6' : (insAt k t l k ++ [t]).length ≤ l.length + 2 := by omega
                  have Hacc6 := Lib.hid hacc6
                  have Hl6 := Lib.hid hl6
                  clear hacc6 hbb p0 p1 p2 hown5 hg5 hown Hacc4 hl6
                  go_wp2_with (first | (at_builtin; refine wpList_append_own _ rfl _ _ 23 rfl wA.heap.size 25 i0 _ 3 24 Try.underlying23 hi0 hz0 hz1 hz2 rfl (by decide) _ _ _ rfl (hown6.alloc _) ⟨w6.heap.size, 0, none⟩ 1 1 (TimerR.enc x) rfl rfl ?c1 ?c2 ?c3 ?c4 ?c5 ?_) | go_in)
                  case c1 =>
                    intro j u hu
                    rcases j with _ | _ | _ | j <;> simp [TimerR.enc] at hu <;> subst hu <;> simp [Addr.add, go_sem]
                  case c2 => intro u hu; simp [TimerR.enc] at hu; rcases hu with rfl | rfl | rfl <;> rfl
                  case c3 => unfold maxLen; omega
                  case c4 => omega
                  case c5 => first | omega | (simp; done) | (simp; omega)
                  intro v' w7 hown' hg' _
                  have hnext := acc_push Hacc6.out ((Below.refl _ _).alloc (Nat.le_refl _) _) (by simpa using hown') hg'
                  rw [← Hi.out] at hnext
                  have Hn := Lib.hid hnext
                  clear hnext hown' hg' hown6 Hacc Hacc6 Hi
                  go_wp2
                  go_roundw
                  case rel => exact ⟨k + 1, by omega, by go_num, by rw [Hd'.out], Hn.out⟩
                  case measure => simp [intOf]; omega
                · have hc := Hcmp.out.2 k x (by omega) Hx.out
                  have hd : decide (K < k) = true := decide_eq_true (by omega)
                  have hd' : decide (K < k + 1) = true := decide_eq_true (by omega)
                  have Hd' := Lib.hid hd'
                  rw [hd]
                  have Hi := Lib.hid (ins_gt (t := t) hkK Hx.out)
                  clear hd hd'
                  go_wp2_with fail
                  refine wp_region_quiet_below (by kernel_rfl) (by kernel_rfl) ?_
                  repeat (any_goals (go_big_quiet_step (first | (go_at_call 63; refine Calls.below_of (cmpTimS_any t x _)))))
                  refine wpQuiet_nil ?_
                  intro w4 hb4
                  have hacc4 := acc_keep Hacc.out hb4
                  have hown := hacc4.1
                  have hbb := hBA.trans (hacc4.2.mono hBA.size)
                  have hzz := hacc4.2.size
                  obtain ⟨b', off', e', _, q0', q1', q2'⟩ := (ha.keep hbb).atTimer hlt
                  injection e' with e'
                  injection e' with e1 e2
                  subst e1 e2
                  rw [Hxl.out] at q0' q1' q2'
                  have Hacc4 := Lib.hid hacc4
                  clear hacc4 hbb hb4 Q0 Q1 Q2 K0 K1 K2
                  go_wp2_with (first | (at_builtin; refine wpList_append_own _ rfl _ _ 23 rfl wA.heap.size 25 i0 _ 3 24 Try.underlying23 hi0 hz0 hz1 hz2 rfl (by decide) _ _ _ rfl (hown.alloc _) ⟨w4.heap.size, 0, none⟩ 1 1 (TimerR.enc x) rfl rfl ?c1 ?c2 ?c3 ?c4 ?c5 ?_) | go_in)
                  case c1 =>
                    intro j u hu
                    rcases j with _ | _ | _ | j <;> simp [TimerR.enc] at hu <;> subst hu <;> simp [Addr.add, go_sem]
                  case c2 => intro u hu; simp [TimerR.enc] at hu; rcases hu with rfl | rfl | rfl <;> rfl
                  case c3 => unfold maxLen; omega
                  case c4 => omega
                  case c5 => first | omega | (simp; done) | (simp; omega)
                  intro v' w6 hown' hg' _
                  have hnext := acc_push Hacc4.out ((Below.refl _ _).alloc (Nat.le_refl _) _) hown' hg'
                  rw [← Hi.out] at hnext
                  have Hn := Lib.hid hnext
                  clear hnext hown' hg' hown Hacc Hacc4 Hi
                  go_wp2
                  go_roundw
                  case rel => exact ⟨k + 1, by omega, by go_num, by rw [Hd'.out], Hn.out⟩
                  case measure => simp [intOf]; omega
              · obtain rfl : k = l.length := by omega
                by_cases hKl : K < l.length
                · have hd : decide (K < l.length) = true := decide_eq_true hKl
                  rw [hd]
                  have hfin := Hacc.out
                  rw [ins_end hKl, ← HG.out] at hfin
                  have hgl : (addG l t).length ≤ 1048576 := by rw [HG.out]; simp; omega
                  have Hf := Lib.hid (acc_up hfin hBA)
                  clear hfin hd Hacc
                  go_wp2
                  all_goals go_returns
                  all_goals (rw [HF.out.1, HF.out.2]; exact accB Hf.out hgl rfl)
                · have hd : decide (K < l.length) = false := decide_eq_false hKl
                  rw [hd]
                  have hfin := Hacc.out
                  rw [ins_none (by omega)] at hfin
                  have Hacc4 := Lib.hid hfin
                  have hown := hfin.1
                  have hgl : addG l t = l ++ [t] := by rw [HG.out, List.take_of_length_le (by omega), List.drop_of_length_le (by omega), List.append_nil]
                  have Hgl := Lib.hid hgl
                  have p0 := (hbA.cell hAz).trans Hc.out.1
                  have p1 := (hbA.cell hAz).trans Hc.out.2.1
                  have p2 := (hbA.cell hAz).trans Hc.out.2.2
                  clear hfin hd Hacc hgl
                  go_wp2_with (first | (at_builtin; refine wpList_append_own _ rfl _ _ 23 rfl wA.heap.size 25 i0 _ 3 24 Try.underlying23 hi0 hz0 hz1 hz2 rfl (by decide) _ _ _ rfl (hown.alloc _) ⟨wr.heap.size, 0, none⟩ 1 1 (TimerR.enc t) rfl rfl ?c1 ?c2 ?c3 ?c4 ?c5 ?_) | go_in)
                  case c1 =>
                    intro j u hu
                    rcases j with _ | _ | _ | j <;> simp [TimerR.enc] at hu <;> subst hu <;> simp [Addr.add, go_sem]
                  case c2 => intro u hu; simp [TimerR.enc] at hu; rcases hu with rfl | rfl | rfl <;> rfl
                  case c3 => unfold maxLen; omega
                  case c4 => omega
                  case c5 => first | omega | (simp; done) | (simp; omega)
                  intro v' w6 hown' hg' _
                  have hnext := acc_push Hacc4.out ((Below.refl _ _).alloc (Nat.le_refl _) _) hown' hg'
                  rw [← Hgl.out] at hnext
                  have Hf := Lib.hid (acc_up hnext hBA)
                  clear hnext hown' hg' hown Hacc4
                  go_wp2
                  all_goals go_returns
                  all_goals (rw [HF.out.1, HF.out.2]; exact accB Hf.out (by rw [Hgl.out]; simp; omega) rfl)
  · have HF := Lib.hid (show addF l t = [] ∧ addK l t = false by unfold addF addK; rw [if_neg hv, if_neg hv]; exact ⟨rfl, rfl⟩)
    have hbw1 := hBA.trans (hb1.mono hBA.size)
    rcases Bool.eq_false_or_eq_true (vTims l) with h1 | h1
    · have h2 : vTimB t = false := by
        rw [Bool.eq_false_iff]; intro h; exact hv ⟨h1, h⟩
      rw [h1]
      clear hv h1
      go_wp2_with fail
      refine (specValidTimer_any t _).mono ?_
      rintro e w2 ⟨rfl, hb2⟩
      rw [h2]
      have hbw2 := hbw1.trans (hb2.mono hbw1.size)
      clear h2
      go_wp2
      all_goals go_returns
      all_goals (rw [HF.out.1, HF.out.2]; exact accB (acc_none _ _ _ hbw2) (by simp) rfl)
    · rw [h1]
      clear hv h1
      go_wp2
      all_goals go_returns
      all_goals (rw [HF.out.1, HF.out.2]; exact accB (acc_none _ _ _ hbw1) (by simp) rfl)
end Go.Proofs.Ytjjjlpnbniofjab
