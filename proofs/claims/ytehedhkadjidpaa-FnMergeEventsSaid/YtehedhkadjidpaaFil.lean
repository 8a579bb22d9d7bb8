import Derived.Test.YtehedhkadjidpaaEv
namespace Go.Proofs.Ytehedhkadjidpaa
open Go.RowKit
def inV (lo hi : Int) (e : EventR) : Bool := decide (lo ≤ e.a2 ∧ e.a2 ≤ hi)
def filterF (l : List EventR) (lo hi : Int) : List EventR := if vEvs l = true then l.filter (inV lo hi) else []
theorem filter_next {α : Type} {p : α → Bool} {l : List α} {k : Nat} {x : α} (hx : l[k]? = some x) (hp : p x = true) : (l.take (k + 1)).filter p = (l.take k).filter p ++ [x] := by
  rw [List.take_add_one, hx, List.filter_append]; simp [hp]
theorem filter_skip {α : Type} {p : α → Bool} {l : List α} {k : Nat} {x : α} (hx : l[k]? = some x) (hp : p x = false) : (l.take (k + 1)).filter p = (l.take k).filter p := by
  rw [List.take_add_one, hx, List.filter_append]; simp [hp]
theorem filter_take_len {α : Type} {p : α → Bool} (l : List α) (k : Nat) : ((l.take k).filter p).length ≤ l.length :=
  Nat.le_trans (List.length_filter_le _ _) (by rw [List.length_take]; omega)
set_option maxRecDepth 100000 in
set_option maxHeartbeats 2000000 in
theorem specFilter_any (A : Option Addr) (c : Nat) (l : List EventR) (lo hi : Int) (w : World) (ha : Row EventR.enc 3 w A l) :
    Calls Try.prog 36 #[.slice A l.length c, .int .i64 lo, .int .i64 hi] w (OwnPost EventR.enc 3 32 w (filterF l lo hi)) := by
  have hal := ha.1
  obtain ⟨i0, hi0, hz0, hz1, hz2⟩ := info_parts EventR.zero_info
  have hst := acc_made EventR.enc 3 32 (Below.refl w.heap.size w)
  have Hst := Lib.hid hst
  clear hst
  go_enter Try.func36, Try.ntmps36
  go_wp2_with fail
  refine (specValidEvents_any A c l _ (ha.keep ((Below.refl _ _).alloc (Nat.le_refl _) _))).mono ?_
  rintro e w1 ⟨rfl, hb1⟩
  have hacc := acc_keep Hst.out hb1
  have Hacc := Lib.hid hacc
  clear hacc Hst
  rcases Bool.eq_false_or_eq_true (vEvs l) with hv | hv
  · have hF : filterF l lo hi = l.filter (inV lo hi) := by unfold filterF; rw [if_pos hv]
    have HF := Lib.hid hF
    rw [hv]
    clear hF hv
    have hbw : Below w.heap.size w w1 := Hacc.out.2
    clear hb1
    go_wp2
    go_loopw [7, 8] (fun v i wr => ∃ k : Nat, k ≤ l.length ∧ i = .int .i64 k ∧ Acc EventR.enc 3 32 w ((l.take k).filter (inV lo hi)) v wr) (fun _ i _ => l.length - (intOf i).toNat)
    case atStart => exact ⟨0, Nat.zero_le _, rfl, by simpa using Hacc.out⟩
    case round =>
      obtain ⟨k, hk, rfl, hacc⟩ := hrel
      clear Hacc
      have Hacc := Lib.hid hacc
      have hbw := hacc.2
      clear hacc
      by_cases hlt : k < l.length
      · obtain ⟨b, off, rfl, _, q0, q1, q2⟩ := (ha.keep hbw).atEvent hlt
        have hx := List.getElem?_eq_getElem hlt
        generalize l[k] = x at *
        have Hx := Lib.hid hx
        clear hx ha hbw
        by_cases hp : lo ≤ x.a2 ∧ x.a2 ≤ hi
        · have hin : inV lo hi x = true := by unfold inV; exact decide_eq_true hp
          have hfn := filter_next Hx.out hin
          have hfl := filter_take_len (p := inV lo hi) l k
          have Hfn := Lib.hid hfn
          obtain ⟨p1, p2⟩ := hp
          clear hin hfn
          have hown := Hacc.out.1
          go_wp2_with (first | (at_builtin; refine wpList_append_own _ rfl _ _ 24 rfl w.heap.size 32 i0 _ 3 24 Try.underlying24 hi0 hz0 hz1 hz2 rfl (by decide) _ _ _ rfl (hown.alloc _) ⟨wr.heap.size, 0, none⟩ 1 1 (EventR.enc x) rfl rfl ?c1 ?c2 ?c3 ?c4 ?c5 ?_) | go_in)
          case c1 =>
            intro j u hu
            rcases j with _ | _ | _ | j <;> simp [EventR.enc] at hu <;> subst hu <;> simp [Addr.add, go_sem]
          case c2 => intro u hu; simp [EventR.enc] at hu; rcases hu with rfl | rfl | rfl <;> rfl
          case c3 => unfold maxLen; omega
          case c4 => omega
          case c5 => have := Hacc.out.2.size; simp; omega
          intro v' w2 hown' hg' _
          have hnext := acc_push Hacc.out ((Below.refl _ _).alloc (Nat.le_refl _) _) hown' hg'
          rw [← Hfn.out] at hnext
          have Hn := Lib.hid hnext
          clear hnext hown' hg' hown Hacc Hfn
          go_wp2
          go_roundw
          case rel => exact ⟨k + 1, by omega, by go_num, Hn.out⟩
          case measure => simp [intOf]; omega
        · have hin : inV lo hi x = false := by unfold inV; exact decide_eq_false hp
          have hfs := filter_skip Hx.out hin
          have hnext := Hacc.out
          rw [← hfs] at hnext
          have Hn := Lib.hid hnext
          clear hnext hfs hin Hacc
          go_wp2
          all_goals first | (exfalso; omega) | skip
          all_goals
            go_roundw
            case rel => exact ⟨k + 1, by omega, by go_num, Hn.out⟩
            case measure => simp [intOf]; omega
      · have hkl : l.take k = l := List.take_of_length_le (by omega)
        have hfin := Hacc.out
        rw [hkl] at hfin
        have Hfin := Lib.hid hfin
        have hlen : (l.filter (inV lo hi)).length ≤ l.length := List.length_filter_le _ _
        clear hfin hkl Hacc
        go_wp2
        all_goals go_returns
        all_goals (rw [HF.out]; exact acc_post Hfin.out (by omega))
  · have hF : filterF l lo hi = [] := by unfold filterF; rw [if_neg (by simp [hv])]
    have HF := Lib.hid hF
    rw [hv]
    clear hF hv
    have hB : Below w.heap.size w w1 := Hacc.out.2
    go_wp2
    all_goals go_returns
    all_goals (rw [HF.out]; exact acc_post (acc_none _ _ _ hB) (by simp))
set_option maxRecDepth 100000 in
set_option maxHeartbeats 2000000 in
theorem implFilter_any (A : Option Addr) (c : Nat) (l : List EventR) (lo hi : Int) (w : World) (ha : Row EventR.enc 3 w A l) :
    Calls Try.prog 35 #[.slice A l.length c, .int .i64 lo, .int .i64 hi] w (OwnPost EventR.enc 3 32 w (filterF l lo hi)) := by
  have hal := ha.1
  obtain ⟨i0, hi0, hz0, hz1, hz2⟩ := info_parts EventR.zero_info
  go_enter Try.func35, Try.ntmps35
  go_wp2_with fail
  refine (implValidEvents_any A c l _ ha).mono ?_
  rintro e w1 ⟨rfl, hb1⟩
  have hacc := acc_none EventR.enc 3 32 hb1
  have Hacc := Lib.hid hacc
  clear hacc
  rcases Bool.eq_false_or_eq_true (vEvs l) with hv | hv
  · have hF : filterF l lo hi = l.filter (inV lo hi) := by unfold filterF; rw [if_pos hv]
    have HF := Lib.hid hF
    rw [hv]
    clear hF hv
    have hbw : Below w.heap.size w w1 := Hacc.out.2
    clear hb1
    go_wp2
    go_loopw [7, 15] (fun v i wr => ∃ k : Nat, k ≤ l.length ∧ i = .int .i64 k ∧ Acc EventR.enc 3 32 w ((l.take k).filter (inV lo hi)) v wr) (fun _ i _ => l.length - (intOf i).toNat)
    case atStart => exact ⟨0, Nat.zero_le _, rfl, by simpa using Hacc.out⟩
    case round =>
      obtain ⟨k, hk, rfl, hacc⟩ := hrel
      clear Hacc
      have Hacc := Lib.hid hacc
      have hbw := hacc.2
      clear hacc
      by_cases hlt : k < l.length
      · obtain ⟨b, off, rfl, _, q0, q1, q2⟩ := (ha.keep hbw).atEvent hlt
        have hx := List.getElem?_eq_getElem hlt
        generalize l[k] = x at *
        have Hx := Lib.hid hx
        clear hx ha hbw
        by_cases hp : lo ≤ x.a2 ∧ x.a2 ≤ hi
        · have hin : inV lo hi x = true := by unfold inV; exact decide_eq_true hp
          have hfn := filter_next Hx.out hin
          have hfl := filter_take_len (p := inV lo hi) l k
          have Hfn := Lib.hid hfn
          obtain ⟨p1, p2⟩ := hp
          clear hin hfn
          have hown := Hacc.out.1
          go_wp2_with (first | (at_builtin; refine wpList_append_own _ rfl _ _ 24 rfl w.heap.size 32 i0 _ 3 24 Try.underlying24 hi0 hz0 hz1 hz2 rfl (by decide) _ _ _ rfl ((hown.alloc _).alloc _) ⟨wr.heap.size + 1, 0, none⟩ 1 1 (EventR.enc x) rfl rfl ?c1 ?c2 ?c3 ?c4 ?c5 ?_) | go_in)
          case c1 =>
            intro j u hu
            rcases j with _ | _ | _ | j <;> simp [EventR.enc] at hu <;> subst hu <;> simp [Addr.add, go_sem]
          case c2 => intro u hu; simp [EventR.enc] at hu; rcases hu with rfl | rfl | rfl <;> rfl
          case c3 => unfold maxLen; omega
          case c4 => omega
          case c5 => have := Hacc.out.2.size; simp; omega
          intro v' w2 hown' hg' _
          have hnext := acc_push Hacc.out (((Below.refl _ _).alloc (Nat.le_refl _) _).alloc (by simp) _) hown' hg'
          rw [← Hfn.out] at hnext
          have Hn := Lib.hid hnext
          clear hnext hown' hg' hown Hacc Hfn
          go_wp2
          go_roundw
          case rel => exact ⟨k + 1, by omega, by go_num, Hn.out⟩
          case measure => simp [intOf]; omega
        · have hin : inV lo hi x = false := by unfold inV; exact decide_eq_false hp
          have hfs := filter_skip Hx.out hin
          have hnext := acc_keep Hacc.out ((Below.refl _ _).alloc (Nat.le_refl _) (.cells #[.int .i64 x.a0, .int .i64 x.a1, .int .i64 x.a2] 32))
          rw [← hfs] at hnext
          have Hn := Lib.hid hnext
          clear hnext hfs hin Hacc
          go_wp2
          all_goals first | (exfalso; omega) | skip
          all_goals
            go_roundw
            case rel => exact ⟨k + 1, by omega, by go_num, Hn.out⟩
            case measure => simp [intOf]; omega
      · have hkl : l.take k = l := List.take_of_length_le (by omega)
        have hfin := Hacc.out
        rw [hkl] at hfin
        have Hfin := Lib.hid hfin
        have hlen : (l.filter (inV lo hi)).length ≤ l.length := List.length_filter_le _ _
        clear hfin hkl Hacc
        go_wp2
        all_goals go_returns
        all_goals (rw [HF.out]; exact acc_post Hfin.out (by omega))
  · have hF : filterF l lo hi = [] := by unfold filterF; rw [if_neg (by simp [hv])]
    have HF := Lib.hid hF
    rw [hv]
    clear hF hv
    have hB : Below w.heap.size w w1 := Hacc.out.2
    go_wp2
    all_goals go_returns
    all_goals (rw [HF.out]; exact acc_post (acc_none _ _ _ hB) (by simp))
end Go.Proofs.Ytehedhkadjidpaa
