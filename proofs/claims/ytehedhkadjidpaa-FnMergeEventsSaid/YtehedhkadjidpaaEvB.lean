import Derived.Test.YtehedhkadjidpaaEvA
import Derived.Test.YtehedhkadjidpaaApp
import Derived.Test.YtehedhkadjidpaaTyInt
namespace Go.Proofs.Ytehedhkadjidpaa
open Go.RowKit
set_option maxHeartbeats 1000000 in
theorem lawIsIn_b (A : Option Addr) (c : Nat) (l : List Int) (f : Int) (v : Bool) (hv : decide (f ∈ l) = v) (w : World) (ha : Row IntR.enc 1 w A l) :
    Calls Try.prog 44 #[.slice A l.length c, .int .i64 f] w fun e w' => e = .returned (.bool v) ∧ w = w' := by
  subst hv
  have hal := ha.1
  go_enter Try.func44, Try.ntmps44
  go_wp2
  go_loop [5] (fun i => ∃ k : Nat, k ≤ l.length ∧ i = .int .i64 k ∧ decide (f ∈ l.drop k) = decide (f ∈ l)) (fun i => l.length - (intOf i).toNat)
  case atStart => exact ⟨0, Nat.zero_le _, rfl, rfl⟩
  case round =>
    obtain ⟨k, hk, rfl, he⟩ := hrel
    have He := Lib.hid he
    clear he
    by_cases hlt : k < l.length
    · obtain ⟨b, off, rfl, hblt, q0⟩ := ha.atInt hlt
      have hd : l.drop k = l[k] :: l.drop (k + 1) := List.drop_eq_getElem_cons hlt
      generalize l[k] = x at *
      have Hd := Lib.hid hd
      clear hd ha
      by_cases h1 : x = f
      · have Hn := Lib.hid (show true = decide (f ∈ l) by rw [← He.out, Hd.out, h1]; simp)
        go_wp2
        all_goals go_returns
        all_goals exact ⟨ret_bool Hn.out, rfl⟩
      · have Hn := Lib.hid (show decide (f ∈ l.drop (k + 1)) = decide (f ∈ l) by rw [← He.out, Hd.out]; simp [Ne.symm h1])
        have h1' : (x == f) = false := by simp [h1]
        go_wp2
        go_round
        case rel => exact ⟨k + 1, by omega, by go_num, Hn.out⟩
        case measure => simp [intOf]; omega
    · have Hn := Lib.hid (show false = decide (f ∈ l) by rw [← He.out, List.drop_of_length_le (by omega)]; rfl)
      go_wp2
      all_goals go_returns
      all_goals exact ⟨ret_bool Hn.out, rfl⟩
set_option maxRecDepth 100000 in
set_option maxHeartbeats 2000000 in
theorem reversed_any (A : Option Addr) (c : Nat) (l : List EventR) (w : World) (ha : Row EventR.enc 3 w A l) (hcap : l.length ≤ 1000000) :
    Calls Try.prog 29 #[.slice A l.length c] w (OwnPost EventR.enc 3 32 w l.reverse) := by
  have hal := ha.1
  obtain ⟨i0, hi0, hz0, hz1, hz2⟩ := info_parts EventR.zero_info
  have hst := acc_made EventR.enc 3 32 (Below.refl w.heap.size w)
  have Hst := Lib.hid hst
  clear hst
  go_enter Try.func29, Try.ntmps29
  go_wp2
  go_loopw [3, 4] (fun v i wr => ∃ k : Nat, k ≤ l.length ∧ i = .int .i64 ((l.length : Int) - (k : Int) - 1) ∧ Acc EventR.enc 3 32 w (l.reverse.take k) v wr) (fun _ i _ => (intOf i + 1).toNat)
  case atStart => exact ⟨0, Nat.zero_le _, val_int (by omega), by simpa using Hst.out⟩
  case round =>
    obtain ⟨k, hk, rfl, hacc⟩ := hrel
    clear Hst
    have Hacc := Lib.hid hacc
    have hbw := hacc.2
    clear hacc
    by_cases hlt : k < l.length
    · have hkr : k < l.reverse.length := by rw [List.length_reverse]; exact hlt
      have hx : l.reverse[k]? = some (l[l.length - 1 - k]'(by omega)) := by rw [List.getElem?_eq_getElem hkr, List.getElem_reverse]
      obtain ⟨b, off, rfl, hblt, q0, q1, q2⟩ := (ha.keep hbw).atEvent (i := l.length - 1 - k) (by omega)
      generalize l[l.length - 1 - k]'(by omega) = x at *
      have htn : l.reverse.take (k + 1) = l.reverse.take k ++ [x] := by rw [List.take_add_one, hx]; rfl
      have hfl : (l.reverse.take k).length ≤ l.length := Nat.le_trans (List.length_take_le' _ _) (by rw [List.length_reverse]; exact Nat.le_refl _)
      have Htn := Lib.hid htn
      clear htn hx ha hbw
      have hp0 : (0 : Int) ≤ (l.length : Int) - (k : Int) - 1 := by omega
      have hp1 : (l.length : Int) - (k : Int) - 1 < (l.length : Int) := by omega
      have hp2 : ((l.length : Int) - (k : Int) - 1).toNat = l.length - 1 - k := by omega
      have hown := Hacc.out.1
      go_wp2_with (first | (at_builtin; refine wpList_append_own _ rfl _ _ 24 rfl w.heap.size 32 i0 _ 3 24 Try.underlying24 hi0 hz0 hz1 hz2 rfl (by decide) _ _ _ rfl (hown.alloc _) ⟨wr.heap.size, 0, none⟩ 1 1 (EventR.enc x) rfl rfl ?c1 ?c2 ?c3 ?c4 ?c5 ?_) | fail)
      case c1 =>
        intro j u hu
        rcases j with _ | _ | _ | j <;> simp [EventR.enc] at hu <;> subst hu <;> simp [Addr.add, go_sem]
      case c2 => intro u hu; simp [EventR.enc] at hu; rcases hu with rfl | rfl | rfl <;> rfl
      case c3 => unfold maxLen; omega
      case c4 => omega
      case c5 => have := Hacc.out.2.size; simp; omega
      intro v' w2 hown' hg' _
      rw [show k + 1 = (l.reverse.take k).length + 1 by simp; omega] at hown'
      have hnext := acc_push Hacc.out ((Below.refl _ _).alloc (Nat.le_refl _) _) hown' hg'
      rw [← Htn.out] at hnext
      have Hn := Lib.hid hnext
      clear hnext hown' hg' hown Hacc Htn
      go_wp2
      go_roundw
      case rel => exact ⟨k + 1, by omega, val_int (by omega), Hn.out⟩
      case measure => simp [intOf]; omega
    · obtain rfl : k = l.length := by omega
      have hkl : l.reverse.take l.length = l.reverse := List.take_of_length_le (by rw [List.length_reverse]; exact Nat.le_refl _)
      have hfin := Hacc.out
      rw [hkl] at hfin
      have Hfin := Lib.hid hfin
      clear hfin hkl Hacc
      go_wp2
      all_goals go_returns
      all_goals exact acc_post Hfin.out (by rw [List.length_reverse]; omega)
set_option maxRecDepth 100000 in
set_option maxHeartbeats 1000000 in
theorem joined_any (A : Option Addr) (c : Nat) (l : List EventR) (A2 : Option Addr) (c2 : Nat) (m : List EventR) (w : World) (ha : Row EventR.enc 3 w A l) (hb : Row EventR.enc 3 w A2 m) (hlen : l.length + m.length ≤ 1048576) :
    Calls Try.prog 33 #[.slice A l.length c, .slice A2 m.length c2] w (OwnPost EventR.enc 3 32 w (l ++ m)) := by
  have hal := ha.1
  obtain ⟨j0, hj0, hy0, hy1, hy2⟩ := info_parts EventR.zero_info
  have Hacc0 := Lib.hid (acc_made EventR.enc 3 32 (Below.refl w.heap.size w))
  have bA0 : Below w.heap.size w (w.alloc (.cells #[] 32)) := (Below.refl _ _).alloc (Nat.le_refl _) _
  go_enter Try.func33, Try.ntmps33
  go_wp2_with (first | (at_builtin; (refine wpList_append_row rfl _ _ 24 rfl j0 _ 24 Try.underlying24 hj0 hy0 hy1 hy2 rfl (by decide) (by decide) _ [] rfl Hacc0.out A l.length c l rfl rfl (ha.keep bA0) EventR.enc_len (by intro x u hu; simp [EventR.enc] at hu; rcases hu with rfl | rfl | rfl <;> rfl) (by simp; omega) ?_); intro v1 y1 hacc1 _ _; rw [List.nil_append] at hacc1; have hb1 := hacc1.2) | (at_builtin; (refine wpList_append_row rfl _ _ 24 rfl j0 _ 24 Try.underlying24 hj0 hy0 hy1 hy2 rfl (by decide) (by decide) _ l rfl hacc1 A2 m.length c2 m rfl rfl (hb.keep hb1) EventR.enc_len (by intro x u hu; simp [EventR.enc] at hu; rcases hu with rfl | rfl | rfl <;> rfl) (by omega) ?_); intro v2 y2 hacc2 _ _) | fail)
  all_goals go_returns
  all_goals exact acc_post hacc2 (by rw [List.length_append]; exact hlen)
set_option maxHeartbeats 1000000 in
theorem total_any (A : Option Addr) (c : Nat) (l : List EventR) (w : World) (ha : Row EventR.enc 3 w A l) (hv : vEvs l = true) :
    Calls Try.prog 31 #[.slice A l.length c] w fun e w' => e = .returned (.int .i64 (totV l)) ∧ Below w.heap.size w w' := by
  have hal := ha.1
  have Hv := Lib.hid hv
  clear hv
  go_enter Try.func31, Try.ntmps31
  go_wp2
  go_loopw [3, 4] (fun n i wr => ∃ k : Nat, k ≤ l.length ∧ i = .int .i64 k ∧ n = .int .i64 (totV (l.take k)) ∧ Below w.heap.size w wr) (fun _ i _ => l.length - (intOf i).toNat)
  case atStart => exact ⟨0, Nat.zero_le _, rfl, rfl, Below.refl _ _⟩
  case round =>
    obtain ⟨k, hk, rfl, rfl, hbw⟩ := hrel
    have hT := totV_ok Hv.out k
    by_cases hlt : k < l.length
    · obtain ⟨b, off, rfl, hblt, q0, q1, q2⟩ := (ha.keep hbw).atEvent hlt
      have hxm : l[k] ∈ l := List.getElem_mem hlt
      have hval := vEvs_val Hv.out _ hxm
      have hx : l[k]? = some l[k] := List.getElem?_eq_getElem hlt
      have hn := totV_next hx
      generalize l[k] = x at *
      generalize totV (l.take k) = T at *
      have Hn := Lib.hid hn
      clear hn hx hxm ha
      go_wp2
      go_roundw
      case rel => exact ⟨k + 1, by omega, by go_num, by rw [Hn.out], hbw⟩
      case measure => simp [intOf]; omega
    · have hkl : l.take k = l := List.take_of_length_le (by omega)
      rw [hkl]
      clear hkl
      go_wp2
      all_goals go_returns
      all_goals exact ⟨rfl, hbw⟩
end Go.Proofs.Ytehedhkadjidpaa
