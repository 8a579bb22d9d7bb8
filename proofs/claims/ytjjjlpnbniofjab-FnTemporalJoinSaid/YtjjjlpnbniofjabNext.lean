import Derived.Test.YtjjjlpnbniofjabTm2
namespace Go.Proofs.Ytjjjlpnbniofjab
open Go.RowKit
def nextG (l : List TimerR) (key : Int) : Int := match l.find? (fun t => decide (t.a1 = key)) with | some t => t.a0 | none => -1
def nextF (l : List TimerR) (key : Int) : Int := if vTims l = true then nextG l key else -1
theorem next_at {l : List TimerR} {key : Int} {k : Nat} {x : TimerR} (h : (l.take k).all (fun t => !decide (t.a1 = key)) = true) (hx : l[k]? = some x) (hp : x.a1 = key) : nextG l key = x.a0 := by
  unfold nextG
  have e : l.find? (fun t => decide (t.a1 = key)) = some x := by
    have hl : l = l.take k ++ l.drop k := (List.take_append_drop k l).symm
    have hd : l.drop k = x :: l.drop (k + 1) := by
      obtain ⟨hk, rfl⟩ := List.getElem?_eq_some_iff.1 hx
      exact List.drop_eq_getElem_cons hk
    rw [hl, hd, List.find?_append]
    have h1 : (l.take k).find? (fun t => decide (t.a1 = key)) = none := by
      rw [List.find?_eq_none]
      intro y hy
      have := List.all_eq_true.1 h y hy
      simpa using this
    rw [h1]
    simp [hp]
  rw [e]
theorem next_none {l : List TimerR} {key : Int} (h : l.all (fun t => !decide (t.a1 = key)) = true) : nextG l key = -1 := by
  unfold nextG
  have e : l.find? (fun t => decide (t.a1 = key)) = none := by
    rw [List.find?_eq_none]
    intro y hy
    have := List.all_eq_true.1 h y hy
    simpa using this
  rw [e]
set_option maxRecDepth 100000 in
set_option maxHeartbeats 2000000 in
theorem specNext_any (A : Option Addr) (c : Nat) (l : List TimerR) (key : Int) (w : World) (ha : Row TimerR.enc 3 w A l) :
    Calls Try.prog 27 #[.slice A l.length c, .int .i64 key] w fun e w' => e = .returned (.int .i64 (nextF l key)) ∧ Below w.heap.size w w' := by
  have hal := ha.1
  rcases Bool.eq_false_or_eq_true (vTims l) with hv | hv
  · have hF : nextF l key = nextG l key := by unfold nextF; rw [hv, if_pos rfl]
    have HF := Lib.hid hF
    have Hv := Lib.hid hv
    clear hF hv
    go_enter Try.func27, Try.ntmps27
    go_wp2_with fail
    refine (specTims_any A c l w ha).mono ?_
    rintro e w1 ⟨rfl, hb1⟩
    rw [Hv.out]
    go_wp2
    go_loopw [5] (fun i wr => ∃ k : Nat, k ≤ l.length ∧ i = .int .i64 k ∧ (l.take k).all (fun t => !decide (t.a1 = key)) = true ∧ Below w.heap.size w wr) (fun i _ => l.length - (intOf i).toNat)
    case atStart => exact ⟨0, Nat.zero_le _, rfl, by simp, hb1⟩
    case round =>
      clear hb1
      obtain ⟨k, hk, rfl, hall, hbw⟩ := hrel
      have Hall := Lib.hid hall
      clear hall
      by_cases hlt : k < l.length
      · obtain ⟨b, off, rfl, hblt, q0, q1, q2⟩ := (ha.keep hbw).atTimer hlt
        have hx := List.getElem?_eq_getElem hlt
        generalize l[k] = x at *
        have Hx := Lib.hid hx
        clear hx ha
        by_cases hp : x.a1 = key
        · have hn : nextG l key = x.a0 := next_at Hall.out Hx.out hp
          have Hn := Lib.hid hn
          have hd : (x.a1 == key) = true := by simp [hp]
          have Hp := Lib.hid hp
          clear hn hp
          go_wp2
          all_goals first | (go_returns; exact ⟨ret_int (by rw [HF.out, Hn.out]), by first | exact hbw | exact hbw.trans ((Below.refl _ _).alloc (Nat.le_refl _) _ |>.mono hbw.size)⟩) | (exfalso; have := Hp.out; simp_all)
        · have hn := all_next (p := fun t => !decide (t.a1 = key)) Hall.out Hx.out (by simp [hp])
          have Hn := Lib.hid hn
          have hd : (x.a1 == key) = false := by simp [hp]
          clear hn hp
          go_wp2
          all_goals
            go_roundw
            case rel => exact ⟨k + 1, by omega, by go_num, Hn.out, by first | exact hbw | exact hbw.trans ((Below.refl _ _).alloc (Nat.le_refl _) _ |>.mono hbw.size)⟩
            case measure => simp [intOf]; omega
      · have hn : nextG l key = -1 := by
          have h := Hall.out
          rw [List.take_of_length_le (by omega)] at h
          exact next_none h
        have Hn := Lib.hid hn
        clear hn
        go_wp2
        all_goals go_returns
        all_goals exact ⟨ret_int (by rw [HF.out, Hn.out]), hbw⟩
  · have hF : nextF l key = -1 := by unfold nextF; rw [hv]; simp
    have HF := Lib.hid hF
    have Hv := Lib.hid hv
    clear hF hv
    go_enter Try.func27, Try.ntmps27
    go_wp2_with fail
    refine (specTims_any A c l w ha).mono ?_
    rintro e w1 ⟨rfl, hb1⟩
    rw [Hv.out]
    go_wp2
    all_goals go_returns
    all_goals exact ⟨ret_int HF.out.symm, hb1⟩
set_option maxRecDepth 100000 in
set_option maxHeartbeats 2000000 in
theorem implNext_any (A : Option Addr) (c : Nat) (l : List TimerR) (key : Int) (w : World) (ha : Row TimerR.enc 3 w A l) :
    Calls Try.prog 26 #[.slice A l.length c, .int .i64 key] w fun e w' => e = .returned (.int .i64 (nextF l key)) ∧ Below w.heap.size w w' := by
  have hal := ha.1
  rcases Bool.eq_false_or_eq_true (vTims l) with hv | hv
  · have hF : nextF l key = nextG l key := by unfold nextF; rw [hv, if_pos rfl]
    have HF := Lib.hid hF
    have Hv := Lib.hid hv
    clear hF hv
    go_enter Try.func26, Try.ntmps26
    go_wp2_with fail
    refine (implTims_any A c l w ha).mono ?_
    rintro e w1 ⟨rfl, hb1⟩
    rw [Hv.out]
    go_wp2
    go_loopw [12] (fun i wr => ∃ k : Nat, k ≤ l.length ∧ i = .int .i64 k ∧ (l.take k).all (fun t => !decide (t.a1 = key)) = true ∧ Below w.heap.size w wr) (fun i _ => l.length - (intOf i).toNat)
    case atStart => exact ⟨0, Nat.zero_le _, rfl, by simp, hb1⟩
    case round =>
      clear hb1
      obtain ⟨k, hk, rfl, hall, hbw⟩ := hrel
      have Hall := Lib.hid hall
      clear hall
      by_cases hlt : k < l.length
      · obtain ⟨b, off, rfl, hblt, q0, q1, q2⟩ := (ha.keep hbw).atTimer hlt
        have hx := List.getElem?_eq_getElem hlt
        generalize l[k] = x at *
        have Hx := Lib.hid hx
        clear hx ha
        by_cases hp : x.a1 = key
        · have hn : nextG l key = x.a0 := next_at Hall.out Hx.out hp
          have Hn := Lib.hid hn
          have hd : (x.a1 == key) = true := by simp [hp]
          have Hp := Lib.hid hp
          clear hn hp
          go_wp2
          all_goals first | (go_returns; exact ⟨ret_int (by rw [HF.out, Hn.out]), by first | exact hbw | exact hbw.trans ((Below.refl _ _).alloc (Nat.le_refl _) _ |>.mono hbw.size)⟩) | (exfalso; have := Hp.out; simp_all)
        · have hn := all_next (p := fun t => !decide (t.a1 = key)) Hall.out Hx.out (by simp [hp])
          have Hn := Lib.hid hn
          have hd : (x.a1 == key) = false := by simp [hp]
          clear hn hp
          go_wp2
          all_goals
            go_roundw
            case rel => exact ⟨k + 1, by omega, by go_num, Hn.out, by first | exact hbw | exact hbw.trans ((Below.refl _ _).alloc (Nat.le_refl _) _ |>.mono hbw.size)⟩
            case measure => simp [intOf]; omega
      · have hn : nextG l key = -1 := by
          have h := Hall.out
          rw [List.take_of_length_le (by omega)] at h
          exact next_none h
        have Hn := Lib.hid hn
        clear hn
        go_wp2
        all_goals go_returns
        all_goals exact ⟨ret_int (by rw [HF.out, Hn.out]), hbw⟩
  · have hF : nextF l key = -1 := by unfold nextF; rw [hv]; simp
    have HF := Lib.hid hF
    have Hv := Lib.hid hv
    clear hF hv
    go_enter Try.func26, Try.ntmps26
    go_wp2_with fail
    refine (implTims_any A c l w ha).mono ?_
    rintro e w1 ⟨rfl, hb1⟩
    rw [Hv.out]
    go_wp2
    all_goals go_returns
    all_goals exact ⟨ret_int HF.out.symm, hb1⟩
end Go.Proofs.Ytjjjlpnbniofjab
