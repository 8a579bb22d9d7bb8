import Derived.Test.YtcpjidbinhfapabItR
import Derived.Test.YtcpjidbinhfapabInR
import Derived.Test.YtcpjidbinhfapabApp
import Derived.Test.YtcpjidbinhfapabBoxB
import Derived.Deep.RegionHeld3
namespace Go.Proofs.Ytcpjidbinhfapab
open Go.RowKit
def itB (x : ItemR) : Bool := decide ((x.a0 = 0 ∧ 0 ≤ x.a1 ∧ x.a1 ≤ 3000) ∨ (x.a0 = 1 ∧ -1 ≤ x.a1 ∧ x.a1 ≤ 3000) ∨ (x.a0 = 2 ∧ 1 ≤ x.a1 ∧ x.a1 ≤ 99))
def itsB (l : List ItemR) (m : Int) : Bool := l.all itB && decide ((l.length : Int) ≤ m)
def chB (x y : Int) (l : List ItemR) : Bool := decide (1 ≤ x ∧ x ≤ 8) && (decide (0 ≤ y ∧ y ≤ x - (l.length : Int)) && l.all itB)
theorem chB_parts {x y : Int} {l : List ItemR} (h : chB x y l = true) : 1 ≤ x ∧ x ≤ 8 ∧ 0 ≤ y ∧ y ≤ x - (l.length : Int) ∧ l.all itB = true := by
  unfold chB at h
  rw [Bool.and_eq_true, Bool.and_eq_true, decide_eq_true_eq, decide_eq_true_eq] at h
  exact ⟨h.1.1, h.1.2, h.2.1.1, h.2.1.2, h.2.2⟩
theorem irS_any (x lo hi : Int) (w : World) : Calls Try.prog 42 #[.int .i64 x, .int .i64 lo, .int .i64 hi] w fun e w' => e = .returned (.bool (decide (lo ≤ x) && decide (x ≤ hi))) ∧ w = w' := by
  rw [← Bool.decide_and]
  by_cases h : lo ≤ x ∧ x ≤ hi
  · rw [decide_eq_true h]; exact inRS_t x lo hi w h.1 h.2
  · rw [decide_eq_false h]; exact inRS_f x lo hi w h
theorem irI_any (x lo hi : Int) (w : World) : Calls Try.prog 41 #[.int .i64 x, .int .i64 lo, .int .i64 hi] w fun e w' => e = .returned (.bool (decide (lo ≤ x) && decide (x ≤ hi))) ∧ w = w' := by
  rw [← Bool.decide_and]
  by_cases h : lo ≤ x ∧ x ≤ hi
  · rw [decide_eq_true h]; exact inRI_t x lo hi w h.1 h.2
  · rw [decide_eq_false h]; exact inRI_f x lo hi w h
set_option maxHeartbeats 1000000 in
theorem specItV_any (x : ItemR) (w : World) : Calls Try.prog 49 #[.agg #[.int .i64 x.a0, .int .i64 x.a1]] w
    fun e w' => e = .returned (.bool (itB x)) ∧ Below w.heap.size w w' := by
  obtain ⟨k, n⟩ := x
  have hk : k = 0 ∨ k = 1 ∨ k = 2 ∨ (k ≠ 0 ∧ k ≠ 1 ∧ k ≠ 2) := by omega
  rcases hk with rfl | rfl | rfl | ⟨k0, k1, k2⟩
  · have hF : itB ⟨0, n⟩ = decide (0 ≤ n ∧ n ≤ 3000) := by unfold itB; exact decide_eq_decide.2 (by simp)
    rw [hF]
    clear hF
    go_enter Try.func49, Try.ntmps49
    go_wp2
    all_goals go_returns
    all_goals exact ⟨ret_bool (by first | rfl | (symm; rw [decide_eq_true_eq]; omega) | (symm; rw [decide_eq_false_iff_not]; omega) | (rw [Bool.eq_iff_iff]; simp; done) | (rw [Bool.eq_iff_iff]; simp; omega)), by go_grown⟩
  · have hF : itB ⟨1, n⟩ = decide (-1 ≤ n ∧ n ≤ 3000) := by unfold itB; exact decide_eq_decide.2 (by simp)
    rw [hF]
    clear hF
    go_enter Try.func49, Try.ntmps49
    go_wp2
    all_goals go_returns
    all_goals exact ⟨ret_bool (by first | rfl | (symm; rw [decide_eq_true_eq]; omega) | (symm; rw [decide_eq_false_iff_not]; omega) | (rw [Bool.eq_iff_iff]; simp; done) | (rw [Bool.eq_iff_iff]; simp; omega)), by go_grown⟩
  · have hF : itB ⟨2, n⟩ = decide (1 ≤ n ∧ n ≤ 99) := by unfold itB; exact decide_eq_decide.2 (by simp)
    rw [hF]
    clear hF
    go_enter Try.func49, Try.ntmps49
    go_wp2
    all_goals go_returns
    all_goals exact ⟨ret_bool (by first | rfl | (symm; rw [decide_eq_true_eq]; omega) | (symm; rw [decide_eq_false_iff_not]; omega) | (rw [Bool.eq_iff_iff]; simp; done) | (rw [Bool.eq_iff_iff]; simp; omega)), by go_grown⟩
  · have hF : itB ⟨k, n⟩ = false := by unfold itB; rw [decide_eq_false_iff_not]; simp; omega
    rw [hF]
    have e0 : (k == 0) = false := by simp [k0]
    have e1 : (k == 1) = false := by simp [k1]
    have e2 : (k == 2) = false := by simp [k2]
    clear hF k0 k1 k2
    go_enter Try.func49, Try.ntmps49
    go_wp2
    all_goals go_returns
    all_goals exact ⟨rfl, by go_grown⟩
set_option maxHeartbeats 1000000 in
theorem implItV_any (x : ItemR) (w : World) : Calls Try.prog 44 #[.agg #[.int .i64 x.a0, .int .i64 x.a1]] w
    fun e w' => e = .returned (.bool (itB x)) ∧ Below w.heap.size w w' := by
  obtain ⟨k, n⟩ := x
  have hk : k = 0 ∨ k = 1 ∨ k = 2 ∨ (k ≠ 0 ∧ k ≠ 1 ∧ k ≠ 2) := by omega
  rcases hk with rfl | rfl | rfl | ⟨k0, k1, k2⟩
  · have hF : itB ⟨0, n⟩ = decide (0 ≤ n ∧ n ≤ 3000) := by unfold itB; exact decide_eq_decide.2 (by simp)
    rw [hF]
    clear hF
    go_enter Try.func44, Try.ntmps44
    go_wp2
    all_goals go_returns
    all_goals exact ⟨ret_bool (by first | rfl | (symm; rw [decide_eq_true_eq]; omega) | (symm; rw [decide_eq_false_iff_not]; omega) | (rw [Bool.eq_iff_iff]; simp; done) | (rw [Bool.eq_iff_iff]; simp; omega)), by go_grown⟩
  · have hF : itB ⟨1, n⟩ = decide (-1 ≤ n ∧ n ≤ 3000) := by unfold itB; exact decide_eq_decide.2 (by simp)
    rw [hF]
    clear hF
    go_enter Try.func44, Try.ntmps44
    go_wp2
    all_goals go_returns
    all_goals exact ⟨ret_bool (by first | rfl | (symm; rw [decide_eq_true_eq]; omega) | (symm; rw [decide_eq_false_iff_not]; omega) | (rw [Bool.eq_iff_iff]; simp; done) | (rw [Bool.eq_iff_iff]; simp; omega)), by go_grown⟩
  · have hF : itB ⟨2, n⟩ = decide (1 ≤ n ∧ n ≤ 99) := by unfold itB; exact decide_eq_decide.2 (by simp)
    rw [hF]
    clear hF
    go_enter Try.func44, Try.ntmps44
    go_wp2
    all_goals go_returns
    all_goals exact ⟨ret_bool (by first | rfl | (symm; rw [decide_eq_true_eq]; omega) | (symm; rw [decide_eq_false_iff_not]; omega) | (rw [Bool.eq_iff_iff]; simp; done) | (rw [Bool.eq_iff_iff]; simp; omega)), by go_grown⟩
  · have hF : itB ⟨k, n⟩ = false := by unfold itB; rw [decide_eq_false_iff_not]; simp; omega
    rw [hF]
    have e0 : (k == 0) = false := by simp [k0]
    have e1 : (k == 1) = false := by simp [k1]
    have e2 : (k == 2) = false := by simp [k2]
    clear hF k0 k1 k2
    go_enter Try.func44, Try.ntmps44
    go_wp2
    all_goals go_returns
    all_goals exact ⟨rfl, by go_grown⟩
set_option maxHeartbeats 1000000 in
theorem allIt_any (A : Option Addr) (c : Nat) (l : List ItemR) (w : World) (ha : Row ItemR.enc 2 w A l) :
    Calls Try.prog 88 #[.slice A l.length c, .func (.func 44) #[] #[]] w fun e w' => e = .returned (.bool (l.all itB)) ∧ Below w.heap.size w w' := by
  have hal := ha.1
  go_enter Try.func88, Try.ntmps88
  go_wp2
  go_loopw [9] (fun i wr => ∃ k : Nat, k ≤ l.length ∧ i = .int .i64 k ∧ (l.take k).all itB = true ∧ Below w.heap.size w wr) (fun i _ => l.length - (intOf i).toNat)
  case atStart => exact ⟨0, Nat.zero_le _, rfl, by simp, Below.refl _ _⟩
  case round =>
    obtain ⟨k, hk, rfl, hall, hbw⟩ := hrel
    have Hall := Lib.hid hall
    clear hall
    by_cases hlt : k < l.length
    · obtain ⟨b, off, rfl, _, q0, q1⟩ := (ha.keep hbw).atItem hlt
      have hx := List.getElem?_eq_getElem hlt
      generalize l[k] = x at *
      have Hx := Lib.hid hx
      clear hx ha
      go_wp2_with fail
      refine (implItV_any x _).mono ?_
      rintro e w1 ⟨rfl, hb1⟩
      have hbw1 := (hbw.alloc hbw.size (.cells #[.int .i64 x.a0, .int .i64 x.a1] 32)).trans (hb1.mono (by have := hbw.size; simp; omega))
      clear hb1
      rcases Bool.eq_false_or_eq_true (itB x) with hv | hv
      · have hn := all_next Hall.out Hx.out hv
        have Hn := Lib.hid hn
        rw [hv]
        clear hv hn
        go_wp2
        go_roundw
        case rel => exact ⟨k + 1, by omega, by go_num, Hn.out, hbw1⟩
        case measure => simp [intOf]; omega
      · have hn := all_stop Hx.out hv
        have Hn := Lib.hid hn
        rw [hv]
        clear hv hn
        go_wp2
        go_returns
        exact ⟨ret_bool Hn.out.symm, hbw1⟩
    · have hn : l.all itB = true := by
        have h := Hall.out
        rwa [List.take_of_length_le (by omega)] at h
      have Hn := Lib.hid hn
      clear hn
      go_wp2
      all_goals go_returns
      all_goals exact ⟨ret_bool Hn.out.symm, hbw⟩
set_option maxHeartbeats 1000000 in
theorem specIts_any (A : Option Addr) (c : Nat) (l : List ItemR) (m : Int) (w : World) (ha : Row ItemR.enc 2 w A l) :
    Calls Try.prog 79 #[.slice A l.length c, .int .i64 m] w fun e w' => e = .returned (.bool (itsB l m)) ∧ Below w.heap.size w w' := by
  have hal := ha.1
  go_enter Try.func79, Try.ntmps79
  go_wp2
  go_loopw [5] (fun i wr => ∃ k : Nat, k ≤ l.length ∧ i = .int .i64 k ∧ (l.take k).all itB = true ∧ Below w.heap.size w wr) (fun i _ => l.length - (intOf i).toNat)
  case atStart => exact ⟨0, Nat.zero_le _, rfl, by simp, Below.refl _ _⟩
  case round =>
    obtain ⟨k, hk, rfl, hall, hbw⟩ := hrel
    have Hall := Lib.hid hall
    clear hall
    by_cases hlt : k < l.length
    · obtain ⟨b, off, rfl, _, q0, q1⟩ := (ha.keep hbw).atItem hlt
      have hx := List.getElem?_eq_getElem hlt
      generalize l[k] = x at *
      have Hx := Lib.hid hx
      clear hx ha
      go_wp2_with fail
      refine (specItV_any x _).mono ?_
      rintro e w1 ⟨rfl, hb1⟩
      have hbw1 := hbw.trans (hb1.mono hbw.size)
      clear hb1
      rcases Bool.eq_false_or_eq_true (itB x) with hv | hv
      · have hn := all_next Hall.out Hx.out hv
        have Hn := Lib.hid hn
        rw [hv]
        clear hv hn
        go_wp2
        go_roundw
        case rel => exact ⟨k + 1, by omega, by go_num, Hn.out, hbw1⟩
        case measure => simp [intOf]; omega
      · have hn : false = itsB l m := by unfold itsB; rw [all_stop Hx.out hv]; rfl
        have Hn := Lib.hid hn
        rw [hv]
        clear hv hn
        go_wp2
        go_returns
        exact ⟨ret_bool Hn.out, hbw1⟩
    · have hn : l.all itB = true := by
        have h := Hall.out
        rwa [List.take_of_length_le (by omega)] at h
      have hn2 : decide ((l.length : Int) ≤ m) = itsB l m := by unfold itsB; rw [hn]; rfl
      have Hn := Lib.hid hn2
      clear hn hn2
      go_wp2
      all_goals go_returns
      all_goals exact ⟨ret_bool Hn.out, hbw⟩
set_option maxHeartbeats 1000000 in
theorem implIts_any (A : Option Addr) (c : Nat) (l : List ItemR) (m : Int) (w : World) (ha : Row ItemR.enc 2 w A l) :
    Calls Try.prog 75 #[.slice A l.length c, .int .i64 m] w fun e w' => e = .returned (.bool (itsB l m)) ∧ Below w.heap.size w w' := by
  have hal := ha.1
  by_cases h0 : (l.length : Int) ≤ m
  · have hn : l.all itB = itsB l m := by unfold itsB; rw [decide_eq_true h0, Bool.and_true]
    have Hn := Lib.hid hn
    clear hn
    go_enter Try.func75, Try.ntmps75
    go_wp2_with fail
    refine (allIt_any A c l _ ha).mono ?_
    rintro e w1 ⟨rfl, hb1⟩
    go_wp2
    all_goals go_returns
    all_goals exact ⟨ret_bool (by rw [← Hn.out]), hb1⟩
  · have hn : false = itsB l m := by unfold itsB; rw [decide_eq_false h0, Bool.and_false]
    have Hn := Lib.hid hn
    clear hn
    go_enter Try.func75, Try.ntmps75
    go_wp2
    all_goals go_returns
    all_goals exact ⟨ret_bool Hn.out, Below.refl _ _⟩
set_option maxRecDepth 100000 in
set_option maxHeartbeats 2000000 in
theorem copyS_any (A : Option Addr) (c : Nat) (l : List ItemR) (w : World) (ha : Row ItemR.enc 2 w A l) :
    Calls Try.prog 50 #[.slice A l.length c] w (OwnPost ItemR.enc 2 32 w l) := by
  have hal := ha.1
  obtain ⟨i0, hi0, hz0, hz1, hz2⟩ := info_parts ItemR.zero_info
  have hst := acc_made ItemR.enc 2 32 (Below.refl w.heap.size w)
  have hB : Below w.heap.size w (w.alloc (.cells #[] 32)) := (Below.refl _ _).alloc (Nat.le_refl _) _
  have Hst := Lib.hid hst
  clear hst
  go_enter Try.func50, Try.ntmps50
  go_wp2_with (first | (at_builtin; refine wpList_append_row rfl _ _ 24 rfl i0 _ 16 Try.underlying24 hi0 hz0 hz1 hz2 rfl (by decide) (by decide) _ [] rfl Hst.out A l.length c l rfl rfl (ha.keep hB) ItemR.enc_len ?c1 (by simp; omega) ?_) | go_in)
  case c1 =>
    intro x u hu
    simp [ItemR.enc] at hu
    rcases hu with rfl | rfl <;> rfl
  intro v' w2 hacc _ _
  have Hacc := Lib.hid hacc
  clear hacc
  go_wp2
  all_goals go_returns
  all_goals exact acc_post Hacc.out (by simpa using hal)
set_option maxRecDepth 100000 in
set_option maxHeartbeats 1000000 in
theorem cloneIt_any (A : Option Addr) (c : Nat) (l : List ItemR) (w : World) (ha : Row ItemR.enc 2 w A l) :
    Calls Try.prog 78 #[.slice A l.length c] w (OwnPost ItemR.enc 2 32 w l) := by
  have hal := ha.1
  obtain ⟨i0, hi0, hz0, hz1, hz2⟩ := info_parts ItemR.zero_info
  rcases A with _ | ad
  · have hl : l = [] := by
      rcases l with _ | ⟨x, l⟩
      · rfl
      · obtain ⟨b, off, h, _⟩ := ha.2 (by simp)
        cases h
    subst hl
    have q : ∀ (w : World) (a : Option Addr) (n c n' c' : Nat), (binOp .eql 24 (.slice a n c) (.slice none n' c')).run Try.prog w = .ok (.bool a.isNone) w := fun w a n c n' c' => Lib.run_eql_slice_nil w _ _ a n c n' c' Try.underlying24
    go_enter Try.func78, Try.ntmps78
    go_wp2
    all_goals go_returns
    all_goals exact acc_post (acc_none _ _ _ (Below.refl _ _)) (by simp)
  · have hst := acc_made ItemR.enc 2 32 (Below.refl w.heap.size w)
    have Hst := Lib.hid hst
    have hown := hst.1
    have hnews : ∀ j u, (l.flatMap ItemR.enc)[j]? = some u → (w.alloc (.cells #[] 32)).cell? (ad.add j) = some u := by
      intro j u hu
      obtain ⟨x, hx, he⟩ := flat_inv ItemR.enc_len (by omega) l j u hu
      obtain ⟨b, off, e, hb, _⟩ := ha.2 (Nat.lt_of_le_of_lt (Nat.zero_le _) (List.getElem?_eq_some_iff.1 hx).1)
      injection e with e
      subst e
      exact row_flat ItemR.enc_len (by omega) (ha.keep ((Below.refl _ _).alloc (Nat.le_refl _) _)) j u hu
    have Hnews := Lib.hid hnews
    clear hst hnews
    have q : ∀ (w : World) (a : Option Addr) (n c n' c' : Nat), (binOp .eql 24 (.slice a n c) (.slice none n' c')).run Try.prog w = .ok (.bool a.isNone) w := fun w a n c n' c' => Lib.run_eql_slice_nil w _ _ a n c n' c' Try.underlying24
    go_enter Try.func78, Try.ntmps78
    go_wp2_with (first | (at_builtin; refine wpList_append_own _ rfl _ _ 24 rfl w.heap.size 32 i0 _ 2 16 Try.underlying24 hi0 hz0 hz1 hz2 rfl (by decide) _ _ _ rfl hown ad l.length c (l.flatMap ItemR.enc) rfl (flat_len ItemR.enc_len l) Hnews.out ?c2 ?c3 ?c4 ?c5 ?_) | go_in)
    case c2 =>
      intro u hu
      rw [List.mem_flatMap] at hu
      obtain ⟨x, _, hx⟩ := hu
      simp [ItemR.enc] at hx
      rcases hx with rfl | rfl <;> rfl
    case c3 => simp only [List.length_nil]; unfold maxLen; omega
    case c4 => simp only [List.length_nil]; omega
    case c5 => simp
    intro v' w5 hown' hg' _
    have hnext := acc_all Hst.out hown' hg'
    have Hn := Lib.hid hnext
    clear hnext hown' hg' hown
    go_wp2
    go_returns
    exact acc_post Hn.out hal
end Go.Proofs.Ytcpjidbinhfapab
