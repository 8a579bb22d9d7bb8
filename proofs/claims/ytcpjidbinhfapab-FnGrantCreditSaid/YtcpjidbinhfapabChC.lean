import Derived.Test.YtcpjidbinhfapabChV
namespace Go.Proofs.Ytcpjidbinhfapab
open Go.RowKit
def ChOwn (w : World) (l : List ItemR) (A : Option Addr) (c : Nat) (w' : World) : Prop := Own ItemR.enc 2 32 w' w.heap.size (.slice A l.length c) l ∧ Below w.heap.size w w'
def ChPost (w : World) (x y : Int) (l : List ItemR) (e : Ending) (w' : World) : Prop := ∃ A c, e = .returned (.agg #[.int .i64 x, .int .i64 y, .slice A l.length c]) ∧ ChOwn w l A c w'
def ChBPost (w : World) (x y : Int) (l : List ItemR) (k : Bool) (e : Ending) (w' : World) : Prop := ∃ A c, e = .returned (.tuple #[.agg #[.int .i64 x, .int .i64 y, .slice A l.length c], .bool k]) ∧ ChOwn w l A c w'
def ChIBPost (w : World) (x y : Int) (l : List ItemR) (i : ItemR) (k : Bool) (e : Ending) (w' : World) : Prop := ∃ A c, e = .returned (.tuple #[.agg #[.int .i64 x, .int .i64 y, .slice A l.length c], .agg #[.int .i64 i.a0, .int .i64 i.a1], .bool k]) ∧ ChOwn w l A c w'
theorem chB_spec {x y : Int} {l : List ItemR} (h1 : 1 ≤ x ∧ x ≤ 8) : chB x y l = (itsB l 8 && decide (0 ≤ y ∧ y ≤ x - (l.length : Int))) := by
  unfold chB itsB
  rw [decide_eq_true h1, Bool.true_and]
  rcases Bool.eq_false_or_eq_true (l.all itB) with h | h
  · rw [h, Bool.true_and, Bool.and_true]
    by_cases h2 : 0 ≤ y ∧ y ≤ x - (l.length : Int)
    · rw [decide_eq_true h2, decide_eq_true (show (l.length : Int) ≤ 8 by omega)]; rfl
    · rw [decide_eq_false h2, Bool.and_false]
  · rw [h, Bool.and_false, Bool.false_and, Bool.false_and]
theorem chB_impl {x y : Int} {l : List ItemR} (h1 : 1 ≤ x ∧ x ≤ 8) : chB x y l = (decide (0 ≤ y ∧ y ≤ x - (l.length : Int)) && itsB l x) := by
  unfold chB itsB
  rw [decide_eq_true h1, Bool.true_and]
  by_cases h2 : 0 ≤ y ∧ y ≤ x - (l.length : Int)
  · rw [decide_eq_true h2, decide_eq_true (show (l.length : Int) ≤ x by omega), Bool.and_true]
  · rw [decide_eq_false h2]; rfl
theorem chB_none {x y : Int} {l : List ItemR} (h1 : ¬ (1 ≤ x ∧ x ≤ 8)) : chB x y l = false := by
  unfold chB
  rw [decide_eq_false h1]
  rfl
set_option maxRecDepth 100000 in
set_option maxHeartbeats 2000000 in
theorem specVC_any (x y : Int) (A : Option Addr) (c : Nat) (l : List ItemR) (w : World) (ha : Row ItemR.enc 2 w A l) :
    Calls Try.prog 48 #[.agg #[.int .i64 x, .int .i64 y, .slice A l.length c]] w fun e w' => e = .returned (.bool (chB x y l)) ∧ Below w.heap.size w w' := by
  have hal := ha.1
  have X0 := Bx.made w (.int .i64 x) (.int .i64 y) (.slice A l.length c) 26
  have hB : Below w.heap.size w (w.alloc (.cells #[.int .i64 x, .int .i64 y, .slice A l.length c] 26)) := (Below.refl _ _).alloc (Nat.le_refl _) _
  have Y0 := X0
  obtain ⟨p00, p01, p02, pf0, pl0⟩ := Y0
  by_cases h1 : 1 ≤ x ∧ x ≤ 8
  · have hC := chB_spec (y := y) (l := l) h1
    have HC := Lib.hid hC
    have d1 := decide_eq_true h1
    clear hC
    go_enter Try.func48, Try.ntmps48
    go_wp2_with fail
    refine (irS_any x 1 8 _).mono ?_
    rintro e w1 ⟨rfl, rfl⟩
    obtain ⟨h1a, h1b⟩ := h1
    go_wp2_with fail
    clear p00 p01 p02 pf0 pl0
    generalize (w.alloc (.cells #[.int .i64 x, .int .i64 y, .slice A l.length c] 26)) = wA at *
    refine (specIts_any A c l 8 _ (ha.keep hB)).mono ?_
    rintro e w1 ⟨rfl, b1⟩
    obtain ⟨p00, p01, p02, pf0, pl0⟩ := X0.keep b1
    have B1 := hB.trans (b1.mono hB.size)
    clear pf0 b1
    rcases Bool.eq_false_or_eq_true (itsB l 8) with h2 | h2
    · rw [h2]
      have HV := Lib.hid (show decide (0 ≤ y ∧ y ≤ x - (l.length : Int)) = chB x y l by rw [HC.out, h2, Bool.true_and])
      clear h2
      go_wp2_with fail
      refine (irS_any y 0 _ _).mono ?_
      rintro e w2 ⟨rfl, rfl⟩
      go_wp2
      all_goals go_returns
      all_goals exact ⟨ret_bool (by have := HV.out; first | exact this | simpa using this), B1⟩
    · rw [h2]
      have HV := Lib.hid (show false = chB x y l by rw [HC.out, h2, Bool.false_and])
      clear h2
      go_wp2
      all_goals go_returns
      all_goals exact ⟨ret_bool HV.out, B1⟩
  · have HV := Lib.hid (chB_none (y := y) (l := l) h1)
    have h1' : x < 1 ∨ 8 < x := by omega
    clear h1
    rcases h1' with h1' | h1'
    all_goals
      go_enter Try.func48, Try.ntmps48
      go_wp2_with fail
      refine (irS_any x 1 8 _).mono ?_
      rintro e w1 ⟨rfl, rfl⟩
      go_wp2
      all_goals go_returns
      all_goals exact ⟨ret_bool HV.out.symm, hB⟩
set_option maxHeartbeats 1000000 in
theorem freeI_any (x y : Int) (A : Option Addr) (n c : Nat) (w : World) (h0 : 1 ≤ x) (h1 : x ≤ 8) (hn : n ≤ 1048576) :
    Calls Try.prog 51 #[.agg #[.int .i64 x, .int .i64 y, .slice A n c]] w fun e w' => e = .returned (.int .i64 (x - (n : Int))) ∧ Below w.heap.size w w' := by
  go_enter Try.func51, Try.ntmps51
  go_wp2
  all_goals go_returns
  all_goals exact ⟨rfl, by go_grown⟩
set_option maxRecDepth 100000 in
set_option maxHeartbeats 4000000 in
theorem implVC_any (x y : Int) (A : Option Addr) (c : Nat) (l : List ItemR) (w : World) (ha : Row ItemR.enc 2 w A l) :
    Calls Try.prog 43 #[.agg #[.int .i64 x, .int .i64 y, .slice A l.length c]] w fun e w' => e = .returned (.bool (chB x y l)) ∧ Below w.heap.size w w' := by
  have hal := ha.1
  have X0 := Bx.made w (.int .i64 x) (.int .i64 y) (.slice A l.length c) 26
  have hB : Below w.heap.size w (w.alloc (.cells #[.int .i64 x, .int .i64 y, .slice A l.length c] 26)) := (Below.refl _ _).alloc (Nat.le_refl _) _
  have ha' := ha.keep hB
  obtain ⟨p00, p01, p02, pf0, pl0⟩ := X0
  have K0 := Bw.cellOf pl0 p00
  have K1 := Bw.cellOf pl0 p01
  have K2 := Bw.cellOf pl0 p02
  by_cases h1 : 1 ≤ x ∧ x ≤ 8
  · have hC := chB_impl (y := y) (l := l) h1
    have HC := Lib.hid hC
    clear hC
    by_cases h2 : 0 ≤ y ∧ y ≤ x - (l.length : Int)
    · have HV := Lib.hid (show itsB l x = chB x y l by rw [HC.out, decide_eq_true h2, Bool.true_and])
      clear HC
      obtain ⟨h1a, h1b⟩ := h1
      obtain ⟨h2a, h2b⟩ := h2
      go_enter Try.func43, Try.ntmps43
      go_wp2_with fail
      refine wp_region_quiet_below (by kernel_rfl) (by kernel_rfl) ?_
      repeat (any_goals (go_big_quiet_step (first | (go_at_call 41; with_reducible refine Calls.below_same (inRI_t x 1 8 _ h1a h1b)) | (go_at_call 41; with_reducible refine Calls.below_same (inRI_t y 0 (x - (l.length : Int)) _ h2a h2b)) | (go_at_call 51; refine Calls.below_of (freeI_any x y A l.length c _ (by omega) (by omega) hal)) | (go_at_call 75; refine Calls.below_of (implIts_any A c l x _ (ha'.keep (Bw.h _)))))))
      refine wpQuiet_nil ?_
      intro w1 b1
      go_wp2
      all_goals go_returns
      all_goals exact ⟨ret_bool HV.out, hB.trans (b1.mono hB.size)⟩
    · have HV := Lib.hid (show false = chB x y l by rw [HC.out, decide_eq_false h2, Bool.false_and])
      have H2 := Lib.hid h2
      obtain ⟨h1a, h1b⟩ := h1
      clear HC h2
      go_enter Try.func43, Try.ntmps43
      go_wp2_with fail
      refine wp_region_quiet_below (by kernel_rfl) (by kernel_rfl) ?_
      repeat (any_goals (go_big_quiet_step (first | (go_at_call 41; with_reducible refine Calls.below_same (inRI_t x 1 8 _ h1a h1b)) | (go_at_call 41; with_reducible refine Calls.below_same (inRI_f y 0 (x - (l.length : Int)) _ H2.out)) | (go_at_call 51; refine Calls.below_of (freeI_any x y A l.length c _ (by omega) (by omega) hal)) | (go_at_call 75; refine Calls.below_of (implIts_any A c l x _ (ha'.keep (Bw.h _)))))))
      refine wpQuiet_nil ?_
      intro w1 b1
      go_wp2
      all_goals go_returns
      all_goals exact ⟨ret_bool HV.out, hB.trans (b1.mono hB.size)⟩
  · have HV := Lib.hid (chB_none (y := y) (l := l) h1)
    have H1 := Lib.hid h1
    clear h1
    go_enter Try.func43, Try.ntmps43
    go_wp2_with fail
    refine wp_region_quiet_below (by kernel_rfl) (by kernel_rfl) ?_
    repeat (any_goals (go_big_quiet_step (first | (go_at_call 41; with_reducible refine Calls.below_same (inRI_f x 1 8 _ H1.out)) | (go_at_call 51; refine Calls.below_of (freeI_any x y A l.length c _ (by omega) (by omega) hal)) | (go_at_call 75; refine Calls.below_of (implIts_any A c l x _ (ha'.keep (Bw.h _)))))))
    refine wpQuiet_nil ?_
    intro w1 b1
    go_wp2
    all_goals go_returns
    all_goals exact ⟨ret_bool HV.out.symm, hB.trans (b1.mono hB.size)⟩
end Go.Proofs.Ytcpjidbinhfapab
