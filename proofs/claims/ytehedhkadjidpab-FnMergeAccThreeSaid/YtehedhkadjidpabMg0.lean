import Derived.Test.YtehedhkadjidpabAcc
import Derived.Test.YtehedhkadjidpabB4
namespace Go.Proofs.Ytehedhkadjidpab
open Go.RowKit
def mnI (a b : Int) : Int := if b < a then b else a
def mxI (a b : Int) : Int := if a < b then b else a
def mgP (c s l m c2 s2 l2 m2 : Int) : Prop := vAccP c s l m ∧ vAccP c2 s2 l2 m2 ∧ c + c2 ≤ 999
instance (c s l m c2 s2 l2 m2 : Int) : Decidable (mgP c s l m c2 s2 l2 m2) := by unfold mgP; infer_instance
def mgC (c s l m c2 s2 l2 m2 : Int) : Int := if mgP c s l m c2 s2 l2 m2 then c + c2 else 0
def mgS (c s l m c2 s2 l2 m2 : Int) : Int := if mgP c s l m c2 s2 l2 m2 then s + s2 else 0
def mgL (c s l m c2 s2 l2 m2 : Int) : Int := if mgP c s l m c2 s2 l2 m2 then (if c = 0 then l2 else if c2 = 0 then l else mnI l l2) else 0
def mgM (c s l m c2 s2 l2 m2 : Int) : Int := if mgP c s l m c2 s2 l2 m2 then (if c = 0 then m2 else if c2 = 0 then m else mxI m m2) else 0
def mgK (c s l m c2 s2 l2 m2 : Int) : Bool := decide (mgP c s l m c2 s2 l2 m2)
def MG (c s l m c2 s2 l2 m2 : Int) : Value := .tuple #[.agg #[.int .i64 (mgC c s l m c2 s2 l2 m2), .int .i64 (mgS c s l m c2 s2 l2 m2), .int .i64 (mgL c s l m c2 s2 l2 m2), .int .i64 (mgM c s l m c2 s2 l2 m2)], .bool (mgK c s l m c2 s2 l2 m2)]
def MV (c s l m : Int) (k : Bool) : Value := .tuple #[.agg #[.int .i64 c, .int .i64 s, .int .i64 l, .int .i64 m], .bool k]
theorem mg_no {c s l m c2 s2 l2 m2 : Int} (h : ¬ mgP c s l m c2 s2 l2 m2) : MG c s l m c2 s2 l2 m2 = MV 0 0 0 0 false := by
  unfold MG mgC mgS mgL mgM mgK MV; simp [h]
theorem mg_a0 {s l m c2 s2 l2 m2 : Int} (h : mgP 0 s l m c2 s2 l2 m2) : MG 0 s l m c2 s2 l2 m2 = MV c2 s2 l2 m2 true := by
  have h0 : s = 0 := by have := h.1; unfold vAccP at this; omega
  subst h0
  unfold MG mgC mgS mgL mgM mgK MV; simp [h]
theorem mg_b0 {c s l m s2 l2 m2 : Int} (hc : c ≠ 0) (h : mgP c s l m 0 s2 l2 m2) : MG c s l m 0 s2 l2 m2 = MV c s l m true := by
  have h0 : s2 = 0 := by have := h.2.1; unfold vAccP at this; omega
  subst h0
  unfold MG mgC mgS mgL mgM mgK MV; simp [h, hc]
theorem mg_ab {c s l m c2 s2 l2 m2 : Int} (hc : c ≠ 0) (hc2 : c2 ≠ 0) (h : mgP c s l m c2 s2 l2 m2) : MG c s l m c2 s2 l2 m2 = MV (c + c2) (s + s2) (mnI l l2) (mxI m m2) true := by
  unfold MG mgC mgS mgL mgM mgK MV; simp [h, hc, hc2]
theorem ret_mv {c s l m c2 s2 l2 m2 : Int} {k : Bool} (h1 : c = c2) (h2 : s = s2) (h3 : l = l2) (h4 : m = m2) : Ending.returned (.tuple #[.agg #[.int .i64 c, .int .i64 s, .int .i64 l, .int .i64 m], .bool k]) = .returned (MV c2 s2 l2 m2 k) := by subst h1 h2 h3 h4; rfl

set_option maxRecDepth 100000 in
set_option maxHeartbeats 2000000 in
theorem emptyI_t  (w : World)  : Calls Try.prog 76 #[.agg #[.int .i64 0, .int .i64 0, .int .i64 0, .int .i64 0]] w fun e w' => e = .returned (.bool true) ∧ Below w.heap.size w w' := by
  go_enter Try.func76, Try.ntmps76
  go_wp2
  all_goals go_returns
  all_goals exact ⟨rfl, by go_grown⟩

set_option maxRecDepth 100000 in
set_option maxHeartbeats 2000000 in
theorem emptyI_f (c s l m : Int) (w : World) (hc : c ≠ 0) : Calls Try.prog 76 #[.agg #[.int .i64 c, .int .i64 s, .int .i64 l, .int .i64 m]] w fun e w' => e = .returned (.bool false) ∧ Below w.heap.size w w' := by
  have h : (c == 0) = false := by simp [hc]
  have hc2 : decide (c = 0) = false := decide_eq_false hc
  go_enter Try.func76, Try.ntmps76
  go_wp2
  all_goals go_returns
  all_goals exact ⟨ret_bool (by first | rfl | simp [hc] | simp_all), by go_grown⟩

theorem ret_a4 {c s l m c' s' l' m' : Int} (h1 : c = c') (h2 : s = s') (h3 : l = l') (h4 : m = m') : Ending.returned (.agg #[.int .i64 c, .int .i64 s, .int .i64 l, .int .i64 m]) = .returned (.agg #[.int .i64 c', .int .i64 s', .int .i64 l', .int .i64 m']) := by rw [h1, h2, h3, h4]

set_option maxRecDepth 100000 in
set_option maxHeartbeats 2000000 in
theorem mergeS_0 (s l m c2 s2 l2 m2 : Int) (w : World)  : Calls Try.prog 73 #[.agg #[.int .i64 0, .int .i64 s, .int .i64 l, .int .i64 m], .agg #[.int .i64 c2, .int .i64 s2, .int .i64 l2, .int .i64 m2]] w fun e w' => e = .returned (.agg #[.int .i64 c2, .int .i64 s2, .int .i64 l2, .int .i64 m2]) ∧ Below w.heap.size w w' := by
  go_enter Try.func73, Try.ntmps73
  go_wp2
  all_goals go_returns
  all_goals exact ⟨rfl, by go_grown⟩

set_option maxRecDepth 100000 in
set_option maxHeartbeats 2000000 in
theorem mergeS_1 (c s l m s2 l2 m2 : Int) (w : World) (hc : c ≠ 0) : Calls Try.prog 73 #[.agg #[.int .i64 c, .int .i64 s, .int .i64 l, .int .i64 m], .agg #[.int .i64 0, .int .i64 s2, .int .i64 l2, .int .i64 m2]] w fun e w' => e = .returned (.agg #[.int .i64 c, .int .i64 s, .int .i64 l, .int .i64 m]) ∧ Below w.heap.size w w' := by
  have h : (c == 0) = false := by simp [hc]
  clear hc
  go_enter Try.func73, Try.ntmps73
  go_wp2
  all_goals go_returns
  all_goals exact ⟨rfl, by go_grown⟩

set_option maxRecDepth 100000 in
set_option maxHeartbeats 2000000 in
theorem mergeS_2 (c s l m c2 s2 l2 m2 : Int) (w : World) (a1 : 1 ≤ c) (a2 : c ≤ 999) (a3 : 1 ≤ c2) (a4 : c2 ≤ 999) (a5 : 0 ≤ s) (a6 : s ≤ 98901) (a7 : 0 ≤ s2) (a8 : s2 ≤ 98901) : Calls Try.prog 73 #[.agg #[.int .i64 c, .int .i64 s, .int .i64 l, .int .i64 m], .agg #[.int .i64 c2, .int .i64 s2, .int .i64 l2, .int .i64 m2]] w fun e w' => e = .returned (.agg #[.int .i64 (c + c2), .int .i64 (s + s2), .int .i64 (mnI l l2), .int .i64 (mxI m m2)]) ∧ Below w.heap.size w w' := by
  have h : (c == 0) = false := by simp; omega
  have h2 : (c2 == 0) = false := by simp; omega
  go_enter Try.func73, Try.ntmps73
  go_wp2
  all_goals go_returns
  all_goals (refine ⟨ret_a4 ?_ ?_ ?_ ?_, by go_grown⟩)
  all_goals first | rfl | omega | (unfold mnI; split <;> omega) | (unfold mxI; split <;> omega)

set_option maxRecDepth 100000 in
set_option maxHeartbeats 2000000 in
theorem mergeI_0 (c2 s2 l2 m2 : Int) (w : World)  : Calls Try.prog 71 #[.agg #[.int .i64 0, .int .i64 0, .int .i64 0, .int .i64 0], .agg #[.int .i64 c2, .int .i64 s2, .int .i64 l2, .int .i64 m2]] w fun e w' => e = .returned (.agg #[.int .i64 c2, .int .i64 s2, .int .i64 l2, .int .i64 m2]) ∧ Below w.heap.size w w' := by
  have X0 := ((B4.made w (.int .i64 0) (.int .i64 0) (.int .i64 0) (.int .i64 0) 48).keep ((Below.refl _ _).alloc (Nat.le_refl _) (.cells #[.int .i64 c2, .int .i64 s2, .int .i64 l2, .int .i64 m2] 48))).keep ((Below.refl _ _).alloc (Nat.le_refl _) (.cells #[.int .i64 0, .int .i64 0, .int .i64 0, .int .i64 0] 48))
  have Y0 := (B4.made (w.alloc (.cells #[.int .i64 0, .int .i64 0, .int .i64 0, .int .i64 0] 48)) (.int .i64 c2) (.int .i64 s2) (.int .i64 l2) (.int .i64 m2) 48).keep ((Below.refl _ _).alloc (Nat.le_refl _) (.cells #[.int .i64 0, .int .i64 0, .int .i64 0, .int .i64 0] 48))
  have R0 := B4.made ((w.alloc (.cells #[.int .i64 0, .int .i64 0, .int .i64 0, .int .i64 0] 48)).alloc (.cells #[.int .i64 c2, .int .i64 s2, .int .i64 l2, .int .i64 m2] 48)) (.int .i64 0) (.int .i64 0) (.int .i64 0) (.int .i64 0) 48
  simp only [World.size_alloc] at Y0 R0
  have BB : Below w.heap.size w (((w.alloc (.cells #[.int .i64 0, .int .i64 0, .int .i64 0, .int .i64 0] 48)).alloc (.cells #[.int .i64 c2, .int .i64 s2, .int .i64 l2, .int .i64 m2] 48)).alloc (.cells #[.int .i64 0, .int .i64 0, .int .i64 0, .int .i64 0] 48)) := by go_grown
  have zB : w.heap.size + 3 = (((w.alloc (.cells #[.int .i64 0, .int .i64 0, .int .i64 0, .int .i64 0] 48)).alloc (.cells #[.int .i64 c2, .int .i64 s2, .int .i64 l2, .int .i64 m2] 48)).alloc (.cells #[.int .i64 0, .int .i64 0, .int .i64 0, .int .i64 0] 48)).heap.size := by simp
  have hX := X0
  have hY := Y0
  have hR := R0
  obtain ⟨p0, p1, p2, p3, pf, pl⟩ := hX
  obtain ⟨q0, q1, q2, q3, qf, ql⟩ := hY
  obtain ⟨r0, r1, r2, r3, rf, rl⟩ := hR
  go_enter Try.func71, Try.ntmps71
  go_wp2_with fail
  clear p0 p1 p2 p3 pf pl q0 q1 q2 q3 qf ql r0 r1 r2 r3 rf rl
  generalize (((w.alloc (.cells #[.int .i64 0, .int .i64 0, .int .i64 0, .int .i64 0] 48)).alloc (.cells #[.int .i64 c2, .int .i64 s2, .int .i64 l2, .int .i64 m2] 48)).alloc (.cells #[.int .i64 0, .int .i64 0, .int .i64 0, .int .i64 0] 48)) = wA at *
  refine (emptyI_t _).mono ?_
  rintro e w1 ⟨rfl, hb⟩
  replace X0 := X0.keep hb
  replace Y0 := Y0.keep hb
  replace R0 := R0.keep hb
  replace BB := BB.trans (hb.mono BB.size)
  clear hb
  have hX := X0
  have hY := Y0
  have hR := R0
  obtain ⟨p0, p1, p2, p3, pf, pl⟩ := hX
  obtain ⟨q0, q1, q2, q3, qf, ql⟩ := hY
  obtain ⟨r0, r1, r2, r3, rf, rl⟩ := hR
  have He := Lib.hid (R0.set (.int .i64 c2) (.int .i64 s2) (.int .i64 l2) (.int .i64 m2))
  have BF := below_set4 (g := w.heap.size + 1 + 1) BB (by omega) (.int .i64 c2) (.int .i64 s2) (.int .i64 l2) (.int .i64 m2)
  clear X0 Y0 R0 BB
  go_wp2
  generalize ((((w1.setCell ⟨w.heap.size + 1 + 1, 0, none⟩ (.int .i64 c2)).setCell ⟨w.heap.size + 1 + 1, 1, none⟩ (.int .i64 s2)).setCell ⟨w.heap.size + 1 + 1, 2, none⟩ (.int .i64 l2)).setCell ⟨w.heap.size + 1 + 1, 3, none⟩ (.int .i64 m2)) = wF at *
  obtain ⟨e0, e1, e2, e3, -, -⟩ := He.out
  (try simp only [Exit.inBlock, Exit.then])
  refine bodyPost_ret (by simp [results, Try.results71, go_sem, e0, e1, e2, e3]; try rfl) rfl ?_
  exact ⟨rfl, BF⟩

set_option maxRecDepth 100000 in
set_option maxHeartbeats 2000000 in
theorem mergeI_1 (c s l m : Int) (w : World) (hc : c ≠ 0) : Calls Try.prog 71 #[.agg #[.int .i64 c, .int .i64 s, .int .i64 l, .int .i64 m], .agg #[.int .i64 0, .int .i64 0, .int .i64 0, .int .i64 0]] w fun e w' => e = .returned (.agg #[.int .i64 c, .int .i64 s, .int .i64 l, .int .i64 m]) ∧ Below w.heap.size w w' := by
  have X0 := ((B4.made w (.int .i64 c) (.int .i64 s) (.int .i64 l) (.int .i64 m) 48).keep ((Below.refl _ _).alloc (Nat.le_refl _) (.cells #[.int .i64 0, .int .i64 0, .int .i64 0, .int .i64 0] 48))).keep ((Below.refl _ _).alloc (Nat.le_refl _) (.cells #[.int .i64 0, .int .i64 0, .int .i64 0, .int .i64 0] 48))
  have Y0 := (B4.made (w.alloc (.cells #[.int .i64 c, .int .i64 s, .int .i64 l, .int .i64 m] 48)) (.int .i64 0) (.int .i64 0) (.int .i64 0) (.int .i64 0) 48).keep ((Below.refl _ _).alloc (Nat.le_refl _) (.cells #[.int .i64 0, .int .i64 0, .int .i64 0, .int .i64 0] 48))
  have R0 := B4.made ((w.alloc (.cells #[.int .i64 c, .int .i64 s, .int .i64 l, .int .i64 m] 48)).alloc (.cells #[.int .i64 0, .int .i64 0, .int .i64 0, .int .i64 0] 48)) (.int .i64 0) (.int .i64 0) (.int .i64 0) (.int .i64 0) 48
  simp only [World.size_alloc] at Y0 R0
  have BB : Below w.heap.size w (((w.alloc (.cells #[.int .i64 c, .int .i64 s, .int .i64 l, .int .i64 m] 48)).alloc (.cells #[.int .i64 0, .int .i64 0, .int .i64 0, .int .i64 0] 48)).alloc (.cells #[.int .i64 0, .int .i64 0, .int .i64 0, .int .i64 0] 48)) := by go_grown
  have zB : w.heap.size + 3 = (((w.alloc (.cells #[.int .i64 c, .int .i64 s, .int .i64 l, .int .i64 m] 48)).alloc (.cells #[.int .i64 0, .int .i64 0, .int .i64 0, .int .i64 0] 48)).alloc (.cells #[.int .i64 0, .int .i64 0, .int .i64 0, .int .i64 0] 48)).heap.size := by simp
  have hX := X0
  have hY := Y0
  have hR := R0
  obtain ⟨p0, p1, p2, p3, pf, pl⟩ := hX
  obtain ⟨q0, q1, q2, q3, qf, ql⟩ := hY
  obtain ⟨r0, r1, r2, r3, rf, rl⟩ := hR
  go_enter Try.func71, Try.ntmps71
  go_wp2_with fail
  clear p0 p1 p2 p3 pf pl q0 q1 q2 q3 qf ql r0 r1 r2 r3 rf rl
  generalize (((w.alloc (.cells #[.int .i64 c, .int .i64 s, .int .i64 l, .int .i64 m] 48)).alloc (.cells #[.int .i64 0, .int .i64 0, .int .i64 0, .int .i64 0] 48)).alloc (.cells #[.int .i64 0, .int .i64 0, .int .i64 0, .int .i64 0] 48)) = wA at *
  refine (emptyI_f c s l m _ hc).mono ?_
  rintro e w1 ⟨rfl, hb⟩
  replace X0 := X0.keep hb
  replace Y0 := Y0.keep hb
  replace R0 := R0.keep hb
  replace BB := BB.trans (hb.mono BB.size)
  clear hb
  have hX := X0
  have hY := Y0
  have hR := R0
  obtain ⟨p0, p1, p2, p3, pf, pl⟩ := hX
  obtain ⟨q0, q1, q2, q3, qf, ql⟩ := hY
  obtain ⟨r0, r1, r2, r3, rf, rl⟩ := hR
  go_wp2_with fail
  clear p0 p1 p2 p3 pf pl q0 q1 q2 q3 qf ql r0 r1 r2 r3 rf rl
  refine (emptyI_t _).mono ?_
  rintro e w2 ⟨rfl, hb⟩
  replace X0 := X0.keep hb
  replace Y0 := Y0.keep hb
  replace R0 := R0.keep hb
  replace BB := BB.trans (hb.mono BB.size)
  clear hb
  have hX := X0
  have hY := Y0
  have hR := R0
  obtain ⟨p0, p1, p2, p3, pf, pl⟩ := hX
  obtain ⟨q0, q1, q2, q3, qf, ql⟩ := hY
  obtain ⟨r0, r1, r2, r3, rf, rl⟩ := hR
  have He := Lib.hid (R0.set (.int .i64 c) (.int .i64 s) (.int .i64 l) (.int .i64 m))
  have BF := below_set4 (g := w.heap.size + 1 + 1) BB (by omega) (.int .i64 c) (.int .i64 s) (.int .i64 l) (.int .i64 m)
  clear X0 Y0 R0 BB
  go_wp2
  generalize ((((w2.setCell ⟨w.heap.size + 1 + 1, 0, none⟩ (.int .i64 c)).setCell ⟨w.heap.size + 1 + 1, 1, none⟩ (.int .i64 s)).setCell ⟨w.heap.size + 1 + 1, 2, none⟩ (.int .i64 l)).setCell ⟨w.heap.size + 1 + 1, 3, none⟩ (.int .i64 m)) = wF at *
  obtain ⟨e0, e1, e2, e3, -, -⟩ := He.out
  (try simp only [Exit.inBlock, Exit.then])
  refine bodyPost_ret (by simp [results, Try.results71, go_sem, e0, e1, e2, e3]; try rfl) rfl ?_
  exact ⟨rfl, BF⟩

set_option maxRecDepth 100000 in
set_option maxHeartbeats 2000000 in
theorem mergeI_2_00 (c s l m c2 s2 l2 m2 : Int) (w : World) (a1 : 1 ≤ c) (a2 : c ≤ 999) (a3 : 1 ≤ c2) (a4 : c2 ≤ 999) (a5 : 0 ≤ s) (a6 : s ≤ 98901) (a7 : 0 ≤ s2) (a8 : s2 ≤ 98901) (hl : l2 < l) (hm : m < m2) : Calls Try.prog 71 #[.agg #[.int .i64 c, .int .i64 s, .int .i64 l, .int .i64 m], .agg #[.int .i64 c2, .int .i64 s2, .int .i64 l2, .int .i64 m2]] w fun e w' => e = .returned (.agg #[.int .i64 (c + c2), .int .i64 (s + s2), .int .i64 l2, .int .i64 m2]) ∧ Below w.heap.size w w' := by
  have X0 := ((B4.made w (.int .i64 c) (.int .i64 s) (.int .i64 l) (.int .i64 m) 48).keep ((Below.refl _ _).alloc (Nat.le_refl _) (.cells #[.int .i64 c2, .int .i64 s2, .int .i64 l2, .int .i64 m2] 48))).keep ((Below.refl _ _).alloc (Nat.le_refl _) (.cells #[.int .i64 0, .int .i64 0, .int .i64 0, .int .i64 0] 48))
  have Y0 := (B4.made (w.alloc (.cells #[.int .i64 c, .int .i64 s, .int .i64 l, .int .i64 m] 48)) (.int .i64 c2) (.int .i64 s2) (.int .i64 l2) (.int .i64 m2) 48).keep ((Below.refl _ _).alloc (Nat.le_refl _) (.cells #[.int .i64 0, .int .i64 0, .int .i64 0, .int .i64 0] 48))
  have R0 := B4.made ((w.alloc (.cells #[.int .i64 c, .int .i64 s, .int .i64 l, .int .i64 m] 48)).alloc (.cells #[.int .i64 c2, .int .i64 s2, .int .i64 l2, .int .i64 m2] 48)) (.int .i64 0) (.int .i64 0) (.int .i64 0) (.int .i64 0) 48
  simp only [World.size_alloc] at Y0 R0
  have BB : Below w.heap.size w (((w.alloc (.cells #[.int .i64 c, .int .i64 s, .int .i64 l, .int .i64 m] 48)).alloc (.cells #[.int .i64 c2, .int .i64 s2, .int .i64 l2, .int .i64 m2] 48)).alloc (.cells #[.int .i64 0, .int .i64 0, .int .i64 0, .int .i64 0] 48)) := by go_grown
  have zB : w.heap.size + 3 = (((w.alloc (.cells #[.int .i64 c, .int .i64 s, .int .i64 l, .int .i64 m] 48)).alloc (.cells #[.int .i64 c2, .int .i64 s2, .int .i64 l2, .int .i64 m2] 48)).alloc (.cells #[.int .i64 0, .int .i64 0, .int .i64 0, .int .i64 0] 48)).heap.size := by simp
  have hX := X0
  have hY := Y0
  have hR := R0
  obtain ⟨p0, p1, p2, p3, pf, pl⟩ := hX
  obtain ⟨q0, q1, q2, q3, qf, ql⟩ := hY
  obtain ⟨r0, r1, r2, r3, rf, rl⟩ := hR
  go_enter Try.func71, Try.ntmps71
  go_wp2_with fail
  clear p0 p1 p2 p3 pf pl q0 q1 q2 q3 qf ql r0 r1 r2 r3 rf rl
  generalize (((w.alloc (.cells #[.int .i64 c, .int .i64 s, .int .i64 l, .int .i64 m] 48)).alloc (.cells #[.int .i64 c2, .int .i64 s2, .int .i64 l2, .int .i64 m2] 48)).alloc (.cells #[.int .i64 0, .int .i64 0, .int .i64 0, .int .i64 0] 48)) = wA at *
  refine (emptyI_f c s l m _ (by omega)).mono ?_
  rintro e w1 ⟨rfl, hb⟩
  replace X0 := X0.keep hb
  replace Y0 := Y0.keep hb
  replace R0 := R0.keep hb
  replace BB := BB.trans (hb.mono BB.size)
  clear hb
  have hX := X0
  have hY := Y0
  have hR := R0
  obtain ⟨p0, p1, p2, p3, pf, pl⟩ := hX
  obtain ⟨q0, q1, q2, q3, qf, ql⟩ := hY
  obtain ⟨r0, r1, r2, r3, rf, rl⟩ := hR
  go_wp2_with fail
  clear p0 p1 p2 p3 pf pl q0 q1 q2 q3 qf ql r0 r1 r2 r3 rf rl
  refine (emptyI_f c2 s2 l2 m2 _ (by omega)).mono ?_
  rintro e w2 ⟨rfl, hb⟩
  replace X0 := X0.keep hb
  replace Y0 := Y0.keep hb
  replace R0 := R0.keep hb
  replace BB := BB.trans (hb.mono BB.size)
  clear hb
  have hX := X0
  have hY := Y0
  have hR := R0
  obtain ⟨p0, p1, p2, p3, pf, pl⟩ := hX
  obtain ⟨q0, q1, q2, q3, qf, ql⟩ := hY
  obtain ⟨r0, r1, r2, r3, rf, rl⟩ := hR
  have He := Lib.hid (R0.set (.int .i64 (c + c2)) (.int .i64 (s + s2)) (.int .i64 l2) (.int .i64 m2))
  have BF := below_set4 (g := w.heap.size + 1 + 1) BB (by omega) (.int .i64 (c + c2)) (.int .i64 (s + s2)) (.int .i64 l2) (.int .i64 m2)
  clear X0 Y0 R0 BB
  go_wp2
  generalize ((((w2.setCell ⟨w.heap.size + 1 + 1, 0, none⟩ (.int .i64 (c + c2))).setCell ⟨w.heap.size + 1 + 1, 1, none⟩ (.int .i64 (s + s2))).setCell ⟨w.heap.size + 1 + 1, 2, none⟩ (.int .i64 l2)).setCell ⟨w.heap.size + 1 + 1, 3, none⟩ (.int .i64 m2)) = wF at *
  obtain ⟨e0, e1, e2, e3, -, -⟩ := He.out
  (try simp only [Exit.inBlock, Exit.then])
  refine bodyPost_ret (by simp [results, Try.results71, go_sem, e0, e1, e2, e3]; try rfl) rfl ?_
  exact ⟨rfl, BF⟩

set_option maxRecDepth 100000 in
set_option maxHeartbeats 2000000 in
theorem mergeI_2_01 (c s l m c2 s2 l2 m2 : Int) (w : World) (a1 : 1 ≤ c) (a2 : c ≤ 999) (a3 : 1 ≤ c2) (a4 : c2 ≤ 999) (a5 : 0 ≤ s) (a6 : s ≤ 98901) (a7 : 0 ≤ s2) (a8 : s2 ≤ 98901) (hl : l2 < l) (hm : m2 ≤ m) : Calls Try.prog 71 #[.agg #[.int .i64 c, .int .i64 s, .int .i64 l, .int .i64 m], .agg #[.int .i64 c2, .int .i64 s2, .int .i64 l2, .int .i64 m2]] w fun e w' => e = .returned (.agg #[.int .i64 (c + c2), .int .i64 (s + s2), .int .i64 l2, .int .i64 m]) ∧ Below w.heap.size w w' := by
  have X0 := ((B4.made w (.int .i64 c) (.int .i64 s) (.int .i64 l) (.int .i64 m) 48).keep ((Below.refl _ _).alloc (Nat.le_refl _) (.cells #[.int .i64 c2, .int .i64 s2, .int .i64 l2, .int .i64 m2] 48))).keep ((Below.refl _ _).alloc (Nat.le_refl _) (.cells #[.int .i64 0, .int .i64 0, .int .i64 0, .int .i64 0] 48))
  have Y0 := (B4.made (w.alloc (.cells #[.int .i64 c, .int .i64 s, .int .i64 l, .int .i64 m] 48)) (.int .i64 c2) (.int .i64 s2) (.int .i64 l2) (.int .i64 m2) 48).keep ((Below.refl _ _).alloc (Nat.le_refl _) (.cells #[.int .i64 0, .int .i64 0, .int .i64 0, .int .i64 0] 48))
  have R0 := B4.made ((w.alloc (.cells #[.int .i64 c, .int .i64 s, .int .i64 l, .int .i64 m] 48)).alloc (.cells #[.int .i64 c2, .int .i64 s2, .int .i64 l2, .int .i64 m2] 48)) (.int .i64 0) (.int .i64 0) (.int .i64 0) (.int .i64 0) 48
  simp only [World.size_alloc] at Y0 R0
  have BB : Below w.heap.size w (((w.alloc (.cells #[.int .i64 c, .int .i64 s, .int .i64 l, .int .i64 m] 48)).alloc (.cells #[.int .i64 c2, .int .i64 s2, .int .i64 l2, .int .i64 m2] 48)).alloc (.cells #[.int .i64 0, .int .i64 0, .int .i64 0, .int .i64 0] 48)) := by go_grown
  have zB : w.heap.size + 3 = (((w.alloc (.cells #[.int .i64 c, .int .i64 s, .int .i64 l, .int .i64 m] 48)).alloc (.cells #[.int .i64 c2, .int .i64 s2, .int .i64 l2, .int .i64 m2] 48)).alloc (.cells #[.int .i64 0, .int .i64 0, .int .i64 0, .int .i64 0] 48)).heap.size := by simp
  have hX := X0
  have hY := Y0
  have hR := R0
  obtain ⟨p0, p1, p2, p3, pf, pl⟩ := hX
  obtain ⟨q0, q1, q2, q3, qf, ql⟩ := hY
  obtain ⟨r0, r1, r2, r3, rf, rl⟩ := hR
  go_enter Try.func71, Try.ntmps71
  go_wp2_with fail
  clear p0 p1 p2 p3 pf pl q0 q1 q2 q3 qf ql r0 r1 r2 r3 rf rl
  generalize (((w.alloc (.cells #[.int .i64 c, .int .i64 s, .int .i64 l, .int .i64 m] 48)).alloc (.cells #[.int .i64 c2, .int .i64 s2, .int .i64 l2, .int .i64 m2] 48)).alloc (.cells #[.int .i64 0, .int .i64 0, .int .i64 0, .int .i64 0] 48)) = wA at *
  refine (emptyI_f c s l m _ (by omega)).mono ?_
  rintro e w1 ⟨rfl, hb⟩
  replace X0 := X0.keep hb
  replace Y0 := Y0.keep hb
  replace R0 := R0.keep hb
  replace BB := BB.trans (hb.mono BB.size)
  clear hb
  have hX := X0
  have hY := Y0
  have hR := R0
  obtain ⟨p0, p1, p2, p3, pf, pl⟩ := hX
  obtain ⟨q0, q1, q2, q3, qf, ql⟩ := hY
  obtain ⟨r0, r1, r2, r3, rf, rl⟩ := hR
  go_wp2_with fail
  clear p0 p1 p2 p3 pf pl q0 q1 q2 q3 qf ql r0 r1 r2 r3 rf rl
  refine (emptyI_f c2 s2 l2 m2 _ (by omega)).mono ?_
  rintro e w2 ⟨rfl, hb⟩
  replace X0 := X0.keep hb
  replace Y0 := Y0.keep hb
  replace R0 := R0.keep hb
  replace BB := BB.trans (hb.mono BB.size)
  clear hb
  have hX := X0
  have hY := Y0
  have hR := R0
  obtain ⟨p0, p1, p2, p3, pf, pl⟩ := hX
  obtain ⟨q0, q1, q2, q3, qf, ql⟩ := hY
  obtain ⟨r0, r1, r2, r3, rf, rl⟩ := hR
  have He := Lib.hid (R0.set (.int .i64 (c + c2)) (.int .i64 (s + s2)) (.int .i64 l2) (.int .i64 m))
  have BF := below_set4 (g := w.heap.size + 1 + 1) BB (by omega) (.int .i64 (c + c2)) (.int .i64 (s + s2)) (.int .i64 l2) (.int .i64 m)
  clear X0 Y0 R0 BB
  go_wp2
  generalize ((((w2.setCell ⟨w.heap.size + 1 + 1, 0, none⟩ (.int .i64 (c + c2))).setCell ⟨w.heap.size + 1 + 1, 1, none⟩ (.int .i64 (s + s2))).setCell ⟨w.heap.size + 1 + 1, 2, none⟩ (.int .i64 l2)).setCell ⟨w.heap.size + 1 + 1, 3, none⟩ (.int .i64 m)) = wF at *
  obtain ⟨e0, e1, e2, e3, -, -⟩ := He.out
  (try simp only [Exit.inBlock, Exit.then])
  refine bodyPost_ret (by simp [results, Try.results71, go_sem, e0, e1, e2, e3]; try rfl) rfl ?_
  exact ⟨rfl, BF⟩

set_option maxRecDepth 100000 in
set_option maxHeartbeats 2000000 in
theorem mergeI_2_10 (c s l m c2 s2 l2 m2 : Int) (w : World) (a1 : 1 ≤ c) (a2 : c ≤ 999) (a3 : 1 ≤ c2) (a4 : c2 ≤ 999) (a5 : 0 ≤ s) (a6 : s ≤ 98901) (a7 : 0 ≤ s2) (a8 : s2 ≤ 98901) (hl : l ≤ l2) (hm : m < m2) : Calls Try.prog 71 #[.agg #[.int .i64 c, .int .i64 s, .int .i64 l, .int .i64 m], .agg #[.int .i64 c2, .int .i64 s2, .int .i64 l2, .int .i64 m2]] w fun e w' => e = .returned (.agg #[.int .i64 (c + c2), .int .i64 (s + s2), .int .i64 l, .int .i64 m2]) ∧ Below w.heap.size w w' := by
  have X0 := ((B4.made w (.int .i64 c) (.int .i64 s) (.int .i64 l) (.int .i64 m) 48).keep ((Below.refl _ _).alloc (Nat.le_refl _) (.cells #[.int .i64 c2, .int .i64 s2, .int .i64 l2, .int .i64 m2] 48))).keep ((Below.refl _ _).alloc (Nat.le_refl _) (.cells #[.int .i64 0, .int .i64 0, .int .i64 0, .int .i64 0] 48))
  have Y0 := (B4.made (w.alloc (.cells #[.int .i64 c, .int .i64 s, .int .i64 l, .int .i64 m] 48)) (.int .i64 c2) (.int .i64 s2) (.int .i64 l2) (.int .i64 m2) 48).keep ((Below.refl _ _).alloc (Nat.le_refl _) (.cells #[.int .i64 0, .int .i64 0, .int .i64 0, .int .i64 0] 48))
  have R0 := B4.made ((w.alloc (.cells #[.int .i64 c, .int .i64 s, .int .i64 l, .int .i64 m] 48)).alloc (.cells #[.int .i64 c2, .int .i64 s2, .int .i64 l2, .int .i64 m2] 48)) (.int .i64 0) (.int .i64 0) (.int .i64 0) (.int .i64 0) 48
  simp only [World.size_alloc] at Y0 R0
  have BB : Below w.heap.size w (((w.alloc (.cells #[.int .i64 c, .int .i64 s, .int .i64 l, .int .i64 m] 48)).alloc (.cells #[.int .i64 c2, .int .i64 s2, .int .i64 l2, .int .i64 m2] 48)).alloc (.cells #[.int .i64 0, .int .i64 0, .int .i64 0, .int .i64 0] 48)) := by go_grown
  have zB : w.heap.size + 3 = (((w.alloc (.cells #[.int .i64 c, .int .i64 s, .int .i64 l, .int .i64 m] 48)).alloc (.cells #[.int .i64 c2, .int .i64 s2, .int .i64 l2, .int .i64 m2] 48)).alloc (.cells #[.int .i64 0, .int .i64 0, .int .i64 0, .int .i64 0] 48)).heap.size := by simp
  have hX := X0
  have hY := Y0
  have hR := R0
  obtain ⟨p0, p1, p2, p3, pf, pl⟩ := hX
  obtain ⟨q0, q1, q2, q3, qf, ql⟩ := hY
  obtain ⟨r0, r1, r2, r3, rf, rl⟩ := hR
  go_enter Try.func71, Try.ntmps71
  go_wp2_with fail
  clear p0 p1 p2 p3 pf pl q0 q1 q2 q3 qf ql r0 r1 r2 r3 rf rl
  generalize (((w.alloc (.cells #[.int .i64 c, .int .i64 s, .int .i64 l, .int .i64 m] 48)).alloc (.cells #[.int .i64 c2, .int .i64 s2, .int .i64 l2, .int .i64 m2] 48)).alloc (.cells #[.int .i64 0, .int .i64 0, .int .i64 0, .int .i64 0] 48)) = wA at *
  refine (emptyI_f c s l m _ (by omega)).mono ?_
  rintro e w1 ⟨rfl, hb⟩
  replace X0 := X0.keep hb
  replace Y0 := Y0.keep hb
  replace R0 := R0.keep hb
  replace BB := BB.trans (hb.mono BB.size)
  clear hb
  have hX := X0
  have hY := Y0
  have hR := R0
  obtain ⟨p0, p1, p2, p3, pf, pl⟩ := hX
  obtain ⟨q0, q1, q2, q3, qf, ql⟩ := hY
  obtain ⟨r0, r1, r2, r3, rf, rl⟩ := hR
  go_wp2_with fail
  clear p0 p1 p2 p3 pf pl q0 q1 q2 q3 qf ql r0 r1 r2 r3 rf rl
  refine (emptyI_f c2 s2 l2 m2 _ (by omega)).mono ?_
  rintro e w2 ⟨rfl, hb⟩
  replace X0 := X0.keep hb
  replace Y0 := Y0.keep hb
  replace R0 := R0.keep hb
  replace BB := BB.trans (hb.mono BB.size)
  clear hb
  have hX := X0
  have hY := Y0
  have hR := R0
  obtain ⟨p0, p1, p2, p3, pf, pl⟩ := hX
  obtain ⟨q0, q1, q2, q3, qf, ql⟩ := hY
  obtain ⟨r0, r1, r2, r3, rf, rl⟩ := hR
  have He := Lib.hid (R0.set (.int .i64 (c + c2)) (.int .i64 (s + s2)) (.int .i64 l) (.int .i64 m2))
  have BF := below_set4 (g := w.heap.size + 1 + 1) BB (by omega) (.int .i64 (c + c2)) (.int .i64 (s + s2)) (.int .i64 l) (.int .i64 m2)
  clear X0 Y0 R0 BB
  go_wp2
  generalize ((((w2.setCell ⟨w.heap.size + 1 + 1, 0, none⟩ (.int .i64 (c + c2))).setCell ⟨w.heap.size + 1 + 1, 1, none⟩ (.int .i64 (s + s2))).setCell ⟨w.heap.size + 1 + 1, 2, none⟩ (.int .i64 l)).setCell ⟨w.heap.size + 1 + 1, 3, none⟩ (.int .i64 m2)) = wF at *
  obtain ⟨e0, e1, e2, e3, -, -⟩ := He.out
  (try simp only [Exit.inBlock, Exit.then])
  refine bodyPost_ret (by simp [results, Try.results71, go_sem, e0, e1, e2, e3]; try rfl) rfl ?_
  exact ⟨rfl, BF⟩

set_option maxRecDepth 100000 in
set_option maxHeartbeats 2000000 in
theorem mergeI_2_11 (c s l m c2 s2 l2 m2 : Int) (w : World) (a1 : 1 ≤ c) (a2 : c ≤ 999) (a3 : 1 ≤ c2) (a4 : c2 ≤ 999) (a5 : 0 ≤ s) (a6 : s ≤ 98901) (a7 : 0 ≤ s2) (a8 : s2 ≤ 98901) (hl : l ≤ l2) (hm : m2 ≤ m) : Calls Try.prog 71 #[.agg #[.int .i64 c, .int .i64 s, .int .i64 l, .int .i64 m], .agg #[.int .i64 c2, .int .i64 s2, .int .i64 l2, .int .i64 m2]] w fun e w' => e = .returned (.agg #[.int .i64 (c + c2), .int .i64 (s + s2), .int .i64 l, .int .i64 m]) ∧ Below w.heap.size w w' := by
  have X0 := ((B4.made w (.int .i64 c) (.int .i64 s) (.int .i64 l) (.int .i64 m) 48).keep ((Below.refl _ _).alloc (Nat.le_refl _) (.cells #[.int .i64 c2, .int .i64 s2, .int .i64 l2, .int .i64 m2] 48))).keep ((Below.refl _ _).alloc (Nat.le_refl _) (.cells #[.int .i64 0, .int .i64 0, .int .i64 0, .int .i64 0] 48))
  have Y0 := (B4.made (w.alloc (.cells #[.int .i64 c, .int .i64 s, .int .i64 l, .int .i64 m] 48)) (.int .i64 c2) (.int .i64 s2) (.int .i64 l2) (.int .i64 m2) 48).keep ((Below.refl _ _).alloc (Nat.le_refl _) (.cells #[.int .i64 0, .int .i64 0, .int .i64 0, .int .i64 0] 48))
  have R0 := B4.made ((w.alloc (.cells #[.int .i64 c, .int .i64 s, .int .i64 l, .int .i64 m] 48)).alloc (.cells #[.int .i64 c2, .int .i64 s2, .int .i64 l2, .int .i64 m2] 48)) (.int .i64 0) (.int .i64 0) (.int .i64 0) (.int .i64 0) 48
  simp only [World.size_alloc] at Y0 R0
  have BB : Below w.heap.size w (((w.alloc (.cells #[.int .i64 c, .int .i64 s, .int .i64 l, .int .i64 m] 48)).alloc (.cells #[.int .i64 c2, .int .i64 s2, .int .i64 l2, .int .i64 m2] 48)).alloc (.cells #[.int .i64 0, .int .i64 0, .int .i64 0, .int .i64 0] 48)) := by go_grown
  have zB : w.heap.size + 3 = (((w.alloc (.cells #[.int .i64 c, .int .i64 s, .int .i64 l, .int .i64 m] 48)).alloc (.cells #[.int .i64 c2, .int .i64 s2, .int .i64 l2, .int .i64 m2] 48)).alloc (.cells #[.int .i64 0, .int .i64 0, .int .i64 0, .int .i64 0] 48)).heap.size := by simp
  have hX := X0
  have hY := Y0
  have hR := R0
  obtain ⟨p0, p1, p2, p3, pf, pl⟩ := hX
  obtain ⟨q0, q1, q2, q3, qf, ql⟩ := hY
  obtain ⟨r0, r1, r2, r3, rf, rl⟩ := hR
  go_enter Try.func71, Try.ntmps71
  go_wp2_with fail
  clear p0 p1 p2 p3 pf pl q0 q1 q2 q3 qf ql r0 r1 r2 r3 rf rl
  generalize (((w.alloc (.cells #[.int .i64 c, .int .i64 s, .int .i64 l, .int .i64 m] 48)).alloc (.cells #[.int .i64 c2, .int .i64 s2, .int .i64 l2, .int .i64 m2] 48)).alloc (.cells #[.int .i64 0, .int .i64 0, .int .i64 0, .int .i64 0] 48)) = wA at *
  refine (emptyI_f c s l m _ (by omega)).mono ?_
  rintro e w1 ⟨rfl, hb⟩
  replace X0 := X0.keep hb
  replace Y0 := Y0.keep hb
  replace R0 := R0.keep hb
  replace BB := BB.trans (hb.mono BB.size)
  clear hb
  have hX := X0
  have hY := Y0
  have hR := R0
  obtain ⟨p0, p1, p2, p3, pf, pl⟩ := hX
  obtain ⟨q0, q1, q2, q3, qf, ql⟩ := hY
  obtain ⟨r0, r1, r2, r3, rf, rl⟩ := hR
  go_wp2_with fail
  clear p0 p1 p2 p3 pf pl q0 q1 q2 q3 qf ql r0 r1 r2 r3 rf rl
  refine (emptyI_f c2 s2 l2 m2 _ (by omega)).mono ?_
  rintro e w2 ⟨rfl, hb⟩
  replace X0 := X0.keep hb
  replace Y0 := Y0.keep hb
  replace R0 := R0.keep hb
  replace BB := BB.trans (hb.mono BB.size)
  clear hb
  have hX := X0
  have hY := Y0
  have hR := R0
  obtain ⟨p0, p1, p2, p3, pf, pl⟩ := hX
  obtain ⟨q0, q1, q2, q3, qf, ql⟩ := hY
  obtain ⟨r0, r1, r2, r3, rf, rl⟩ := hR
  have He := Lib.hid (R0.set (.int .i64 (c + c2)) (.int .i64 (s + s2)) (.int .i64 l) (.int .i64 m))
  have BF := below_set4 (g := w.heap.size + 1 + 1) BB (by omega) (.int .i64 (c + c2)) (.int .i64 (s + s2)) (.int .i64 l) (.int .i64 m)
  clear X0 Y0 R0 BB
  go_wp2
  generalize ((((w2.setCell ⟨w.heap.size + 1 + 1, 0, none⟩ (.int .i64 (c + c2))).setCell ⟨w.heap.size + 1 + 1, 1, none⟩ (.int .i64 (s + s2))).setCell ⟨w.heap.size + 1 + 1, 2, none⟩ (.int .i64 l)).setCell ⟨w.heap.size + 1 + 1, 3, none⟩ (.int .i64 m)) = wF at *
  obtain ⟨e0, e1, e2, e3, -, -⟩ := He.out
  (try simp only [Exit.inBlock, Exit.then])
  refine bodyPost_ret (by simp [results, Try.results71, go_sem, e0, e1, e2, e3]; try rfl) rfl ?_
  exact ⟨rfl, BF⟩

theorem mergeI_2 (c s l m c2 s2 l2 m2 : Int) (w : World) (a1 : 1 ≤ c) (a2 : c ≤ 999) (a3 : 1 ≤ c2) (a4 : c2 ≤ 999) (a5 : 0 ≤ s) (a6 : s ≤ 98901) (a7 : 0 ≤ s2) (a8 : s2 ≤ 98901) : Calls Try.prog 71 #[.agg #[.int .i64 c, .int .i64 s, .int .i64 l, .int .i64 m], .agg #[.int .i64 c2, .int .i64 s2, .int .i64 l2, .int .i64 m2]] w fun e w' => e = .returned (.agg #[.int .i64 (c + c2), .int .i64 (s + s2), .int .i64 (mnI l l2), .int .i64 (mxI m m2)]) ∧ Below w.heap.size w w' := by
  rcases (show (l2 < l ∨ l ≤ l2) by omega) with hl | hl <;> rcases (show (m < m2 ∨ m2 ≤ m) by omega) with hm | hm
  · have e1 : mnI l l2 = l2 := by unfold mnI; rw [if_pos hl]
    have e2 : mxI m m2 = m2 := by unfold mxI; rw [if_pos hm]
    rw [e1, e2]
    exact mergeI_2_00 c s l m c2 s2 l2 m2 w a1 a2 a3 a4 a5 a6 a7 a8 hl hm
  · have e1 : mnI l l2 = l2 := by unfold mnI; rw [if_pos hl]
    have e2 : mxI m m2 = m := by unfold mxI; rw [if_neg (by omega)]
    rw [e1, e2]
    exact mergeI_2_01 c s l m c2 s2 l2 m2 w a1 a2 a3 a4 a5 a6 a7 a8 hl hm
  · have e1 : mnI l l2 = l := by unfold mnI; rw [if_neg (by omega)]
    have e2 : mxI m m2 = m2 := by unfold mxI; rw [if_pos hm]
    rw [e1, e2]
    exact mergeI_2_10 c s l m c2 s2 l2 m2 w a1 a2 a3 a4 a5 a6 a7 a8 hl hm
  · have e1 : mnI l l2 = l := by unfold mnI; rw [if_neg (by omega)]
    have e2 : mxI m m2 = m := by unfold mxI; rw [if_neg (by omega)]
    rw [e1, e2]
    exact mergeI_2_11 c s l m c2 s2 l2 m2 w a1 a2 a3 a4 a5 a6 a7 a8 hl hm

end Go.Proofs.Ytehedhkadjidpab
