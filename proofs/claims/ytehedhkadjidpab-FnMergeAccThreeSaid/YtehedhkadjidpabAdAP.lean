import Derived.Test.YtehedhkadjidpabRg4P
import Derived.Test.YtehedhkadjidpabInR
namespace Go.Proofs.Ytehedhkadjidpab
open Go.RowKit
set_option maxHeartbeats 1000000 in
theorem sgS_any (v : Int) (w : World) : Calls Try.prog 75 #[.int .i64 v] w fun e w' => e = .returned (.agg #[.int .i64 1, .int .i64 v, .int .i64 v, .int .i64 v]) ∧ Below w.heap.size w w' := by
  go_enter Try.func75, Try.ntmps75
  go_wp2
  all_goals go_returns
  all_goals exact ⟨rfl, by go_grown⟩
set_option maxHeartbeats 1000000 in
theorem sgI_any (v : Int) (w : World) : Calls Try.prog 74 #[.int .i64 v] w fun e w' => e = .returned (.agg #[.int .i64 1, .int .i64 v, .int .i64 v, .int .i64 v]) ∧ Below w.heap.size w w' := by
  go_enter Try.func74, Try.ntmps74
  go_wp2
  all_goals go_returns
  all_goals exact ⟨rfl, by go_grown⟩
set_option maxRecDepth 100000 in
set_option maxHeartbeats 4000000 in
theorem adI_any (c s l m v : Int) (w : World) : Calls Try.prog 37 #[.agg #[.int .i64 c, .int .i64 s, .int .i64 l, .int .i64 m], .int .i64 v] w fun e w' => e = .returned (MG c s l m 1 v v v) ∧ Below w.heap.size w w' := by
  have X0 := (B4.made w (.int .i64 c) (.int .i64 s) (.int .i64 l) (.int .i64 m) 48).keep ((Below.refl _ _).alloc (Nat.le_refl _) (.cells #[.int .i64 0, .int .i64 0, .int .i64 0, .int .i64 0] 48))
  have R0 := B4.made (w.alloc (.cells #[.int .i64 c, .int .i64 s, .int .i64 l, .int .i64 m] 48)) (.int .i64 0) (.int .i64 0) (.int .i64 0) (.int .i64 0) 48
  simp only [World.size_alloc] at R0
  have hB : Below w.heap.size w ((w.alloc (.cells #[.int .i64 c, .int .i64 s, .int .i64 l, .int .i64 m] 48)).alloc (.cells #[.int .i64 0, .int .i64 0, .int .i64 0, .int .i64 0] 48)) := by go_grown
  have zA : ((w.alloc (.cells #[.int .i64 c, .int .i64 s, .int .i64 l, .int .i64 m] 48)).alloc (.cells #[.int .i64 0, .int .i64 0, .int .i64 0, .int .i64 0] 48)).heap.size = w.heap.size + 2 := by simp
  obtain ⟨p0, p1, p2, p3, pf, pl⟩ := X0
  go_enter Try.func37, Try.ntmps37
  go_wp2_with fail
  generalize ((w.alloc (.cells #[.int .i64 c, .int .i64 s, .int .i64 l, .int .i64 m] 48)).alloc (.cells #[.int .i64 0, .int .i64 0, .int .i64 0, .int .i64 0] 48)) = wA at *
  have zz : wA.heap.size ≤ wA.heap.size := Nat.le_refl _
  have KK : Below wA.heap.size wA wA := Below.refl _ _
  go_region_held3 (fun w' => w'.cell? ⟨w.heap.size, 0, none⟩ = some (.int .i64 c) ∧ w'.cell? ⟨w.heap.size, 1, none⟩ = some (.int .i64 s) ∧ w'.cell? ⟨w.heap.size, 2, none⟩ = some (.int .i64 l) ∧ w'.cell? ⟨w.heap.size, 3, none⟩ = some (.int .i64 m) ∧ wA.heap.size ≤ w'.heap.size ∧ Below w.heap.size w w') (((repeat' apply And.intro) <;> first | (with_reducible assumption) | (simp only [World.cell?_drew]; with_reducible assumption) | (simp only [World.size_drew]; with_reducible assumption) | (exact Below.drew (by with_reducible assumption)) | (exact below_set4 L2_r (by omega) _ _ _ _) | (simp [World.setCell]; omega) | (go_keep; done) | (simp [go_sem, *]; done))) (first | (go_at_call 74; go_split_ands; (with_reducible refine (sgI_any v _).mono ?_); rintro e v1 ⟨rfl, b1_r⟩; have K1_r : Below wA.heap.size wA v1 := Below.trans (Below.refl wA.heap.size wA).drew (b1_r.mono (by simp)); have z1_r := K1_r.size; have L1_r := hB.trans (K1_r.mono hB.size); have s0_1 := (K1_r.cell pl).trans p0; have s1_1 := (K1_r.cell pl).trans p1; have s2_1 := (K1_r.cell pl).trans p2; have s3_1 := (K1_r.cell pl).trans p3; have hR1 := R0.keep K1_r; obtain ⟨r0, r1, r2, r3, rf, rl⟩ := hR1) | (go_at_call 34; go_split_ands; refine (mgI_x c s l m 1 v v v _).mono ?_; rintro e v2 ⟨rfl, b2_r⟩; have K2_r : Below wA.heap.size wA v2 := K1_r.trans (b2_r.mono K1_r.size); have z2_r := K2_r.size; have L2_r := hB.trans (K2_r.mono hB.size); have s0_2 := (K2_r.cell pl).trans p0; have s1_2 := (K2_r.cell pl).trans p1; have s2_2 := (K2_r.cell pl).trans p2; have s3_2 := (K2_r.cell pl).trans p3; have hR2 := R0.keep K2_r; obtain ⟨r0, r1, r2, r3, rf, rl⟩ := hR2))
  rename_i hHeld
  clear hHeld
  have BF := below_set4 (g := w.heap.size + 1) (hB.trans (K2_r.mono hB.size)) (by omega) (.int .i64 (mgC c s l m 1 v v v)) (.int .i64 (mgS c s l m 1 v v v)) (.int .i64 (mgL c s l m 1 v v v)) (.int .i64 (mgM c s l m 1 v v v))
  obtain ⟨e0, e1, e2, e3, -, -⟩ := (R0.keep K2_r).set (.int .i64 (mgC c s l m 1 v v v)) (.int .i64 (mgS c s l m 1 v v v)) (.int .i64 (mgL c s l m 1 v v v)) (.int .i64 (mgM c s l m 1 v v v))
  have He := Lib.hid (show _ ∧ _ ∧ _ ∧ _ from ⟨e0, e1, e2, e3⟩)
  clear e0 e1 e2 e3
  go_wp2_with fail
  generalize ((((v2.setCell ⟨w.heap.size + 1, 0, none⟩ (.int .i64 (mgC c s l m 1 v v v))).setCell ⟨w.heap.size + 1, 1, none⟩ (.int .i64 (mgS c s l m 1 v v v))).setCell ⟨w.heap.size + 1, 2, none⟩ (.int .i64 (mgL c s l m 1 v v v))).setCell ⟨w.heap.size + 1, 3, none⟩ (.int .i64 (mgM c s l m 1 v v v))) = wF at *
  have e := He.out
  (try simp only [Exit.inBlock, Exit.then])
  refine bodyPost_ret (by simp [results, Try.results37, go_sem, e.1, e.2.1, e.2.2.1, e.2.2.2]; try rfl) rfl ?_
  exact ⟨rfl, BF⟩
theorem mg_bad {c s l m v : Int} (h : ¬ (0 ≤ v ∧ v ≤ 99)) : MG c s l m 1 v v v = MV 0 0 0 0 false :=
  mg_no (fun h' => by have := h'.2.1; unfold vAccP at this; omega)
set_option maxRecDepth 100000 in
set_option maxHeartbeats 4000000 in
theorem adS_any (c s l m v : Int) (w : World) : Calls Try.prog 38 #[.agg #[.int .i64 c, .int .i64 s, .int .i64 l, .int .i64 m], .int .i64 v] w fun e w' => e = .returned (MG c s l m 1 v v v) ∧ Below w.heap.size w w' := by
  by_cases hv : 0 ≤ v ∧ v ≤ 99
  · obtain ⟨v0, v9⟩ := hv
    have X0 := (B4.made w (.int .i64 c) (.int .i64 s) (.int .i64 l) (.int .i64 m) 48).keep ((Below.refl _ _).alloc (Nat.le_refl _) (.cells #[.int .i64 0, .int .i64 0, .int .i64 0, .int .i64 0] 48))
    have R0 := B4.made (w.alloc (.cells #[.int .i64 c, .int .i64 s, .int .i64 l, .int .i64 m] 48)) (.int .i64 0) (.int .i64 0) (.int .i64 0) (.int .i64 0) 48
    simp only [World.size_alloc] at R0
    have hB : Below w.heap.size w ((w.alloc (.cells #[.int .i64 c, .int .i64 s, .int .i64 l, .int .i64 m] 48)).alloc (.cells #[.int .i64 0, .int .i64 0, .int .i64 0, .int .i64 0] 48)) := by go_grown
    have zA : ((w.alloc (.cells #[.int .i64 c, .int .i64 s, .int .i64 l, .int .i64 m] 48)).alloc (.cells #[.int .i64 0, .int .i64 0, .int .i64 0, .int .i64 0] 48)).heap.size = w.heap.size + 2 := by simp
    obtain ⟨p0, p1, p2, p3, pf, pl⟩ := X0
    go_enter Try.func38, Try.ntmps38
    go_wp2_with (first | (go_at_call 66; refine (inRS_t v 0 99 _ v0 v9).mono ?_; rintro e w1 ⟨rfl, rfl⟩) | fail)
    generalize ((w.alloc (.cells #[.int .i64 c, .int .i64 s, .int .i64 l, .int .i64 m] 48)).alloc (.cells #[.int .i64 0, .int .i64 0, .int .i64 0, .int .i64 0] 48)) = wA at *
    have zz : wA.heap.size ≤ wA.heap.size := Nat.le_refl _
    have KK : Below wA.heap.size wA wA := Below.refl _ _
    go_region_held3 (fun w' => w'.cell? ⟨w.heap.size, 0, none⟩ = some (.int .i64 c) ∧ w'.cell? ⟨w.heap.size, 1, none⟩ = some (.int .i64 s) ∧ w'.cell? ⟨w.heap.size, 2, none⟩ = some (.int .i64 l) ∧ w'.cell? ⟨w.heap.size, 3, none⟩ = some (.int .i64 m) ∧ wA.heap.size ≤ w'.heap.size ∧ Below w.heap.size w w') (((repeat' apply And.intro) <;> first | (with_reducible assumption) | (simp only [World.cell?_drew]; with_reducible assumption) | (simp only [World.size_drew]; with_reducible assumption) | (exact Below.drew (by with_reducible assumption)) | (exact below_set4 L2_r (by omega) _ _ _ _) | (simp [World.setCell]; omega) | (go_keep; done) | (simp [go_sem, *]; done))) (first | (go_at_call 75; go_split_ands; (with_reducible refine (sgS_any v _).mono ?_); rintro e v1 ⟨rfl, b1_r⟩; have K1_r : Below wA.heap.size wA v1 := Below.trans (Below.refl wA.heap.size wA).drew (b1_r.mono (by simp)); have z1_r := K1_r.size; have L1_r := hB.trans (K1_r.mono hB.size); have s0_1 := (K1_r.cell pl).trans p0; have s1_1 := (K1_r.cell pl).trans p1; have s2_1 := (K1_r.cell pl).trans p2; have s3_1 := (K1_r.cell pl).trans p3; have hR1 := R0.keep K1_r; obtain ⟨r0, r1, r2, r3, rf, rl⟩ := hR1) | (go_at_call 35; go_split_ands; refine (mgS_x c s l m 1 v v v _).mono ?_; rintro e v2 ⟨rfl, b2_r⟩; have K2_r : Below wA.heap.size wA v2 := K1_r.trans (b2_r.mono K1_r.size); have z2_r := K2_r.size; have L2_r := hB.trans (K2_r.mono hB.size); have s0_2 := (K2_r.cell pl).trans p0; have s1_2 := (K2_r.cell pl).trans p1; have s2_2 := (K2_r.cell pl).trans p2; have s3_2 := (K2_r.cell pl).trans p3; have hR2 := R0.keep K2_r; obtain ⟨r0, r1, r2, r3, rf, rl⟩ := hR2))
    rename_i hHeld
    clear hHeld
    have BF := below_set4 (g := w.heap.size + 1) (hB.trans (K2_r.mono hB.size)) (by omega) (.int .i64 (mgC c s l m 1 v v v)) (.int .i64 (mgS c s l m 1 v v v)) (.int .i64 (mgL c s l m 1 v v v)) (.int .i64 (mgM c s l m 1 v v v))
    obtain ⟨e0, e1, e2, e3, -, -⟩ := (R0.keep K2_r).set (.int .i64 (mgC c s l m 1 v v v)) (.int .i64 (mgS c s l m 1 v v v)) (.int .i64 (mgL c s l m 1 v v v)) (.int .i64 (mgM c s l m 1 v v v))
    have He := Lib.hid (show _ ∧ _ ∧ _ ∧ _ from ⟨e0, e1, e2, e3⟩)
    clear e0 e1 e2 e3
    go_wp2_with fail
    generalize ((((v2.setCell ⟨w.heap.size + 1, 0, none⟩ (.int .i64 (mgC c s l m 1 v v v))).setCell ⟨w.heap.size + 1, 1, none⟩ (.int .i64 (mgS c s l m 1 v v v))).setCell ⟨w.heap.size + 1, 2, none⟩ (.int .i64 (mgL c s l m 1 v v v))).setCell ⟨w.heap.size + 1, 3, none⟩ (.int .i64 (mgM c s l m 1 v v v))) = wF at *
    have e := He.out
    (try simp only [Exit.inBlock, Exit.then])
    refine bodyPost_ret (by simp [results, Try.results38, go_sem, e.1, e.2.1, e.2.2.1, e.2.2.2]; try rfl) rfl ?_
    exact ⟨rfl, BF⟩
  · have HM := Lib.hid (mg_bad (c := c) (s := s) (l := l) (m := m) hv)
    have Hv := Lib.hid hv
    clear hv
    go_enter Try.func38, Try.ntmps38
    go_wp2_with (first | (go_at_call 66; refine (inRS_f v 0 99 _ Hv.out).mono ?_; rintro e w1 ⟨rfl, rfl⟩) | fail)
    all_goals go_returns
    all_goals (rw [HM.out]; exact ⟨rfl, by go_grown⟩)
theorem adS_x (c s l m v : Int) (w : World) : Calls Try.prog 38 #[.agg #[.int .i64 c, .int .i64 s, .int .i64 l, .int .i64 m], .int .i64 v] w
    fun e w' => e = .returned (.tuple #[.agg #[.int .i64 (mgC c s l m 1 v v v), .int .i64 (mgS c s l m 1 v v v), .int .i64 (mgL c s l m 1 v v v), .int .i64 (mgM c s l m 1 v v v)], .bool (mgK c s l m 1 v v v)]) ∧ Below w.heap.size w w' := adS_any c s l m v w
theorem adI_x (c s l m v : Int) (w : World) : Calls Try.prog 37 #[.agg #[.int .i64 c, .int .i64 s, .int .i64 l, .int .i64 m], .int .i64 v] w
    fun e w' => e = .returned (.tuple #[.agg #[.int .i64 (mgC c s l m 1 v v v), .int .i64 (mgS c s l m 1 v v v), .int .i64 (mgL c s l m 1 v v v), .int .i64 (mgM c s l m 1 v v v)], .bool (mgK c s l m 1 v v v)]) ∧ Below w.heap.size w w' := adI_any c s l m v w
end Go.Proofs.Ytehedhkadjidpab
