import Derived.Test.YtjjjlpnbniofjaaCnM
namespace Go.Proofs.Ytjjjlpnbniofjaa
open Go.RowKit
open Go.Maps Go.Sort Go.Shelf
theorem blInfo : (Try.prog.info? 4).map (fun i => (i.zero, i.size, i.bytes)) = some (some (.bool false), 1, 1) := by kernel_rfl
theorem mkBools (N : Nat) (hN : N ≤ 8) (w : World) : (Instr.makeSlice 91 (.int .i64 (N : Int)) (.int .i64 (N : Int))).run Try.prog w = .ok (.slice (some ⟨w.heap.size, 0, none⟩) N N) (w.alloc (.cells (madeCells #[.bool false] N) 4)) := by
  obtain ⟨i0, hi0, hz0, hz1, hz2⟩ := info_parts blInfo
  have h := run_make_rowN (P := Try.prog) 91 4 i0 (.bool false) Try.underlying91 hi0 hz0 .i64 .i64 N N (Nat.le_refl _) (by rw [hz2]; omega) (by omega) w
  rw [hz1, Nat.mul_one] at h
  exact h
set_option maxRecDepth 100000 in
set_option maxHeartbeats 4000000 in
theorem begin_any (N : Nat) (w : World) (h0 : 1 ≤ N) (h1 : N ≤ 8) :
    Calls Try.prog 45 #[.agg #[.int .i64 (N : Int), .int .i64 1, .int .i64 0, .slice none 0 0]] w fun e w' => ∃ A k c, e = .returned (.tuple #[.agg #[.int .i64 (N : Int), .int .i64 2, .int .i64 0, .slice A k c], .int .i64 1, .bool true]) ∧ Below w.heap.size w w' := by
  have X0 := (B4.made w (.int .i64 (N : Int)) (.int .i64 1) (.int .i64 0) (.slice none 0 0) 46).keep ((Below.refl _ _).alloc (Nat.le_refl _) (.cells #[.int .i64 0, .int .i64 0, .int .i64 0, .slice none 0 0] 46))
  have R0 := B4.made (w.alloc (.cells #[.int .i64 (N : Int), .int .i64 1, .int .i64 0, .slice none 0 0] 46)) (.int .i64 0) (.int .i64 0) (.int .i64 0) (.slice none 0 0) 46
  have hB : Below w.heap.size w ((w.alloc (.cells #[.int .i64 (N : Int), .int .i64 1, .int .i64 0, .slice none 0 0] 46)).alloc (.cells #[.int .i64 0, .int .i64 0, .int .i64 0, .slice none 0 0] 46)) := ((Below.refl _ _).alloc (Nat.le_refl _) _).alloc (by simp) _
  simp only [World.size_alloc] at R0
  obtain ⟨p0, p1, p2, p3, pf, pl⟩ := id X0
  go_enter Try.func45, Try.ntmps45
  go_wp2_with fail
  clear p0 p1 p2 p3 pf pl
  generalize ((w.alloc (.cells #[.int .i64 (N : Int), .int .i64 1, .int .i64 0, .slice none 0 0] 46)).alloc (.cells #[.int .i64 0, .int .i64 0, .int .i64 0, .slice none 0 0] 46)) = w0 at *
  refine (validCn_t (N : Int) _ (by omega) (by omega)).mono ?_
  rintro e w1 ⟨rfl, b⟩
  have X1 := X0.keep b
  have R1 := R0.keep b
  have B1 := hB.trans (b.mono hB.size)
  clear X0 R0 hB b
  obtain ⟨p0, p1, p2, p3, pf, pl⟩ := id X1
  go_wp2_with fail
  clear p0 p1 p2 p3 pf pl
  refine (acks_nil (N : Int) 1 0 _).mono ?_
  rintro e w2 ⟨m, rfl, hown, hm, b⟩
  have X2 := X1.keep b
  have R2 := R1.keep b
  have B2 := B1.trans (b.mono B1.size)
  have z1 := X1.2.2.2.2.2
  have z2 := R1.2.2.2.2.2
  clear X1 R1 B1 b
  have hmk := mkBools N h1
  have hs0 : (Maps.size (DataW.map [] : DataW Unit) : Int) = 0 := rfl
  obtain ⟨p0, p1, p2, p3, pf, pl⟩ := id X2
  go_wp2_with (first
    | (at_len; refine wpList_len_own _ rfl _ 88 rfl 3 91 Try.underlying88 slR m 0 _ rfl hown ?_; rw [hs0])
    | (at_mapUpdate; refine wpList_mapUpdate_own _ rfl _ _ _ 88 rfl 3 91 lawI Try.underlying88 slR m 0 _ rfl (hown.alloc _) (by unfold maxLen; omega) _ _ _ rfl rfl (keyI (a := 1) (by omega) (by omega)) _ [] (show slR (.slice _ _ _) = some (.lit (.int .i64 0), []) from rfl) ?_; intro w3 hown3 hgrow3; have X3 := (X2.keep ((Below.refl _ _).alloc (Nat.le_refl _) (.cells (madeCells #[.bool false] N) 4))).kept hgrow3 (by intro e; injection e; omega); have R3 := (R2.keep ((Below.refl _ _).alloc (Nat.le_refl _) (.cells (madeCells #[.bool false] N) 4))).kept hgrow3 (by intro e; injection e; omega); have B3 := (B2.alloc B2.size (.cells (madeCells #[.bool false] N) 4)).trans (below_of_gb (B0 := w.heap.size) hgrow3 (by have := B2.size; simp; omega) (fun g hg => by injection hg with hg; omega)); obtain ⟨y0, y1, y2, y3, yf, yl⟩ := id X3)
    | fail)
  have X4 := X3.set1 (.int .i64 2)
  have R4 := R3.kept (set_grown w3 ⟨w.heap.size, 1, none⟩ (.int .i64 2)) (by simp)
  have B4' := B3.setCell (p := ⟨w.heap.size, 1, none⟩) (by simp) (.int .i64 2)
  have hown4 := hown3.kept (set_grown w3 ⟨w.heap.size, 1, none⟩ (.int .i64 2)) (by intro e; injection e with e; simp at e; omega)
  clear p0 p1 p2 p3 pf pl y0 y1 y2 y3 yf yl X3 R3 B3 hown3 hgrow3 X2 R2 B2 hown hmk
  generalize (w3.setCell ⟨w.heap.size, 1, none⟩ (.int .i64 2)) = w4 at *
  refine (with_any (N : Int) m 1 _ hown4).mono ?_
  rintro e w5 ⟨A, k, c, rfl, b⟩
  have R5 := R4.keep b
  have B5 := B4'.trans (b.mono B4'.size)
  clear X4 R4 B4' hown4 b
  obtain ⟨r0, r1, r2, r3, rf, rl⟩ := id R5
  obtain ⟨y0, y1, y2, y3, -, -⟩ := R5.set (.int .i64 (N : Int)) (.int .i64 2) (.int .i64 0) (.slice A k c)
  have B7 := below_set4 (g := w.heap.size + 1) B5 (by omega) (.int .i64 (N : Int)) (.int .i64 2) (.int .i64 0) (.slice A k c)
  have He := Lib.hid (show _ ∧ _ ∧ _ ∧ _ ∧ _ from ⟨y0, y1, y2, y3, B7⟩)
  clear y0 y1 y2 y3 B7
  go_wp2
  generalize ((((w5.setCell ⟨w.heap.size + 1, 0, none⟩ (.int .i64 (N : Int))).setCell ⟨w.heap.size + 1, 1, none⟩ (.int .i64 2)).setCell ⟨w.heap.size + 1, 2, none⟩ (.int .i64 0)).setCell ⟨w.heap.size + 1, 3, none⟩ (.slice A k c)) = wF at *
  have e := He.out
  (try simp only [Exit.inBlock, Exit.then])
  refine bodyPost_ret (by simp [results, Try.results45, go_sem, e.1, e.2.1, e.2.2.1, e.2.2.2.1]; try rfl) rfl ?_
  exact ⟨A, k, c, rfl, e.2.2.2.2⟩
end Go.Proofs.Ytjjjlpnbniofjaa
