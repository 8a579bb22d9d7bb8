import Derived.Test.YtcpjidbinhfapabAnyCh
namespace Go.Proofs.Ytcpjidbinhfapab
open Go.RowKit
def DrCh (w : World) (e : Ending) (w' : World) : Prop :=
  ∃ (x y : Int) (A : Option Addr) (c : Nat) (l : List ItemR), e = .returned (.agg #[.int .i64 x, .int .i64 y, .slice A l.length c]) ∧ -1 ≤ x ∧ x ≤ 9 ∧ -1 ≤ y ∧ y ≤ 9 ∧ l.length ≤ 8 ∧ Own ItemR.enc 2 32 w' w.heap.size (.slice A l.length c) l ∧ Below w.heap.size w w'
set_option maxRecDepth 100000 in
set_option maxHeartbeats 4000000 in
theorem drawGrantCredit_any (w : World) (a : Option Addr) (len cap : Nat) (z : List Int) (h : IsRow .u8 w a len cap z) (hl : len ≤ 1048576) : Calls Try.prog 20 #[.slice a len cap] w (DrCh w) := by
  have R0 := Bx.made w (.int .i64 0) (.int .i64 0) (.slice none 0 0) 26
  have hB : Below w.heap.size w (w.alloc (.cells #[.int .i64 0, .int .i64 0, .slice none 0 0] 26)) := (Below.refl _ _).alloc (Nat.le_refl _) _
  have zA : w.heap.size + 1 = (w.alloc (.cells #[.int .i64 0, .int .i64 0, .slice none 0 0] 26)).heap.size := by simp
  have h0 := isRow_keep h hB
  go_enter Try.func20, Try.ntmps20
  go_wp2_with fail
  generalize w.alloc (.cells #[.int .i64 0, .int .i64 0, .slice none 0 0] 26) = wA at *
  refine (newReader_any _ a len cap z h0 hl).mono ?_
  rintro e w1 ⟨R, rfl, hR, hrN, hbN⟩
  have R1 := R0.keep hbN
  have B1 := hB.trans (hbN.mono hB.size)
  have lR := rd_lt hrN
  clear R0 hB hbN h0 h
  go_wp2_with fail
  refine (anyChannel_any _ R 0 hrN (by omega)).mono ?_
  rintro e w2 ⟨x, y, A, c, l, p', rfl, x0, x1, y0, y1, l8, o2, -, -, hg2⟩
  have R2 := R1.far hg2 (fun e => by injection e with e; omega)
  have B2 := B1.trans (gr_of_below hg2 B1.size (by omega))
  have hq : ∀ g, Value.ownBlock (.slice A l.length c) = some g → g ≠ w.heap.size := fun g hg => by have := (o2.lt g hg).1; omega
  have of := ((((own_rebase (B := w.heap.size) o2 (by omega)).set (p := ⟨w.heap.size, 0, none⟩) hq (.int .i64 x)).set (p := ⟨w.heap.size, 1, none⟩) hq (.int .i64 y)).set (p := ⟨w.heap.size, 2, none⟩) hq (.slice A l.length c))
  have BF := ((B2.setCell (p := ⟨w.heap.size, 0, none⟩) (Nat.le_refl _) (.int .i64 x)).setCell (p := ⟨w.heap.size, 1, none⟩) (Nat.le_refl _) (.int .i64 y)).setCell (p := ⟨w.heap.size, 2, none⟩) (Nat.le_refl _) (.slice A l.length c)
  obtain ⟨e0, e1, e2, -, -⟩ := ((R2.set0 (.int .i64 x)).set1 (.int .i64 y)).set2 (.slice A l.length c)
  have He := Lib.hid (show _ ∧ _ ∧ _ from ⟨e0, e1, e2⟩)
  obtain ⟨r0, r1, r2, rf, rl⟩ := R2
  clear e0 e1 e2 hrN R1 B1 hg2 o2 B2
  go_wp2
  generalize (((w2.setCell ⟨w.heap.size, 0, none⟩ (.int .i64 x)).setCell ⟨w.heap.size, 1, none⟩ (.int .i64 y)).setCell ⟨w.heap.size, 2, none⟩ (.slice A l.length c)) = wF at *
  have e := He.out
  (try simp only [Exit.inBlock, Exit.then])
  refine bodyPost_ret (by simp [results, Try.results20, go_sem, e.1, e.2.1, e.2.2]; try rfl) rfl ?_
  exact ⟨x, y, A, c, l, rfl, x0, x1, y0, y1, l8, of, BF⟩
set_option maxRecDepth 100000 in
set_option maxHeartbeats 4000000 in
theorem drawTakeItem_any (w : World) (a : Option Addr) (len cap : Nat) (z : List Int) (h : IsRow .u8 w a len cap z) (hl : len ≤ 1048576) : Calls Try.prog 17 #[.slice a len cap] w (DrCh w) := by
  have R0 := Bx.made w (.int .i64 0) (.int .i64 0) (.slice none 0 0) 26
  have hB : Below w.heap.size w (w.alloc (.cells #[.int .i64 0, .int .i64 0, .slice none 0 0] 26)) := (Below.refl _ _).alloc (Nat.le_refl _) _
  have zA : w.heap.size + 1 = (w.alloc (.cells #[.int .i64 0, .int .i64 0, .slice none 0 0] 26)).heap.size := by simp
  have h0 := isRow_keep h hB
  go_enter Try.func17, Try.ntmps17
  go_wp2_with fail
  generalize w.alloc (.cells #[.int .i64 0, .int .i64 0, .slice none 0 0] 26) = wA at *
  refine (newReader_any _ a len cap z h0 hl).mono ?_
  rintro e w1 ⟨R, rfl, hR, hrN, hbN⟩
  have R1 := R0.keep hbN
  have B1 := hB.trans (hbN.mono hB.size)
  have lR := rd_lt hrN
  clear R0 hB hbN h0 h
  go_wp2_with fail
  refine (anyChannel_any _ R 0 hrN (by omega)).mono ?_
  rintro e w2 ⟨x, y, A, c, l, p', rfl, x0, x1, y0, y1, l8, o2, -, -, hg2⟩
  have R2 := R1.far hg2 (fun e => by injection e with e; omega)
  have B2 := B1.trans (gr_of_below hg2 B1.size (by omega))
  have hq : ∀ g, Value.ownBlock (.slice A l.length c) = some g → g ≠ w.heap.size := fun g hg => by have := (o2.lt g hg).1; omega
  have of := ((((own_rebase (B := w.heap.size) o2 (by omega)).set (p := ⟨w.heap.size, 0, none⟩) hq (.int .i64 x)).set (p := ⟨w.heap.size, 1, none⟩) hq (.int .i64 y)).set (p := ⟨w.heap.size, 2, none⟩) hq (.slice A l.length c))
  have BF := ((B2.setCell (p := ⟨w.heap.size, 0, none⟩) (Nat.le_refl _) (.int .i64 x)).setCell (p := ⟨w.heap.size, 1, none⟩) (Nat.le_refl _) (.int .i64 y)).setCell (p := ⟨w.heap.size, 2, none⟩) (Nat.le_refl _) (.slice A l.length c)
  obtain ⟨e0, e1, e2, -, -⟩ := ((R2.set0 (.int .i64 x)).set1 (.int .i64 y)).set2 (.slice A l.length c)
  have He := Lib.hid (show _ ∧ _ ∧ _ from ⟨e0, e1, e2⟩)
  obtain ⟨r0, r1, r2, rf, rl⟩ := R2
  clear e0 e1 e2 hrN R1 B1 hg2 o2 B2
  go_wp2
  generalize (((w2.setCell ⟨w.heap.size, 0, none⟩ (.int .i64 x)).setCell ⟨w.heap.size, 1, none⟩ (.int .i64 y)).setCell ⟨w.heap.size, 2, none⟩ (.slice A l.length c)) = wF at *
  have e := He.out
  (try simp only [Exit.inBlock, Exit.then])
  refine bodyPost_ret (by simp [results, Try.results17, go_sem, e.1, e.2.1, e.2.2]; try rfl) rfl ?_
  exact ⟨x, y, A, c, l, rfl, x0, x1, y0, y1, l8, of, BF⟩
end Go.Proofs.Ytcpjidbinhfapab
