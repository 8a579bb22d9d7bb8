/- The law FnExactGrantCredit answers true at every input and leaves its arguments as they were; no condition. -/
import Derived.Test.YtcpjidbinhfapaaRows
import Derived.WalkKit
import Derived.WalkSpells
import Derived.WalkLawsBesides
import Derived.ProofKit
import Derived.OpenShut
import Derived.ShutString
import Derived.ChangeOld
import Derived.Below
import Derived.Lib.SmallJoins
import Derived.Handy
import Derived.Test.YtcpjidbinhfapaaChL
import Derived.Test.YtcpjidbinhfapaaChH
import Derived.Test.YtcpjidbinhfapaaBo
import Derived.Test.YtcpjidbinhfapaaTyCellItem
namespace Go.Proofs.Ytcpjidbinhfapaa.fnExactGrantCredit
open Go.ChangeShapes Go.WideShapes Go.ChangeAt Go.RowKit Go.Joins
open Go.ChangeMaps (open_string shut_string)
set_option linter.unusedVariables false

theorem own : ownKnob Try.prog.godebug = none := by kernel_rfl
theorem laidOut : laidOutB Try.prog = true := by kernel_rfl
theorem cells44 : Try.prog.cellsOf 44 = 3 := by kernel_rfl
set_option maxHeartbeats 1000000 in
theorem walk (x0Buffers : Int) (x0Credits : Int) (a0_2 : Option Addr) (cap0_2 : Nat) (ls0_2 : List ItemR) (w : World) (l0_0 : -9223372036854775808 ≤ x0Buffers) (u0_0 : x0Buffers ≤ 9223372036854775807) (l0_1 : -9223372036854775808 ≤ x0Credits) (u0_1 : x0Credits ≤ 9223372036854775807) (m0_2 : ls0_2.length ≤ maxLen) (w0_2 : RowA ItemR.enc 2 w a0_2 ls0_2) :
    Calls Try.prog 14 #[.agg #[.int .i64 x0Buffers, .int .i64 x0Credits, .slice a0_2 ls0_2.length cap0_2]] w fun e w' => e = .returned (.bool true) ∧ Below w.heap.size w w' := by
  have hl2 := m0_2
  by_cases hlen : ls0_2.length ≤ 1048576
  · have ha2 : Row ItemR.enc 2 w a0_2 ls0_2 := ⟨by omega, w0_2⟩
    clear hl2 w0_2 m0_2
    have P_0 := Bo.made w #[.int .i64 x0Buffers, .int .i64 x0Credits, .slice a0_2 ls0_2.length cap0_2] 44
    have B0 : Below w.heap.size w (w.alloc (.cells #[.int .i64 x0Buffers, .int .i64 x0Credits, .slice a0_2 ls0_2.length cap0_2] 44)) := (Below.refl _ _).alloc (Nat.le_refl _) _
    have zgP : w.heap.size < (w.alloc (.cells #[.int .i64 x0Buffers, .int .i64 x0Credits, .slice a0_2 ls0_2.length cap0_2] 44)).heap.size := by simp
    go_enter Try.func14, Try.ntmps14
    go_wp2_with fail
    generalize (w.alloc (.cells #[.int .i64 x0Buffers, .int .i64 x0Credits, .slice a0_2 ls0_2.length cap0_2] 44)) = u0 at *
    refine (szChannel_ok x0Buffers x0Credits a0_2 ls0_2.length cap0_2 1048576 _ (by omega) (by omega)).mono ?_
    rintro e u1 ⟨rfl, b⟩
    have B1 := B0.trans (b.mono B0.size)
    have z1 := b.size
    have P_1 := P_0.keep b
    clear P_0 b
    have pP0 := P_1.1 0 _ rfl
    have pP1 := P_1.1 1 _ rfl
    have pP2 := P_1.1 2 _ rfl
    have plP := P_1.2
    go_wp2_with fail
    clear pP0 pP1 pP2 plP
    refine (toChannel_any x0Buffers x0Credits a0_2 cap0_2 ls0_2 _ (ha2.keep B1)).mono ?_
    rintro e u2 ⟨As1, cs1, rfl, qs1, b⟩
    have B2 := B1.trans (b.mono B1.size)
    have z2 := b.size
    have P_2 := P_1.keep b
    clear P_1 b
    have os1_2 := qs1
    clear qs1
    have loos1 : ∀ g, Value.ownBlock (.slice As1 (ls0_2).length cs1) = some g → u1.heap.size ≤ g := fun g hg => (os1_2.lt g hg).1
    have hios1 : ∀ g, Value.ownBlock (.slice As1 (ls0_2).length cs1) = some g → g < u2.heap.size := fun g hg => (os1_2.lt g hg).2
    have pP0 := P_2.1 0 _ rfl
    have pP1 := P_2.1 1 _ rfl
    have pP2 := P_2.1 2 _ rfl
    have plP := P_2.2
    go_wp2_with fail
    clear pP0 pP1 pP2 plP
    refine (specGc_any x0Buffers x0Credits As1 cs1 (ls0_2)  _ (os1_2.row ItemR.enc_len)).mono ?_
    rintro e u3 ⟨Aw1, cw1, rfl, qw1, b⟩
    have B3 := B2.trans (b.mono B2.size)
    have z3 := b.size
    have P_3 := P_2.keep b
    have os1_3 := os1_2.keep b
    clear P_2 os1_2 b
    have ow1_3 := qw1
    clear qw1
    have loow1 : ∀ g, Value.ownBlock (.slice Aw1 ((gc x0Buffers x0Credits ls0_2).2.2.1).length cw1) = some g → u2.heap.size ≤ g := fun g hg => (ow1_3.lt g hg).1
    have hiow1 : ∀ g, Value.ownBlock (.slice Aw1 ((gc x0Buffers x0Credits ls0_2).2.2.1).length cw1) = some g → g < u3.heap.size := fun g hg => (ow1_3.lt g hg).2
    clear os1_3
    have bv : Below u3.heap.size u3 (u3.alloc (.cells #[.int .i64 (gc x0Buffers x0Credits ls0_2).1, .int .i64 (gc x0Buffers x0Credits ls0_2).2.1, .slice Aw1 ((gc x0Buffers x0Credits ls0_2).2.2.1).length cw1] 38)) := (Below.refl _ _).alloc (Nat.le_refl _) _
    have nb := Bo.made u3 #[.int .i64 (gc x0Buffers x0Credits ls0_2).1, .int .i64 (gc x0Buffers x0Credits ls0_2).2.1, .slice Aw1 ((gc x0Buffers x0Credits ls0_2).2.2.1).length cw1] 38
    have zgW : u3.heap.size < (u3.alloc (.cells #[.int .i64 (gc x0Buffers x0Credits ls0_2).1, .int .i64 (gc x0Buffers x0Credits ls0_2).2.1, .slice Aw1 ((gc x0Buffers x0Credits ls0_2).2.2.1).length cw1] 38)).heap.size := by simp
    have B4 := B3.trans (bv.mono B3.size)
    have z4 := bv.size
    have P_4 := P_3.keep bv
    have ow1_4 := ow1_3.keep bv
    clear P_3 ow1_3 bv
    have W_4 := nb
    clear nb
    have pP0 := P_4.1 0 _ rfl
    have pP1 := P_4.1 1 _ rfl
    have pP2 := P_4.1 2 _ rfl
    have plP := P_4.2
    go_wp2_with fail
    clear pP0 pP1 pP2 plP
    generalize (u3.alloc (.cells #[.int .i64 (gc x0Buffers x0Credits ls0_2).1, .int .i64 (gc x0Buffers x0Credits ls0_2).2.1, .slice Aw1 ((gc x0Buffers x0Credits ls0_2).2.2.1).length cw1] 38)) = u4 at *
    refine (toChannel_any x0Buffers x0Credits a0_2 cap0_2 ls0_2 _ (ha2.keep B4)).mono ?_
    rintro e u5 ⟨Ax1, cx1, rfl, qx1, b⟩
    have B5 := B4.trans (b.mono B4.size)
    have z5 := b.size
    have P_5 := P_4.keep b
    have W_5 := W_4.keep b
    have ow1_5 := ow1_4.keep b
    clear P_4 W_4 ow1_4 b
    have ox1_5 := qx1
    clear qx1
    have loox1 : ∀ g, Value.ownBlock (.slice Ax1 (ls0_2).length cx1) = some g → u4.heap.size ≤ g := fun g hg => (ox1_5.lt g hg).1
    have hiox1 : ∀ g, Value.ownBlock (.slice Ax1 (ls0_2).length cx1) = some g → g < u5.heap.size := fun g hg => (ox1_5.lt g hg).2
    have bv : Below u5.heap.size u5 (u5.alloc (.cells #[.int .i64 x0Buffers, .int .i64 x0Credits, .slice Ax1 (ls0_2).length cx1] 38)) := (Below.refl _ _).alloc (Nat.le_refl _) _
    have nb := Bo.made u5 #[.int .i64 x0Buffers, .int .i64 x0Credits, .slice Ax1 (ls0_2).length cx1] 38
    have zgX : u5.heap.size < (u5.alloc (.cells #[.int .i64 x0Buffers, .int .i64 x0Credits, .slice Ax1 (ls0_2).length cx1] 38)).heap.size := by simp
    have B6 := B5.trans (bv.mono B5.size)
    have z6 := bv.size
    have P_6 := P_5.keep bv
    have W_6 := W_5.keep bv
    have ow1_6 := ow1_5.keep bv
    have ox1_6 := ox1_5.keep bv
    clear P_5 W_5 ow1_5 ox1_5 bv
    have X_6 := nb
    clear nb
    have pX0 := X_6.1 0 _ rfl
    have pX1 := X_6.1 1 _ rfl
    have pX2 := X_6.1 2 _ rfl
    have plX := X_6.2
    go_wp2_with fail
    clear pX0 pX1 pX2 plX
    generalize (u5.alloc (.cells #[.int .i64 x0Buffers, .int .i64 x0Credits, .slice Ax1 (ls0_2).length cx1] 38)) = u6 at *
    refine (implGc_any x0Buffers x0Credits Ax1 cx1 (ls0_2)  _ (ox1_6.row ItemR.enc_len)).mono ?_
    rintro e u7 ⟨Ag1, cg1, rfl, qg1, b⟩
    have B7 := B6.trans (b.mono B6.size)
    have z7 := b.size
    have P_7 := P_6.keep b
    have W_7 := W_6.keep b
    have X_7 := X_6.keep b
    have ow1_7 := ow1_6.keep b
    have ox1_7 := ox1_6.keep b
    clear P_6 W_6 X_6 ow1_6 ox1_6 b
    have og1_7 := qg1
    clear qg1
    have loog1 : ∀ g, Value.ownBlock (.slice Ag1 ((gc x0Buffers x0Credits ls0_2).2.2.1).length cg1) = some g → u6.heap.size ≤ g := fun g hg => (og1_7.lt g hg).1
    have hiog1 : ∀ g, Value.ownBlock (.slice Ag1 ((gc x0Buffers x0Credits ls0_2).2.2.1).length cg1) = some g → g < u7.heap.size := fun g hg => (og1_7.lt g hg).2
    have bv : Below u7.heap.size u7 (u7.alloc (.cells #[.int .i64 (gc x0Buffers x0Credits ls0_2).1, .int .i64 (gc x0Buffers x0Credits ls0_2).2.1, .slice Ag1 ((gc x0Buffers x0Credits ls0_2).2.2.1).length cg1] 38)) := (Below.refl _ _).alloc (Nat.le_refl _) _
    have nb := Bo.made u7 #[.int .i64 (gc x0Buffers x0Credits ls0_2).1, .int .i64 (gc x0Buffers x0Credits ls0_2).2.1, .slice Ag1 ((gc x0Buffers x0Credits ls0_2).2.2.1).length cg1] 38
    have zgG : u7.heap.size < (u7.alloc (.cells #[.int .i64 (gc x0Buffers x0Credits ls0_2).1, .int .i64 (gc x0Buffers x0Credits ls0_2).2.1, .slice Ag1 ((gc x0Buffers x0Credits ls0_2).2.2.1).length cg1] 38)).heap.size := by simp
    have B8 := B7.trans (bv.mono B7.size)
    have z8 := bv.size
    have P_8 := P_7.keep bv
    have W_8 := W_7.keep bv
    have X_8 := X_7.keep bv
    have ow1_8 := ow1_7.keep bv
    have ox1_8 := ox1_7.keep bv
    have og1_8 := og1_7.keep bv
    clear P_7 W_7 X_7 ow1_7 ox1_7 og1_7 bv
    have G_8 := nb
    clear nb
    have pG0 := G_8.1 0 _ rfl
    have pG1 := G_8.1 1 _ rfl
    have pG2 := G_8.1 2 _ rfl
    have plG := G_8.2
    have pW0 := W_8.1 0 _ rfl
    have pW1 := W_8.1 1 _ rfl
    have pW2 := W_8.1 2 _ rfl
    have plW := W_8.2
    go_wp2_with fail
    clear pG0 pG1 pG2 plG
    clear pW0 pW1 pW2 plW
    generalize (u7.alloc (.cells #[.int .i64 (gc x0Buffers x0Credits ls0_2).1, .int .i64 (gc x0Buffers x0Credits ls0_2).2.1, .slice Ag1 ((gc x0Buffers x0Credits ls0_2).2.2.1).length cg1] 38)) = u8 at *
    refine (eqChannel_same (gc x0Buffers x0Credits ls0_2).1 (gc x0Buffers x0Credits ls0_2).2.1 Ag1 cg1 Aw1 cw1 ((gc x0Buffers x0Credits ls0_2).2.2.1) _ (og1_8.row ItemR.enc_len) (ow1_8.row ItemR.enc_len)).mono ?_
    rintro e u9 ⟨rfl, b⟩
    have B9 := B8.trans (b.mono B8.size)
    have z9 := b.size
    have P_9 := P_8.keep b
    have W_9 := W_8.keep b
    have X_9 := X_8.keep b
    have G_9 := G_8.keep b
    have ow1_9 := ow1_8.keep b
    have ox1_9 := ox1_8.keep b
    have og1_9 := og1_8.keep b
    clear P_8 W_8 X_8 G_8 ow1_8 ox1_8 og1_8 b
    have pX0 := X_9.1 0 _ rfl
    have pX1 := X_9.1 1 _ rfl
    have pX2 := X_9.1 2 _ rfl
    have plX := X_9.2
    have pP0 := P_9.1 0 _ rfl
    have pP1 := P_9.1 1 _ rfl
    have pP2 := P_9.1 2 _ rfl
    have plP := P_9.2
    go_wp2_with fail
    have yy : u9.heap.size ≤ u9.heap.size := Nat.le_refl _
    go_region_held3 (fun w' => w'.cell? ⟨u5.heap.size, 0, none⟩ = some (.int .i64 x0Buffers) ∧ w'.cell? ⟨u5.heap.size, 1, none⟩ = some (.int .i64 x0Credits) ∧ w'.cell? ⟨u5.heap.size, 2, none⟩ = some (.slice Ax1 (ls0_2).length cx1) ∧ w'.cell? ⟨w.heap.size, 0, none⟩ = some (.int .i64 x0Buffers) ∧ w'.cell? ⟨w.heap.size, 1, none⟩ = some (.int .i64 x0Credits) ∧ w'.cell? ⟨w.heap.size, 2, none⟩ = some (.slice a0_2 ls0_2.length cap0_2) ∧ u9.heap.size ≤ w'.heap.size ∧ Below w.heap.size w w') (((repeat' apply And.intro) <;> first | assumption | (simp only [World.cell?_drew]; assumption) | (simp only [World.size_drew]; assumption) | (exact Below.drew (by assumption)))) (first | (go_at_call 38; go_split_ands; refine (toChannel_any x0Buffers x0Credits a0_2 cap0_2 ls0_2 _ (ha2.keep (by assumption))).mono ?_; rintro e u10 ⟨At1, ct1, rfl, qt1, b10⟩; have z10 := b10.size; (try simp only [World.size_drew] at z10); have y10 : u9.heap.size ≤ u10.heap.size := (by omega); have K10 : Below w.heap.size w u10 := Below.trans (by assumption) (b10.mono (by first | omega | (simp; omega))); have sX0_10 : u10.cell? ⟨u5.heap.size, 0, none⟩ = some (.int .i64 x0Buffers) := (b10.cell (by first | omega | (simp; omega))).trans (by assumption); have sX1_10 : u10.cell? ⟨u5.heap.size, 1, none⟩ = some (.int .i64 x0Credits) := (b10.cell (by first | omega | (simp; omega))).trans (by assumption); have sX2_10 : u10.cell? ⟨u5.heap.size, 2, none⟩ = some (.slice Ax1 (ls0_2).length cx1) := (b10.cell (by first | omega | (simp; omega))).trans (by assumption); have sP0_10 : u10.cell? ⟨w.heap.size, 0, none⟩ = some (.int .i64 x0Buffers) := (b10.cell (by first | omega | (simp; omega))).trans (by assumption); have sP1_10 : u10.cell? ⟨w.heap.size, 1, none⟩ = some (.int .i64 x0Credits) := (b10.cell (by first | omega | (simp; omega))).trans (by assumption); have sP2_10 : u10.cell? ⟨w.heap.size, 2, none⟩ = some (.slice a0_2 ls0_2.length cap0_2) := (b10.cell (by first | omega | (simp; omega))).trans (by assumption)) | (go_at_call 33; go_split_ands; refine (eqChannel_same x0Buffers x0Credits Ax1 cx1 At1 ct1 ls0_2 _ (((ox1_9.keep (Below.refl _ _).drew).keep b10).row ItemR.enc_len) (qt1.row ItemR.enc_len)).mono ?_; rintro e u11 ⟨rfl, b11⟩; have z11 := b11.size; (try simp only [World.size_drew] at z11); have y11 : u9.heap.size ≤ u11.heap.size := (by omega); have K11 : Below w.heap.size w u11 := Below.trans (by assumption) (b11.mono (by first | omega | (simp; omega))); have sX0_11 : u11.cell? ⟨u5.heap.size, 0, none⟩ = some (.int .i64 x0Buffers) := (b11.cell (by first | omega | (simp; omega))).trans (by assumption); have sX1_11 : u11.cell? ⟨u5.heap.size, 1, none⟩ = some (.int .i64 x0Credits) := (b11.cell (by first | omega | (simp; omega))).trans (by assumption); have sX2_11 : u11.cell? ⟨u5.heap.size, 2, none⟩ = some (.slice Ax1 (ls0_2).length cx1) := (b11.cell (by first | omega | (simp; omega))).trans (by assumption); have sP0_11 : u11.cell? ⟨w.heap.size, 0, none⟩ = some (.int .i64 x0Buffers) := (b11.cell (by first | omega | (simp; omega))).trans (by assumption); have sP1_11 : u11.cell? ⟨w.heap.size, 1, none⟩ = some (.int .i64 x0Credits) := (b11.cell (by first | omega | (simp; omega))).trans (by assumption); have sP2_11 : u11.cell? ⟨w.heap.size, 2, none⟩ = some (.slice a0_2 ls0_2.length cap0_2) := (b11.cell (by first | omega | (simp; omega))).trans (by assumption)))
    clear yy sX0_10 sX0_11 sX1_10 sX1_11 sX2_10 sX2_11 sP0_10 sP0_11 sP1_10 sP1_11 sP2_10 sP2_11 K10 y10 K11 y11 qt1
    clear pX0 pX1 pX2 plX
    clear pP0 pP1 pP2 plP
    have bd : Below u9.heap.size u9 u11 := ((Below.refl _ _).drew.trans (b10.mono (by simp))).trans (b11.mono (by omega))
    clear b10 b11 z10 z11
    have B11 := B9.trans (bd.mono B9.size)
    have z11 := bd.size
    have P_11 := P_9.keep bd
    have W_11 := W_9.keep bd
    have X_11 := X_9.keep bd
    have G_11 := G_9.keep bd
    have ow1_11 := ow1_9.keep bd
    have ox1_11 := ox1_9.keep bd
    have og1_11 := og1_9.keep bd
    clear P_9 W_9 X_9 G_9 ow1_9 ox1_9 og1_9 bd
    have pX0 := X_11.1 0 _ rfl
    have pX1 := X_11.1 1 _ rfl
    have pX2 := X_11.1 2 _ rfl
    have plX := X_11.2
    go_wp2_with fail
    clear pX0 pX1 pX2 plX
    refine (markChannel_any x0Buffers x0Credits Ax1 (ls0_2).length cx1 (1) _ _ _ ox1_11.2 ox1_11.1 (by omega) (by omega)).mono ?_
    rintro e u12 ⟨rfl, mk1, wx, b, g1⟩
    have hFx1 := ox1_11.1
    have zb := b.size
    have z12 : u11.heap.size ≤ u12.heap.size := by have := g1.size; omega
    have Bx0 := B11.trans (b.mono B11.size)
    have Bx1 := Bx0.trans (below_of_gb (B0 := w.heap.size) g1 Bx0.size (fun g hg => by have := loox1 g hg; have := B4.size; omega))
    have B12 := Bx1
    clear Bx0 Bx1 ox1_11
    have ow1_12 := (ow1_11.keep b).far g1 (fun g g' e1 e2 => by have h1 := hiow1 g e1; have h2 := loox1 g' e2; omega)
    clear ow1_11
    have og1_12 := (og1_11.keep b).far g1 (fun g g' e1 e2 => by have h1 := loog1 g e1; have h2 := hiox1 g' e2; omega)
    clear og1_11
    have P_12 := (P_11.keep b).far g1 (fun e => by have h1 := loox1 _ e.symm; have h2 := hiox1 _ e.symm; omega)
    clear P_11
    have W_12 := (W_11.keep b).far g1 (fun e => by have h1 := loox1 _ e.symm; have h2 := hiox1 _ e.symm; omega)
    clear W_11
    have X_12 := (X_11.keep b).far g1 (fun e => by have h1 := loox1 _ e.symm; have h2 := hiox1 _ e.symm; omega)
    clear X_11
    have G_12 := (G_11.keep b).far g1 (fun e => by have h1 := loox1 _ e.symm; have h2 := hiox1 _ e.symm; omega)
    clear G_11
    clear b g1
    have pG0 := G_12.1 0 _ rfl
    have pG1 := G_12.1 1 _ rfl
    have pG2 := G_12.1 2 _ rfl
    have plG := G_12.2
    have pW0 := W_12.1 0 _ rfl
    have pW1 := W_12.1 1 _ rfl
    have pW2 := W_12.1 2 _ rfl
    have plW := W_12.2
    go_wp2_with fail
    clear pG0 pG1 pG2 plG
    clear pW0 pW1 pW2 plW
    refine (eqChannel_same (gc x0Buffers x0Credits ls0_2).1 (gc x0Buffers x0Credits ls0_2).2.1 Ag1 cg1 Aw1 cw1 ((gc x0Buffers x0Credits ls0_2).2.2.1) _ (og1_12.row ItemR.enc_len) (ow1_12.row ItemR.enc_len)).mono ?_
    rintro e u13 ⟨rfl, b⟩
    have B13 := B12.trans (b.mono B12.size)
    have z13 := b.size
    have P_13 := P_12.keep b
    have W_13 := W_12.keep b
    have X_13 := X_12.keep b
    have G_13 := G_12.keep b
    have ow1_13 := ow1_12.keep b
    have og1_13 := og1_12.keep b
    clear P_12 W_12 X_12 G_12 ow1_12 og1_12 b
    have pG0 := G_13.1 0 _ rfl
    have pG1 := G_13.1 1 _ rfl
    have pG2 := G_13.1 2 _ rfl
    have plG := G_13.2
    go_wp2_with fail
    clear pG0 pG1 pG2 plG
    refine (markChannel_any (gc x0Buffers x0Credits ls0_2).1 (gc x0Buffers x0Credits ls0_2).2.1 Ag1 ((gc x0Buffers x0Credits ls0_2).2.2.1).length cg1 (1) _ _ _ og1_13.2 og1_13.1 (by omega) (by omega)).mono ?_
    rintro e u14 ⟨rfl, mk1, wx, b, g1⟩
    have hFg1 := og1_13.1
    have zb := b.size
    have z14 : u13.heap.size ≤ u14.heap.size := by have := g1.size; omega
    have Bx0 := B13.trans (b.mono B13.size)
    have Bx1 := Bx0.trans (below_of_gb (B0 := w.heap.size) g1 Bx0.size (fun g hg => by have := loog1 g hg; have := B6.size; omega))
    have B14 := Bx1
    clear Bx0 Bx1 og1_13
    have ow1_14 := (ow1_13.keep b).far g1 (fun g g' e1 e2 => by have h1 := hiow1 g e1; have h2 := loog1 g' e2; omega)
    clear ow1_13
    have P_14 := (P_13.keep b).far g1 (fun e => by have h1 := loog1 _ e.symm; have h2 := hiog1 _ e.symm; omega)
    clear P_13
    have W_14 := (W_13.keep b).far g1 (fun e => by have h1 := loog1 _ e.symm; have h2 := hiog1 _ e.symm; omega)
    clear W_13
    have X_14 := (X_13.keep b).far g1 (fun e => by have h1 := loog1 _ e.symm; have h2 := hiog1 _ e.symm; omega)
    clear X_13
    have G_14 := (G_13.keep b).far g1 (fun e => by have h1 := loog1 _ e.symm; have h2 := hiog1 _ e.symm; omega)
    clear G_13
    clear b g1
    have mg1_14 := mk1
    clear mk1
    have lomg1 := loog1
    have himg1 := hiog1
    have pG0 := G_14.1 0 _ rfl
    have pG1 := G_14.1 1 _ rfl
    have pG2 := G_14.1 2 _ rfl
    have plG := G_14.2
    go_wp2_with fail
    clear pG0 pG1 pG2 plG
    refine (heldChannel_any (gc x0Buffers x0Credits ls0_2).1 (gc x0Buffers x0Credits ls0_2).2.1 Ag1 ((gc x0Buffers x0Credits ls0_2).2.2.1).length cg1 (1) _ _ mg1_14 hFg1 (by omega) (by omega)).mono ?_
    rintro e u15 ⟨rfl, b⟩
    have B15 := B14.trans (b.mono B14.size)
    have z15 := b.size
    have P_15 := P_14.keep b
    have W_15 := W_14.keep b
    have X_15 := X_14.keep b
    have G_15 := G_14.keep b
    have ow1_15 := ow1_14.keep b
    have mg1_15 := ownsRow_keep mg1_14 b
    clear P_14 W_14 X_14 G_14 ow1_14 mg1_14 b
    have pP0 := P_15.1 0 _ rfl
    have pP1 := P_15.1 1 _ rfl
    have pP2 := P_15.1 2 _ rfl
    have plP := P_15.2
    go_wp2_with fail
    clear pP0 pP1 pP2 plP
    refine (toChannel_any x0Buffers x0Credits a0_2 cap0_2 ls0_2 _ (ha2.keep B15)).mono ?_
    rintro e u16 ⟨Ay1, cy1, rfl, qy1, b⟩
    have B16 := B15.trans (b.mono B15.size)
    have z16 := b.size
    have P_16 := P_15.keep b
    have W_16 := W_15.keep b
    have X_16 := X_15.keep b
    have G_16 := G_15.keep b
    have ow1_16 := ow1_15.keep b
    have mg1_16 := ownsRow_keep mg1_15 b
    clear P_15 W_15 X_15 G_15 ow1_15 mg1_15 b
    have oy1_16 := qy1
    clear qy1
    have looy1 : ∀ g, Value.ownBlock (.slice Ay1 (ls0_2).length cy1) = some g → u15.heap.size ≤ g := fun g hg => (oy1_16.lt g hg).1
    have hioy1 : ∀ g, Value.ownBlock (.slice Ay1 (ls0_2).length cy1) = some g → g < u16.heap.size := fun g hg => (oy1_16.lt g hg).2
    have pP0 := P_16.1 0 _ rfl
    have pP1 := P_16.1 1 _ rfl
    have pP2 := P_16.1 2 _ rfl
    have plP := P_16.2
    go_wp2_with fail
    clear pP0 pP1 pP2 plP
    refine (implGc_any x0Buffers x0Credits Ay1 cy1 (ls0_2)  _ (oy1_16.row ItemR.enc_len)).mono ?_
    rintro e u17 ⟨Ah1, ch1, rfl, qh1, b⟩
    have B17 := B16.trans (b.mono B16.size)
    have z17 := b.size
    have P_17 := P_16.keep b
    have W_17 := W_16.keep b
    have X_17 := X_16.keep b
    have G_17 := G_16.keep b
    have ow1_17 := ow1_16.keep b
    have mg1_17 := ownsRow_keep mg1_16 b
    have oy1_17 := oy1_16.keep b
    clear P_16 W_16 X_16 G_16 ow1_16 mg1_16 oy1_16 b
    have oh1_17 := qh1
    clear qh1
    have looh1 : ∀ g, Value.ownBlock (.slice Ah1 ((gc x0Buffers x0Credits ls0_2).2.2.1).length ch1) = some g → u16.heap.size ≤ g := fun g hg => (oh1_17.lt g hg).1
    have hioh1 : ∀ g, Value.ownBlock (.slice Ah1 ((gc x0Buffers x0Credits ls0_2).2.2.1).length ch1) = some g → g < u17.heap.size := fun g hg => (oh1_17.lt g hg).2
    clear oy1_17
    have bv : Below u17.heap.size u17 (u17.alloc (.cells #[.int .i64 (gc x0Buffers x0Credits ls0_2).1, .int .i64 (gc x0Buffers x0Credits ls0_2).2.1, .slice Ah1 ((gc x0Buffers x0Credits ls0_2).2.2.1).length ch1] 38)) := (Below.refl _ _).alloc (Nat.le_refl _) _
    have nb := Bo.made u17 #[.int .i64 (gc x0Buffers x0Credits ls0_2).1, .int .i64 (gc x0Buffers x0Credits ls0_2).2.1, .slice Ah1 ((gc x0Buffers x0Credits ls0_2).2.2.1).length ch1] 38
    have zgH : u17.heap.size < (u17.alloc (.cells #[.int .i64 (gc x0Buffers x0Credits ls0_2).1, .int .i64 (gc x0Buffers x0Credits ls0_2).2.1, .slice Ah1 ((gc x0Buffers x0Credits ls0_2).2.2.1).length ch1] 38)).heap.size := by simp
    have B18 := B17.trans (bv.mono B17.size)
    have z18 := bv.size
    have P_18 := P_17.keep bv
    have W_18 := W_17.keep bv
    have X_18 := X_17.keep bv
    have G_18 := G_17.keep bv
    have ow1_18 := ow1_17.keep bv
    have mg1_18 := ownsRow_keep mg1_17 bv
    have oh1_18 := oh1_17.keep bv
    clear P_17 W_17 X_17 G_17 ow1_17 mg1_17 oh1_17 bv
    have H_18 := nb
    clear nb
    have pH0 := H_18.1 0 _ rfl
    have pH1 := H_18.1 1 _ rfl
    have pH2 := H_18.1 2 _ rfl
    have plH := H_18.2
    have pW0 := W_18.1 0 _ rfl
    have pW1 := W_18.1 1 _ rfl
    have pW2 := W_18.1 2 _ rfl
    have plW := W_18.2
    go_wp2_with fail
    clear pH0 pH1 pH2 plH
    clear pW0 pW1 pW2 plW
    generalize (u17.alloc (.cells #[.int .i64 (gc x0Buffers x0Credits ls0_2).1, .int .i64 (gc x0Buffers x0Credits ls0_2).2.1, .slice Ah1 ((gc x0Buffers x0Credits ls0_2).2.2.1).length ch1] 38)) = u18 at *
    refine (eqChannel_same (gc x0Buffers x0Credits ls0_2).1 (gc x0Buffers x0Credits ls0_2).2.1 Ah1 ch1 Aw1 cw1 ((gc x0Buffers x0Credits ls0_2).2.2.1) _ (oh1_18.row ItemR.enc_len) (ow1_18.row ItemR.enc_len)).mono ?_
    rintro e u19 ⟨rfl, b⟩
    have B19 := B18.trans (b.mono B18.size)
    have z19 := b.size
    have P_19 := P_18.keep b
    have W_19 := W_18.keep b
    have X_19 := X_18.keep b
    have G_19 := G_18.keep b
    have H_19 := H_18.keep b
    have ow1_19 := ow1_18.keep b
    have mg1_19 := ownsRow_keep mg1_18 b
    have oh1_19 := oh1_18.keep b
    clear P_18 W_18 X_18 G_18 H_18 ow1_18 mg1_18 oh1_18 b
    have pG0 := G_19.1 0 _ rfl
    have pG1 := G_19.1 1 _ rfl
    have pG2 := G_19.1 2 _ rfl
    have plG := G_19.2
    go_wp2_with fail
    clear pG0 pG1 pG2 plG
    refine (heldChannel_any (gc x0Buffers x0Credits ls0_2).1 (gc x0Buffers x0Credits ls0_2).2.1 Ag1 ((gc x0Buffers x0Credits ls0_2).2.2.1).length cg1 (1) _ _ mg1_19 hFg1 (by omega) (by omega)).mono ?_
    rintro e u20 ⟨rfl, b⟩
    have B20 := B19.trans (b.mono B19.size)
    have z20 := b.size
    have P_20 := P_19.keep b
    have W_20 := W_19.keep b
    have X_20 := X_19.keep b
    have G_20 := G_19.keep b
    have H_20 := H_19.keep b
    have ow1_20 := ow1_19.keep b
    have mg1_20 := ownsRow_keep mg1_19 b
    have oh1_20 := oh1_19.keep b
    clear P_19 W_19 X_19 G_19 H_19 ow1_19 mg1_19 oh1_19 b
    go_wp2
    all_goals go_returns
    all_goals exact ⟨rfl, B20⟩
  · go_enter Try.func14, Try.ntmps14
    go_wp2_with fail
    refine (szChannel_big x0Buffers x0Credits a0_2 ls0_2.length cap0_2 1048576 _ (by omega) (by omega) (by omega) hl2).mono ?_
    rintro e u1 ⟨rfl, b⟩
    have B1 : Below w.heap.size w u1 := Below.trans ((Below.refl _ _).alloc (Nat.le_refl _) _) (b.mono (by simp))
    clear b
    go_wp2
    all_goals go_returns
    all_goals exact ⟨rfl, B1⟩
set_option maxRecDepth 100000 in
theorem lifted (os : Os) (started : os.Started) (H : Type) (enc : TypeId × Value → H) :
    ReturnsInHanded {} Try.checked os 14 .any (Rows.fnExactGrantCreditSpec.pre6 enc Try.prog Try.f14 Rows.fnExactGrantCreditRow.domain false) (Rows.fnExactGrantCreditSpec.post enc Try.prog Try.f14 false true false false) := by
  refine returnsInHanded_of_change (C := Try.checked) own started (by kernel_rfl) Try.func14
    (ChangeSpec.witness6 (enc := enc) (C := Try.checked) false ⟨#[], #[.agg #[.int .i64 0, .int .i64 0, .slice none 0 0]], []⟩ 8 (by kernel_rfl) (by kernel_rfl) (by kernel_rfl) (by kernel_rfl)) ?_
  intro W base args ds gs before hval0 hW hcnd _
  have hval : ∀ (j : Nat) t v, Try.f14.params[j]? = some t → args[j]? = some v → Value.okWide Try.prog W .any base t v := hval0
  have hW' := hW
  obtain ⟨p, q, hA0, hV, rfl, hfz, hnd⟩ := hW
  have hA : DataW.TrodAll enc Try.prog W 0 (fun _ => true) true Try.f14.params.toList args.toList ds p := hA0
  rw [Try.params14] at hA hval
  obtain ⟨v0, vs0, d0, ds0, p0, q0, hargs, rfl, rfl, h0, r0⟩ := trodAll_cons hA
  obtain ⟨rfl, rfl, rfl⟩ := trodAll_nil r0
  obtain rfl : args = #[v0] := by cases args; simp_all
  obtain ⟨rfl, rfl⟩ := trodVars_none hV
  have k0 := h0
  have lt0 : ∀ x ∈ p0, x.block < W.heap.size := by obtain ⟨m, hm⟩ := k0; exact DataW.trod_lt m _ _ _ hm
  obtain ⟨c0_0, c0_1, c0_2, y0_0, y0_1, y0_2, mm0, rfl, rfl, rfl, hy0_0, hy0_1, hy0_2⟩ := open_agg3 Try.underlying44 (by kernel_rfl) cells44 (hval 0 44 v0 rfl rfl) h0
  obtain ⟨x0Buffers, e0_0, rfl, wx0_0⟩ := DataW.trod_int Try.underlying3 hy0_0
  simp only [List.cons.injEq, and_true] at e0_0
  subst e0_0
  have b0_0 := bounds_i64 wx0_0
  obtain ⟨x0Credits, e0_1, rfl, wx0_1⟩ := DataW.trod_int Try.underlying3 hy0_1
  simp only [List.cons.injEq, and_true] at e0_1
  subst e0_1
  have b0_1 := bounds_i64 wx0_1
  obtain ⟨a0_2, cap0_2, ls0_2, rfl, m0_2, w0_2⟩ := cell_ItemS hy0_2
  clear hA0 hval0
  refine (walk x0Buffers x0Credits a0_2 cap0_2 ls0_2 W b0_0.1 b0_0.2 b0_1.1 b0_1.2 m0_2 w0_2).mono fun e W' ⟨he, bel⟩ => ?_
  subst he
  exact ⟨_, rfl, _, _, _, [], _, [], hW', trodAll_mk1 (shut_bool Try.underlying4 _), (trodAll_cons_mk (Below.trod laidOut (by kernel_rfl) (of_decide_eq_true (by kernel_rfl)) k0 bel lt0) trodAll_mk0), rfl, bel.frame _, fun h => by cases h⟩

theorem over : Rows.fnExactGrantCreditRow.holds Try.pinned (OpenSpec.ofChange Rows.fnExactGrantCreditSpec) :=
  OpenClaim.holds_of_wide 14 Try.f14 rfl rfl rfl rfl rfl rfl rfl ⟨rfl, rfl, rfl, rfl, rfl⟩ rfl rfl rfl rfl rfl (by kernel_rfl) Try.func14 (by kernel_rfl)
    (of_decide_eq_true (by kernel_rfl)) (by unfold Func.isWrapper; first | (rw [if_pos (by decide +kernel)]; kernel_rfl) | (rw [if_neg (by decide +kernel)]; exact ⟨rfl, rfl⟩))
    (fun os started H enc _ => lifted os started H enc)

theorem proved : Rows.FnExactGrantCreditSaid := over
#print axioms proved
end Go.Proofs.Ytcpjidbinhfapaa.fnExactGrantCredit
