/- The law FnExactJoinMark answers true at every input and leaves its arguments as they were; no condition. -/
import Derived.Test.YtgebijaojkmjiaaRows
import Derived.WalkKit
import Derived.WalkSpells
import Derived.WalkLawsBesides
import Derived.ProofKit
import Derived.OpenShut
import Derived.ShutString
import Derived.ChangeOld
import Derived.Below
import Derived.Lib.SmallJoins
import Derived.Handy
import Derived.Test.YtgebijaojkmjiaaJmI
import Derived.Test.YtgebijaojkmjiaaTyCellEvent
namespace Go.Proofs.Ytgebijaojkmjiaa.fnExactJoinMark
open Go.ChangeShapes Go.WideShapes Go.ChangeAt Go.RowKit Go.Joins
open Go.ChangeMaps (open_string shut_string)
set_option linter.unusedVariables false

theorem own : ownKnob Try.prog.godebug = none := by kernel_rfl
theorem laidOut : laidOutB Try.prog = true := by kernel_rfl
theorem cells70 : Try.prog.cellsOf 70 = 3 := by kernel_rfl
set_option maxHeartbeats 4000000 in
theorem walk (a0_0 : Option Addr) (cap0_0 : Nat) (ls0_0 : List EventR) (a0_1 : Option Addr) (cap0_1 : Nat) (ls0_1 : List EventR) (x0Mark : Int) (x1 : Int) (x2 : Int) (x3 : Int) (w : World) (m0_0 : ls0_0.length ≤ maxLen) (w0_0 : RowA EventR.enc 3 w a0_0 ls0_0) (m0_1 : ls0_1.length ≤ maxLen) (w0_1 : RowA EventR.enc 3 w a0_1 ls0_1) (l0_2 : -9223372036854775808 ≤ x0Mark) (u0_2 : x0Mark ≤ 9223372036854775807) (l1 : -9223372036854775808 ≤ x1) (u1 : x1 ≤ 9223372036854775807) (l2 : -9223372036854775808 ≤ x2) (u2 : x2 ≤ 9223372036854775807) (l3 : -9223372036854775808 ≤ x3) (u3 : x3 ≤ 9223372036854775807) :
    Calls Try.prog 13 #[.agg #[.slice a0_0 ls0_0.length cap0_0, .slice a0_1 ls0_1.length cap0_1, .int .i64 x0Mark], .int .i64 x1, .int .i64 x2, .int .i64 x3] w fun e w' => e = .returned (.bool true) ∧ Below w.heap.size w w' := by
  have hlA := m0_0
  have hlB := m0_1
  by_cases hlen : ls0_0.length + ls0_1.length ≤ 1048576
  · have ha : Row EventR.enc 3 w a0_0 ls0_0 := ⟨by omega, w0_0⟩
    have hb : Row EventR.enc 3 w a0_1 ls0_1 := ⟨by omega, w0_1⟩
    clear hlA hlB w0_0 w0_1 m0_0 m0_1
    have P_0 := Bx.made w (.slice a0_0 ls0_0.length cap0_0) (.slice a0_1 ls0_1.length cap0_1) (.int .i64 x0Mark) 70
    have B0 : Below w.heap.size w (w.alloc (.cells #[.slice a0_0 ls0_0.length cap0_0, .slice a0_1 ls0_1.length cap0_1, .int .i64 x0Mark] 70)) := (Below.refl _ _).alloc (Nat.le_refl _) _
    have zgP : w.heap.size < (w.alloc (.cells #[.slice a0_0 ls0_0.length cap0_0, .slice a0_1 ls0_1.length cap0_1, .int .i64 x0Mark] 70)).heap.size := by simp
    go_enter Try.func13, Try.ntmps13
    go_wp2_with fail
    generalize (w.alloc (.cells #[.slice a0_0 ls0_0.length cap0_0, .slice a0_1 ls0_1.length cap0_1, .int .i64 x0Mark] 70)) = u0 at *
    refine (szJoinState_ok a0_0 ls0_0.length cap0_0 a0_1 ls0_1.length cap0_1 x0Mark 1048576 _ (by omega) (by omega)).mono ?_
    rintro e u1 ⟨rfl, b⟩
    have B1 := B0.trans (b.mono B0.size)
    have z1 := b.size
    have P_1 := P_0.keep b
    clear P_0 b
    have hP := P_1
    obtain ⟨pP0, pP1, pP2, pfP, plP⟩ := hP
    clear pfP
    go_wp2_with fail
    clear pP0 pP1 pP2 plP
    refine (toJoinState_any a0_0 cap0_0 ls0_0 a0_1 cap0_1 ls0_1 x0Mark _ (ha.keep B1) (hb.keep B1)).mono ?_
    rintro e u2 ⟨As1, cs1, As2, cs2, rfl, qs1, qs2, diss, b⟩
    have B2 := B1.trans (b.mono B1.size)
    have z2 := b.size
    have P_2 := P_1.keep b
    clear P_1 b
    have os1_2 := qs1
    clear qs1
    have loos1 : ∀ g, Value.ownBlock (.slice As1 (ls0_0).length cs1) = some g → u1.heap.size ≤ g := fun g hg => (os1_2.lt g hg).1
    have hios1 : ∀ g, Value.ownBlock (.slice As1 (ls0_0).length cs1) = some g → g < u2.heap.size := fun g hg => (os1_2.lt g hg).2
    have os2_2 := qs2
    clear qs2
    have loos2 : ∀ g, Value.ownBlock (.slice As2 (ls0_1).length cs2) = some g → u1.heap.size ≤ g := fun g hg => (os2_2.lt g hg).1
    have hios2 : ∀ g, Value.ownBlock (.slice As2 (ls0_1).length cs2) = some g → g < u2.heap.size := fun g hg => (os2_2.lt g hg).2
    have hP := P_2
    obtain ⟨pP0, pP1, pP2, pfP, plP⟩ := hP
    clear pfP
    go_wp2_with fail
    clear pP0 pP1 pP2 plP
    refine (specJm_any As1 cs1 ls0_0 As2 cs2 ls0_1 x0Mark x1 x2 x3 _ (os1_2.row EventR.enc_len) (os2_2.row EventR.enc_len)).mono ?_
    rintro e u3 ⟨Aw1, cw1, Aw2, cw2, rfl, qw1, qw2, disw, b⟩
    have B3 := B2.trans (b.mono B2.size)
    have z3 := b.size
    have P_3 := P_2.keep b
    have os1_3 := os1_2.keep b
    have os2_3 := os2_2.keep b
    clear P_2 os1_2 os2_2 b
    have ow1_3 := qw1
    clear qw1
    have loow1 : ∀ g, Value.ownBlock (.slice Aw1 (jmL ls0_0 ls0_1 x0Mark x1 x2 x3).length cw1) = some g → u2.heap.size ≤ g := fun g hg => (ow1_3.lt g hg).1
    have hiow1 : ∀ g, Value.ownBlock (.slice Aw1 (jmL ls0_0 ls0_1 x0Mark x1 x2 x3).length cw1) = some g → g < u3.heap.size := fun g hg => (ow1_3.lt g hg).2
    have ow2_3 := qw2
    clear qw2
    have loow2 : ∀ g, Value.ownBlock (.slice Aw2 (jmR ls0_0 ls0_1 x0Mark x1 x2 x3).length cw2) = some g → u2.heap.size ≤ g := fun g hg => (ow2_3.lt g hg).1
    have hiow2 : ∀ g, Value.ownBlock (.slice Aw2 (jmR ls0_0 ls0_1 x0Mark x1 x2 x3).length cw2) = some g → g < u3.heap.size := fun g hg => (ow2_3.lt g hg).2
    clear os1_3
    clear os2_3
    have bv : Below u3.heap.size u3 (u3.alloc (.cells #[.slice Aw1 (jmL ls0_0 ls0_1 x0Mark x1 x2 x3).length cw1, .slice Aw2 (jmR ls0_0 ls0_1 x0Mark x1 x2 x3).length cw2, .int .i64 (jmM ls0_0 ls0_1 x0Mark x1 x2 x3)] 75)) := (Below.refl _ _).alloc (Nat.le_refl _) _
    have nb := Bx.made u3 (.slice Aw1 (jmL ls0_0 ls0_1 x0Mark x1 x2 x3).length cw1) (.slice Aw2 (jmR ls0_0 ls0_1 x0Mark x1 x2 x3).length cw2) (.int .i64 (jmM ls0_0 ls0_1 x0Mark x1 x2 x3)) 75
    have zgW : u3.heap.size < (u3.alloc (.cells #[.slice Aw1 (jmL ls0_0 ls0_1 x0Mark x1 x2 x3).length cw1, .slice Aw2 (jmR ls0_0 ls0_1 x0Mark x1 x2 x3).length cw2, .int .i64 (jmM ls0_0 ls0_1 x0Mark x1 x2 x3)] 75)).heap.size := by simp
    have B4 := B3.trans (bv.mono B3.size)
    have z4 := bv.size
    have P_4 := P_3.keep bv
    have ow1_4 := ow1_3.keep bv
    have ow2_4 := ow2_3.keep bv
    clear P_3 ow1_3 ow2_3 bv
    have W_4 := nb
    clear nb
    have hP := P_4
    obtain ⟨pP0, pP1, pP2, pfP, plP⟩ := hP
    clear pfP
    go_wp2_with fail
    clear pP0 pP1 pP2 plP
    generalize (u3.alloc (.cells #[.slice Aw1 (jmL ls0_0 ls0_1 x0Mark x1 x2 x3).length cw1, .slice Aw2 (jmR ls0_0 ls0_1 x0Mark x1 x2 x3).length cw2, .int .i64 (jmM ls0_0 ls0_1 x0Mark x1 x2 x3)] 75)) = u4 at *
    refine (toJoinState_any a0_0 cap0_0 ls0_0 a0_1 cap0_1 ls0_1 x0Mark _ (ha.keep B4) (hb.keep B4)).mono ?_
    rintro e u5 ⟨Ax1, cx1, Ax2, cx2, rfl, qx1, qx2, disx, b⟩
    have B5 := B4.trans (b.mono B4.size)
    have z5 := b.size
    have P_5 := P_4.keep b
    have W_5 := W_4.keep b
    have ow1_5 := ow1_4.keep b
    have ow2_5 := ow2_4.keep b
    clear P_4 W_4 ow1_4 ow2_4 b
    have ox1_5 := qx1
    clear qx1
    have loox1 : ∀ g, Value.ownBlock (.slice Ax1 (ls0_0).length cx1) = some g → u4.heap.size ≤ g := fun g hg => (ox1_5.lt g hg).1
    have hiox1 : ∀ g, Value.ownBlock (.slice Ax1 (ls0_0).length cx1) = some g → g < u5.heap.size := fun g hg => (ox1_5.lt g hg).2
    have ox2_5 := qx2
    clear qx2
    have loox2 : ∀ g, Value.ownBlock (.slice Ax2 (ls0_1).length cx2) = some g → u4.heap.size ≤ g := fun g hg => (ox2_5.lt g hg).1
    have hiox2 : ∀ g, Value.ownBlock (.slice Ax2 (ls0_1).length cx2) = some g → g < u5.heap.size := fun g hg => (ox2_5.lt g hg).2
    have bv : Below u5.heap.size u5 (u5.alloc (.cells #[.slice Ax1 (ls0_0).length cx1, .slice Ax2 (ls0_1).length cx2, .int .i64 x0Mark] 75)) := (Below.refl _ _).alloc (Nat.le_refl _) _
    have nb := Bx.made u5 (.slice Ax1 (ls0_0).length cx1) (.slice Ax2 (ls0_1).length cx2) (.int .i64 x0Mark) 75
    have zgX : u5.heap.size < (u5.alloc (.cells #[.slice Ax1 (ls0_0).length cx1, .slice Ax2 (ls0_1).length cx2, .int .i64 x0Mark] 75)).heap.size := by simp
    have B6 := B5.trans (bv.mono B5.size)
    have z6 := bv.size
    have P_6 := P_5.keep bv
    have W_6 := W_5.keep bv
    have ow1_6 := ow1_5.keep bv
    have ow2_6 := ow2_5.keep bv
    have ox1_6 := ox1_5.keep bv
    have ox2_6 := ox2_5.keep bv
    clear P_5 W_5 ow1_5 ow2_5 ox1_5 ox2_5 bv
    have X_6 := nb
    clear nb
    have hX := X_6
    obtain ⟨pX0, pX1, pX2, pfX, plX⟩ := hX
    clear pfX
    go_wp2_with fail
    clear pX0 pX1 pX2 plX
    generalize (u5.alloc (.cells #[.slice Ax1 (ls0_0).length cx1, .slice Ax2 (ls0_1).length cx2, .int .i64 x0Mark] 75)) = u6 at *
    refine (implJm_any Ax1 cx1 ls0_0 Ax2 cx2 ls0_1 x0Mark x1 x2 x3 _ (ox1_6.row EventR.enc_len) (ox2_6.row EventR.enc_len)).mono ?_
    rintro e u7 ⟨Ag1, cg1, Ag2, cg2, rfl, qg1, qg2, disg, b⟩
    have B7 := B6.trans (b.mono B6.size)
    have z7 := b.size
    have P_7 := P_6.keep b
    have W_7 := W_6.keep b
    have X_7 := X_6.keep b
    have ow1_7 := ow1_6.keep b
    have ow2_7 := ow2_6.keep b
    have ox1_7 := ox1_6.keep b
    have ox2_7 := ox2_6.keep b
    clear P_6 W_6 X_6 ow1_6 ow2_6 ox1_6 ox2_6 b
    have og1_7 := qg1
    clear qg1
    have loog1 : ∀ g, Value.ownBlock (.slice Ag1 (jmL ls0_0 ls0_1 x0Mark x1 x2 x3).length cg1) = some g → u6.heap.size ≤ g := fun g hg => (og1_7.lt g hg).1
    have hiog1 : ∀ g, Value.ownBlock (.slice Ag1 (jmL ls0_0 ls0_1 x0Mark x1 x2 x3).length cg1) = some g → g < u7.heap.size := fun g hg => (og1_7.lt g hg).2
    have og2_7 := qg2
    clear qg2
    have loog2 : ∀ g, Value.ownBlock (.slice Ag2 (jmR ls0_0 ls0_1 x0Mark x1 x2 x3).length cg2) = some g → u6.heap.size ≤ g := fun g hg => (og2_7.lt g hg).1
    have hiog2 : ∀ g, Value.ownBlock (.slice Ag2 (jmR ls0_0 ls0_1 x0Mark x1 x2 x3).length cg2) = some g → g < u7.heap.size := fun g hg => (og2_7.lt g hg).2
    have bv : Below u7.heap.size u7 (u7.alloc (.cells #[.slice Ag1 (jmL ls0_0 ls0_1 x0Mark x1 x2 x3).length cg1, .slice Ag2 (jmR ls0_0 ls0_1 x0Mark x1 x2 x3).length cg2, .int .i64 (jmM ls0_0 ls0_1 x0Mark x1 x2 x3)] 75)) := (Below.refl _ _).alloc (Nat.le_refl _) _
    have nb := Bx.made u7 (.slice Ag1 (jmL ls0_0 ls0_1 x0Mark x1 x2 x3).length cg1) (.slice Ag2 (jmR ls0_0 ls0_1 x0Mark x1 x2 x3).length cg2) (.int .i64 (jmM ls0_0 ls0_1 x0Mark x1 x2 x3)) 75
    have zgG : u7.heap.size < (u7.alloc (.cells #[.slice Ag1 (jmL ls0_0 ls0_1 x0Mark x1 x2 x3).length cg1, .slice Ag2 (jmR ls0_0 ls0_1 x0Mark x1 x2 x3).length cg2, .int .i64 (jmM ls0_0 ls0_1 x0Mark x1 x2 x3)] 75)).heap.size := by simp
    have B8 := B7.trans (bv.mono B7.size)
    have z8 := bv.size
    have P_8 := P_7.keep bv
    have W_8 := W_7.keep bv
    have X_8 := X_7.keep bv
    have ow1_8 := ow1_7.keep bv
    have ow2_8 := ow2_7.keep bv
    have ox1_8 := ox1_7.keep bv
    have ox2_8 := ox2_7.keep bv
    have og1_8 := og1_7.keep bv
    have og2_8 := og2_7.keep bv
    clear P_7 W_7 X_7 ow1_7 ow2_7 ox1_7 ox2_7 og1_7 og2_7 bv
    have G_8 := nb
    clear nb
    have hG := G_8
    obtain ⟨pG0, pG1, pG2, pfG, plG⟩ := hG
    clear pfG
    have hW := W_8
    obtain ⟨pW0, pW1, pW2, pfW, plW⟩ := hW
    clear pfW
    go_wp2_with fail
    clear pG0 pG1 pG2 plG pW0 pW1 pW2 plW
    generalize (u7.alloc (.cells #[.slice Ag1 (jmL ls0_0 ls0_1 x0Mark x1 x2 x3).length cg1, .slice Ag2 (jmR ls0_0 ls0_1 x0Mark x1 x2 x3).length cg2, .int .i64 (jmM ls0_0 ls0_1 x0Mark x1 x2 x3)] 75)) = u8 at *
    refine (eqJoinState_same Ag1 cg1 Ag2 cg2 Aw1 cw1 Aw2 cw2 (jmL ls0_0 ls0_1 x0Mark x1 x2 x3) (jmR ls0_0 ls0_1 x0Mark x1 x2 x3) (jmM ls0_0 ls0_1 x0Mark x1 x2 x3) _ (og1_8.row EventR.enc_len) (og2_8.row EventR.enc_len) (ow1_8.row EventR.enc_len) (ow2_8.row EventR.enc_len)).mono ?_
    rintro e u9 ⟨rfl, b⟩
    have B9 := B8.trans (b.mono B8.size)
    have z9 := b.size
    have P_9 := P_8.keep b
    have W_9 := W_8.keep b
    have X_9 := X_8.keep b
    have G_9 := G_8.keep b
    have ow1_9 := ow1_8.keep b
    have ow2_9 := ow2_8.keep b
    have ox1_9 := ox1_8.keep b
    have ox2_9 := ox2_8.keep b
    have og1_9 := og1_8.keep b
    have og2_9 := og2_8.keep b
    clear P_8 W_8 X_8 G_8 ow1_8 ow2_8 ox1_8 ox2_8 og1_8 og2_8 b
    have hX := X_9
    obtain ⟨pX0, pX1, pX2, pfX, plX⟩ := hX
    clear pfX
    have hP := P_9
    obtain ⟨pP0, pP1, pP2, pfP, plP⟩ := hP
    clear pfP
    go_wp2_with fail
    have yy : u9.heap.size ≤ u9.heap.size := Nat.le_refl _
    go_region_held3 (fun w' => w'.cell? ⟨u5.heap.size, 0, none⟩ = some (.slice Ax1 (ls0_0).length cx1) ∧ w'.cell? ⟨u5.heap.size, 1, none⟩ = some (.slice Ax2 (ls0_1).length cx2) ∧ w'.cell? ⟨u5.heap.size, 2, none⟩ = some (.int .i64 x0Mark) ∧ w'.cell? ⟨w.heap.size, 0, none⟩ = some (.slice a0_0 ls0_0.length cap0_0) ∧ w'.cell? ⟨w.heap.size, 1, none⟩ = some (.slice a0_1 ls0_1.length cap0_1) ∧ w'.cell? ⟨w.heap.size, 2, none⟩ = some (.int .i64 x0Mark) ∧ u9.heap.size ≤ w'.heap.size ∧ Below w.heap.size w w') (((repeat' apply And.intro) <;> first | assumption | (simp only [World.cell?_drew]; assumption) | (simp only [World.size_drew]; assumption) | (exact Below.drew (by assumption)))) (first | (go_at_call 55; go_split_ands; refine (toJoinState_any a0_0 cap0_0 ls0_0 a0_1 cap0_1 ls0_1 x0Mark _ (ha.keep (by assumption)) (hb.keep (by assumption))).mono ?_; rintro e u10 ⟨At1, ct1, At2, ct2, rfl, qt1, qt2, dist, b10⟩; have z10 := b10.size; (try simp only [World.size_drew] at z10); have y10 : u9.heap.size ≤ u10.heap.size := (by omega); have K10 : Below w.heap.size w u10 := Below.trans (by assumption) (b10.mono (by first | omega | (simp; omega))); have sX0_10 : u10.cell? ⟨u5.heap.size, 0, none⟩ = some (.slice Ax1 (ls0_0).length cx1) := (b10.cell (by first | omega | (simp; omega))).trans (by assumption); have sX1_10 : u10.cell? ⟨u5.heap.size, 1, none⟩ = some (.slice Ax2 (ls0_1).length cx2) := (b10.cell (by first | omega | (simp; omega))).trans (by assumption); have sX2_10 : u10.cell? ⟨u5.heap.size, 2, none⟩ = some (.int .i64 x0Mark) := (b10.cell (by first | omega | (simp; omega))).trans (by assumption); have sP0_10 : u10.cell? ⟨w.heap.size, 0, none⟩ = some (.slice a0_0 ls0_0.length cap0_0) := (b10.cell (by first | omega | (simp; omega))).trans (by assumption); have sP1_10 : u10.cell? ⟨w.heap.size, 1, none⟩ = some (.slice a0_1 ls0_1.length cap0_1) := (b10.cell (by first | omega | (simp; omega))).trans (by assumption); have sP2_10 : u10.cell? ⟨w.heap.size, 2, none⟩ = some (.int .i64 x0Mark) := (b10.cell (by first | omega | (simp; omega))).trans (by assumption)) | (go_at_call 58; go_split_ands; refine (eqJoinState_same Ax1 cx1 Ax2 cx2 At1 ct1 At2 ct2 ls0_0 ls0_1 x0Mark _ (((ox1_9.keep (Below.refl _ _).drew).keep b10).row EventR.enc_len) (((ox2_9.keep (Below.refl _ _).drew).keep b10).row EventR.enc_len) (qt1.row EventR.enc_len) (qt2.row EventR.enc_len)).mono ?_; rintro e u11 ⟨rfl, b11⟩; have z11 := b11.size; (try simp only [World.size_drew] at z11); have y11 : u9.heap.size ≤ u11.heap.size := (by omega); have K11 : Below w.heap.size w u11 := Below.trans (by assumption) (b11.mono (by first | omega | (simp; omega))); have sX0_11 : u11.cell? ⟨u5.heap.size, 0, none⟩ = some (.slice Ax1 (ls0_0).length cx1) := (b11.cell (by first | omega | (simp; omega))).trans (by assumption); have sX1_11 : u11.cell? ⟨u5.heap.size, 1, none⟩ = some (.slice Ax2 (ls0_1).length cx2) := (b11.cell (by first | omega | (simp; omega))).trans (by assumption); have sX2_11 : u11.cell? ⟨u5.heap.size, 2, none⟩ = some (.int .i64 x0Mark) := (b11.cell (by first | omega | (simp; omega))).trans (by assumption); have sP0_11 : u11.cell? ⟨w.heap.size, 0, none⟩ = some (.slice a0_0 ls0_0.length cap0_0) := (b11.cell (by first | omega | (simp; omega))).trans (by assumption); have sP1_11 : u11.cell? ⟨w.heap.size, 1, none⟩ = some (.slice a0_1 ls0_1.length cap0_1) := (b11.cell (by first | omega | (simp; omega))).trans (by assumption); have sP2_11 : u11.cell? ⟨w.heap.size, 2, none⟩ = some (.int .i64 x0Mark) := (b11.cell (by first | omega | (simp; omega))).trans (by assumption)))
    clear yy sX0_10 sP0_10 sX0_11 sP0_11 sX1_10 sP1_10 sX1_11 sP1_11 sX2_10 sP2_10 sX2_11 sP2_11 K10 y10 K11 y11 qt1 qt2 dist
    clear pX0 pX1 pX2 plX pP0 pP1 pP2 plP
    have bd : Below u9.heap.size u9 u11 := ((Below.refl _ _).drew.trans (b10.mono (by simp))).trans (b11.mono (by omega))
    clear b10 b11 z10 z11
    have B11 := B9.trans (bd.mono B9.size)
    have z11 := bd.size
    have P_11 := P_9.keep bd
    have W_11 := W_9.keep bd
    have X_11 := X_9.keep bd
    have G_11 := G_9.keep bd
    have ow1_11 := ow1_9.keep bd
    have ow2_11 := ow2_9.keep bd
    have ox1_11 := ox1_9.keep bd
    have ox2_11 := ox2_9.keep bd
    have og1_11 := og1_9.keep bd
    have og2_11 := og2_9.keep bd
    clear P_9 W_9 X_9 G_9 ow1_9 ow2_9 ox1_9 ox2_9 og1_9 og2_9 bd
    have hX := X_11
    obtain ⟨pX0, pX1, pX2, pfX, plX⟩ := hX
    clear pfX
    go_wp2_with fail
    clear pX0 pX1 pX2 plX
    refine (markJoinState_any Ax1 (ls0_0).length cx1 Ax2 (ls0_1).length cx2 x0Mark (1) _ _ _ _ _ ox1_11.2 ox2_11.2 disx ox1_11.1 ox2_11.1 (by omega) (by omega)).mono ?_
    rintro e u12 ⟨rfl, mk1, mk2, wx, wy, b, g1, g2⟩
    have hFx1 := ox1_11.1
    have hFx2 := ox2_11.1
    have zb := b.size
    have zg1 := g1.size
    have z12 : u11.heap.size ≤ u12.heap.size := by have := g2.size; omega
    have Bx1 := B11.trans (b.mono B11.size)
    have Bx2 := Bx1.trans (below_of_gb (B0 := w.heap.size) g1 Bx1.size (fun g hg => by have := loox1 g hg; have := B4.size; omega))
    have B12 := Bx2.trans (below_of_gb (B0 := w.heap.size) g2 Bx2.size (fun g hg => by have := loox2 g hg; have := B4.size; omega))
    clear Bx1 Bx2 ox1_11 ox2_11
    have ow1_12 := ((ow1_11.keep b).far g1 (fun g g' e1 e2 => by have h1 := hiow1 g e1; have h2 := loox1 g' e2; omega)).far g2 (fun g g' e1 e2 => by have h1 := hiow1 g e1; have h2 := loox2 g' e2; omega)
    clear ow1_11
    have ow2_12 := ((ow2_11.keep b).far g1 (fun g g' e1 e2 => by have h1 := hiow2 g e1; have h2 := loox1 g' e2; omega)).far g2 (fun g g' e1 e2 => by have h1 := hiow2 g e1; have h2 := loox2 g' e2; omega)
    clear ow2_11
    have og1_12 := ((og1_11.keep b).far g1 (fun g g' e1 e2 => by have h1 := loog1 g e1; have h2 := hiox1 g' e2; omega)).far g2 (fun g g' e1 e2 => by have h1 := loog1 g e1; have h2 := hiox2 g' e2; omega)
    clear og1_11
    have og2_12 := ((og2_11.keep b).far g1 (fun g g' e1 e2 => by have h1 := loog2 g e1; have h2 := hiox1 g' e2; omega)).far g2 (fun g g' e1 e2 => by have h1 := loog2 g e1; have h2 := hiox2 g' e2; omega)
    clear og2_11
    have P_12 := ((P_11.keep b).far g1 (fun e => by have h1 := loox1 _ e.symm; have h2 := hiox1 _ e.symm; omega)).far g2 (fun e => by have h1 := loox2 _ e.symm; have h2 := hiox2 _ e.symm; omega)
    clear P_11
    have W_12 := ((W_11.keep b).far g1 (fun e => by have h1 := loox1 _ e.symm; have h2 := hiox1 _ e.symm; omega)).far g2 (fun e => by have h1 := loox2 _ e.symm; have h2 := hiox2 _ e.symm; omega)
    clear W_11
    have X_12 := ((X_11.keep b).far g1 (fun e => by have h1 := loox1 _ e.symm; have h2 := hiox1 _ e.symm; omega)).far g2 (fun e => by have h1 := loox2 _ e.symm; have h2 := hiox2 _ e.symm; omega)
    clear X_11
    have G_12 := ((G_11.keep b).far g1 (fun e => by have h1 := loox1 _ e.symm; have h2 := hiox1 _ e.symm; omega)).far g2 (fun e => by have h1 := loox2 _ e.symm; have h2 := hiox2 _ e.symm; omega)
    clear G_11
    clear b g1 g2
    have hG := G_12
    obtain ⟨pG0, pG1, pG2, pfG, plG⟩ := hG
    clear pfG
    have hW := W_12
    obtain ⟨pW0, pW1, pW2, pfW, plW⟩ := hW
    clear pfW
    go_wp2_with fail
    clear pG0 pG1 pG2 plG pW0 pW1 pW2 plW
    refine (eqJoinState_same Ag1 cg1 Ag2 cg2 Aw1 cw1 Aw2 cw2 (jmL ls0_0 ls0_1 x0Mark x1 x2 x3) (jmR ls0_0 ls0_1 x0Mark x1 x2 x3) (jmM ls0_0 ls0_1 x0Mark x1 x2 x3) _ (og1_12.row EventR.enc_len) (og2_12.row EventR.enc_len) (ow1_12.row EventR.enc_len) (ow2_12.row EventR.enc_len)).mono ?_
    rintro e u13 ⟨rfl, b⟩
    have B13 := B12.trans (b.mono B12.size)
    have z13 := b.size
    have P_13 := P_12.keep b
    have W_13 := W_12.keep b
    have X_13 := X_12.keep b
    have G_13 := G_12.keep b
    have ow1_13 := ow1_12.keep b
    have ow2_13 := ow2_12.keep b
    have og1_13 := og1_12.keep b
    have og2_13 := og2_12.keep b
    clear P_12 W_12 X_12 G_12 ow1_12 ow2_12 og1_12 og2_12 b
    have hG := G_13
    obtain ⟨pG0, pG1, pG2, pfG, plG⟩ := hG
    clear pfG
    go_wp2_with fail
    clear pG0 pG1 pG2 plG
    refine (markJoinState_any Ag1 (jmL ls0_0 ls0_1 x0Mark x1 x2 x3).length cg1 Ag2 (jmR ls0_0 ls0_1 x0Mark x1 x2 x3).length cg2 (jmM ls0_0 ls0_1 x0Mark x1 x2 x3) (1) _ _ _ _ _ og1_13.2 og2_13.2 disg og1_13.1 og2_13.1 (by omega) (by omega)).mono ?_
    rintro e u14 ⟨rfl, mk1, mk2, wx, wy, b, g1, g2⟩
    have hFg1 := og1_13.1
    have hFg2 := og2_13.1
    have zb := b.size
    have zg1 := g1.size
    have z14 : u13.heap.size ≤ u14.heap.size := by have := g2.size; omega
    have Bx1 := B13.trans (b.mono B13.size)
    have Bx2 := Bx1.trans (below_of_gb (B0 := w.heap.size) g1 Bx1.size (fun g hg => by have := loog1 g hg; have := B6.size; omega))
    have B14 := Bx2.trans (below_of_gb (B0 := w.heap.size) g2 Bx2.size (fun g hg => by have := loog2 g hg; have := B6.size; omega))
    clear Bx1 Bx2 og1_13 og2_13
    have ow1_14 := ((ow1_13.keep b).far g1 (fun g g' e1 e2 => by have h1 := hiow1 g e1; have h2 := loog1 g' e2; omega)).far g2 (fun g g' e1 e2 => by have h1 := hiow1 g e1; have h2 := loog2 g' e2; omega)
    clear ow1_13
    have ow2_14 := ((ow2_13.keep b).far g1 (fun g g' e1 e2 => by have h1 := hiow2 g e1; have h2 := loog1 g' e2; omega)).far g2 (fun g g' e1 e2 => by have h1 := hiow2 g e1; have h2 := loog2 g' e2; omega)
    clear ow2_13
    have P_14 := ((P_13.keep b).far g1 (fun e => by have h1 := loog1 _ e.symm; have h2 := hiog1 _ e.symm; omega)).far g2 (fun e => by have h1 := loog2 _ e.symm; have h2 := hiog2 _ e.symm; omega)
    clear P_13
    have W_14 := ((W_13.keep b).far g1 (fun e => by have h1 := loog1 _ e.symm; have h2 := hiog1 _ e.symm; omega)).far g2 (fun e => by have h1 := loog2 _ e.symm; have h2 := hiog2 _ e.symm; omega)
    clear W_13
    have X_14 := ((X_13.keep b).far g1 (fun e => by have h1 := loog1 _ e.symm; have h2 := hiog1 _ e.symm; omega)).far g2 (fun e => by have h1 := loog2 _ e.symm; have h2 := hiog2 _ e.symm; omega)
    clear X_13
    have G_14 := ((G_13.keep b).far g1 (fun e => by have h1 := loog1 _ e.symm; have h2 := hiog1 _ e.symm; omega)).far g2 (fun e => by have h1 := loog2 _ e.symm; have h2 := hiog2 _ e.symm; omega)
    clear G_13
    clear b g1 g2
    have mg1_14 := mk1
    have mg2_14 := mk2
    clear mk1 mk2
    have hG := G_14
    obtain ⟨pG0, pG1, pG2, pfG, plG⟩ := hG
    clear pfG
    go_wp2_with fail
    clear pG0 pG1 pG2 plG
    refine (heldJoinState_any Ag1 (jmL ls0_0 ls0_1 x0Mark x1 x2 x3).length cg1 Ag2 (jmR ls0_0 ls0_1 x0Mark x1 x2 x3).length cg2 (jmM ls0_0 ls0_1 x0Mark x1 x2 x3) (1) _ _ _ mg1_14 mg2_14 hFg1 hFg2 (by omega) (by omega)).mono ?_
    rintro e u15 ⟨rfl, b⟩
    have B15 := B14.trans (b.mono B14.size)
    have z15 := b.size
    have P_15 := P_14.keep b
    have W_15 := W_14.keep b
    have X_15 := X_14.keep b
    have G_15 := G_14.keep b
    have ow1_15 := ow1_14.keep b
    have ow2_15 := ow2_14.keep b
    have mg1_15 := ownsRow_keep mg1_14 b
    have mg2_15 := ownsRow_keep mg2_14 b
    clear P_14 W_14 X_14 G_14 ow1_14 ow2_14 mg1_14 mg2_14 b
    have hP := P_15
    obtain ⟨pP0, pP1, pP2, pfP, plP⟩ := hP
    clear pfP
    go_wp2_with fail
    clear pP0 pP1 pP2 plP
    refine (toJoinState_any a0_0 cap0_0 ls0_0 a0_1 cap0_1 ls0_1 x0Mark _ (ha.keep B15) (hb.keep B15)).mono ?_
    rintro e u16 ⟨Ay1, cy1, Ay2, cy2, rfl, qy1, qy2, disy, b⟩
    have B16 := B15.trans (b.mono B15.size)
    have z16 := b.size
    have P_16 := P_15.keep b
    have W_16 := W_15.keep b
    have X_16 := X_15.keep b
    have G_16 := G_15.keep b
    have ow1_16 := ow1_15.keep b
    have ow2_16 := ow2_15.keep b
    have mg1_16 := ownsRow_keep mg1_15 b
    have mg2_16 := ownsRow_keep mg2_15 b
    clear P_15 W_15 X_15 G_15 ow1_15 ow2_15 mg1_15 mg2_15 b
    have oy1_16 := qy1
    clear qy1
    have looy1 : ∀ g, Value.ownBlock (.slice Ay1 (ls0_0).length cy1) = some g → u15.heap.size ≤ g := fun g hg => (oy1_16.lt g hg).1
    have hioy1 : ∀ g, Value.ownBlock (.slice Ay1 (ls0_0).length cy1) = some g → g < u16.heap.size := fun g hg => (oy1_16.lt g hg).2
    have oy2_16 := qy2
    clear qy2
    have looy2 : ∀ g, Value.ownBlock (.slice Ay2 (ls0_1).length cy2) = some g → u15.heap.size ≤ g := fun g hg => (oy2_16.lt g hg).1
    have hioy2 : ∀ g, Value.ownBlock (.slice Ay2 (ls0_1).length cy2) = some g → g < u16.heap.size := fun g hg => (oy2_16.lt g hg).2
    have hP := P_16
    obtain ⟨pP0, pP1, pP2, pfP, plP⟩ := hP
    clear pfP
    go_wp2_with fail
    clear pP0 pP1 pP2 plP
    refine (implJm_any Ay1 cy1 ls0_0 Ay2 cy2 ls0_1 x0Mark x1 x2 x3 _ (oy1_16.row EventR.enc_len) (oy2_16.row EventR.enc_len)).mono ?_
    rintro e u17 ⟨Ah1, ch1, Ah2, ch2, rfl, qh1, qh2, dish, b⟩
    have B17 := B16.trans (b.mono B16.size)
    have z17 := b.size
    have P_17 := P_16.keep b
    have W_17 := W_16.keep b
    have X_17 := X_16.keep b
    have G_17 := G_16.keep b
    have ow1_17 := ow1_16.keep b
    have ow2_17 := ow2_16.keep b
    have mg1_17 := ownsRow_keep mg1_16 b
    have mg2_17 := ownsRow_keep mg2_16 b
    have oy1_17 := oy1_16.keep b
    have oy2_17 := oy2_16.keep b
    clear P_16 W_16 X_16 G_16 ow1_16 ow2_16 mg1_16 mg2_16 oy1_16 oy2_16 b
    have oh1_17 := qh1
    clear qh1
    have looh1 : ∀ g, Value.ownBlock (.slice Ah1 (jmL ls0_0 ls0_1 x0Mark x1 x2 x3).length ch1) = some g → u16.heap.size ≤ g := fun g hg => (oh1_17.lt g hg).1
    have hioh1 : ∀ g, Value.ownBlock (.slice Ah1 (jmL ls0_0 ls0_1 x0Mark x1 x2 x3).length ch1) = some g → g < u17.heap.size := fun g hg => (oh1_17.lt g hg).2
    have oh2_17 := qh2
    clear qh2
    have looh2 : ∀ g, Value.ownBlock (.slice Ah2 (jmR ls0_0 ls0_1 x0Mark x1 x2 x3).length ch2) = some g → u16.heap.size ≤ g := fun g hg => (oh2_17.lt g hg).1
    have hioh2 : ∀ g, Value.ownBlock (.slice Ah2 (jmR ls0_0 ls0_1 x0Mark x1 x2 x3).length ch2) = some g → g < u17.heap.size := fun g hg => (oh2_17.lt g hg).2
    clear oy1_17
    clear oy2_17
    have bv : Below u17.heap.size u17 (u17.alloc (.cells #[.slice Ah1 (jmL ls0_0 ls0_1 x0Mark x1 x2 x3).length ch1, .slice Ah2 (jmR ls0_0 ls0_1 x0Mark x1 x2 x3).length ch2, .int .i64 (jmM ls0_0 ls0_1 x0Mark x1 x2 x3)] 75)) := (Below.refl _ _).alloc (Nat.le_refl _) _
    have nb := Bx.made u17 (.slice Ah1 (jmL ls0_0 ls0_1 x0Mark x1 x2 x3).length ch1) (.slice Ah2 (jmR ls0_0 ls0_1 x0Mark x1 x2 x3).length ch2) (.int .i64 (jmM ls0_0 ls0_1 x0Mark x1 x2 x3)) 75
    have zgH : u17.heap.size < (u17.alloc (.cells #[.slice Ah1 (jmL ls0_0 ls0_1 x0Mark x1 x2 x3).length ch1, .slice Ah2 (jmR ls0_0 ls0_1 x0Mark x1 x2 x3).length ch2, .int .i64 (jmM ls0_0 ls0_1 x0Mark x1 x2 x3)] 75)).heap.size := by simp
    have B18 := B17.trans (bv.mono B17.size)
    have z18 := bv.size
    have P_18 := P_17.keep bv
    have W_18 := W_17.keep bv
    have X_18 := X_17.keep bv
    have G_18 := G_17.keep bv
    have ow1_18 := ow1_17.keep bv
    have ow2_18 := ow2_17.keep bv
    have mg1_18 := ownsRow_keep mg1_17 bv
    have mg2_18 := ownsRow_keep mg2_17 bv
    have oh1_18 := oh1_17.keep bv
    have oh2_18 := oh2_17.keep bv
    clear P_17 W_17 X_17 G_17 ow1_17 ow2_17 mg1_17 mg2_17 oh1_17 oh2_17 bv
    have H_18 := nb
    clear nb
    have hH := H_18
    obtain ⟨pH0, pH1, pH2, pfH, plH⟩ := hH
    clear pfH
    have hW := W_18
    obtain ⟨pW0, pW1, pW2, pfW, plW⟩ := hW
    clear pfW
    go_wp2_with fail
    clear pH0 pH1 pH2 plH pW0 pW1 pW2 plW
    generalize (u17.alloc (.cells #[.slice Ah1 (jmL ls0_0 ls0_1 x0Mark x1 x2 x3).length ch1, .slice Ah2 (jmR ls0_0 ls0_1 x0Mark x1 x2 x3).length ch2, .int .i64 (jmM ls0_0 ls0_1 x0Mark x1 x2 x3)] 75)) = u18 at *
    refine (eqJoinState_same Ah1 ch1 Ah2 ch2 Aw1 cw1 Aw2 cw2 (jmL ls0_0 ls0_1 x0Mark x1 x2 x3) (jmR ls0_0 ls0_1 x0Mark x1 x2 x3) (jmM ls0_0 ls0_1 x0Mark x1 x2 x3) _ (oh1_18.row EventR.enc_len) (oh2_18.row EventR.enc_len) (ow1_18.row EventR.enc_len) (ow2_18.row EventR.enc_len)).mono ?_
    rintro e u19 ⟨rfl, b⟩
    have B19 := B18.trans (b.mono B18.size)
    have z19 := b.size
    have P_19 := P_18.keep b
    have W_19 := W_18.keep b
    have X_19 := X_18.keep b
    have G_19 := G_18.keep b
    have H_19 := H_18.keep b
    have ow1_19 := ow1_18.keep b
    have ow2_19 := ow2_18.keep b
    have mg1_19 := ownsRow_keep mg1_18 b
    have mg2_19 := ownsRow_keep mg2_18 b
    have oh1_19 := oh1_18.keep b
    have oh2_19 := oh2_18.keep b
    clear P_18 W_18 X_18 G_18 H_18 ow1_18 ow2_18 mg1_18 mg2_18 oh1_18 oh2_18 b
    have hG := G_19
    obtain ⟨pG0, pG1, pG2, pfG, plG⟩ := hG
    clear pfG
    go_wp2_with fail
    clear pG0 pG1 pG2 plG
    refine (heldJoinState_any Ag1 (jmL ls0_0 ls0_1 x0Mark x1 x2 x3).length cg1 Ag2 (jmR ls0_0 ls0_1 x0Mark x1 x2 x3).length cg2 (jmM ls0_0 ls0_1 x0Mark x1 x2 x3) (1) _ _ _ mg1_19 mg2_19 hFg1 hFg2 (by omega) (by omega)).mono ?_
    rintro e u20 ⟨rfl, b⟩
    have B20 := B19.trans (b.mono B19.size)
    have z20 := b.size
    have P_20 := P_19.keep b
    have W_20 := W_19.keep b
    have X_20 := X_19.keep b
    have G_20 := G_19.keep b
    have H_20 := H_19.keep b
    have ow1_20 := ow1_19.keep b
    have ow2_20 := ow2_19.keep b
    have mg1_20 := ownsRow_keep mg1_19 b
    have mg2_20 := ownsRow_keep mg2_19 b
    have oh1_20 := oh1_19.keep b
    have oh2_20 := oh2_19.keep b
    clear P_19 W_19 X_19 G_19 H_19 ow1_19 ow2_19 mg1_19 mg2_19 oh1_19 oh2_19 b
    go_wp2
    all_goals go_returns
    all_goals exact ⟨rfl, B20⟩
  · go_enter Try.func13, Try.ntmps13
    go_wp2_with fail
    refine (szJoinState_big a0_0 ls0_0.length cap0_0 a0_1 ls0_1.length cap0_1 x0Mark 1048576 _ (by omega) (by omega) (by omega) hlA hlB).mono ?_
    rintro e u1 ⟨rfl, b⟩
    have B1 : Below w.heap.size w u1 := Below.trans ((Below.refl _ _).alloc (Nat.le_refl _) _) (b.mono (by simp))
    clear b
    go_wp2
    all_goals go_returns
    all_goals exact ⟨rfl, B1⟩
set_option maxRecDepth 100000 in
theorem lifted (os : Os) (started : os.Started) (H : Type) (enc : TypeId × Value → H) :
    ReturnsInHanded {} Try.checked os 13 .any (Rows.fnExactJoinMarkSpec.pre6 enc Try.prog Try.f13 Rows.fnExactJoinMarkRow.domain false) (Rows.fnExactJoinMarkSpec.post enc Try.prog Try.f13 false true false false) := by
  refine returnsInHanded_of_change (C := Try.checked) own started (by kernel_rfl) Try.func13
    (ChangeSpec.witness6 (enc := enc) (C := Try.checked) false ⟨#[], #[.agg #[.slice none 0 0, .slice none 0 0, .int .i64 0], .int .i64 0, .int .i64 0, .int .i64 0], []⟩ 8 (by kernel_rfl) (by kernel_rfl) (by kernel_rfl) (by kernel_rfl)) ?_
  intro W base args ds gs before hval0 hW hcnd _
  have hval : ∀ (j : Nat) t v, Try.f13.params[j]? = some t → args[j]? = some v → Value.okWide Try.prog W .any base t v := hval0
  have hW' := hW
  obtain ⟨p, q, hA0, hV, rfl, hfz, hnd⟩ := hW
  have hA : DataW.TrodAll enc Try.prog W 0 (fun _ => true) true Try.f13.params.toList args.toList ds p := hA0
  rw [Try.params13] at hA hval
  obtain ⟨v0, vs0, d0, ds0, p0, q0, hargs, rfl, rfl, h0, r0⟩ := trodAll_cons hA
  obtain ⟨v1, vs1, d1, ds1, p1, q1, rfl, rfl, rfl, h1, r1⟩ := trodAll_cons r0
  obtain ⟨v2, vs2, d2, ds2, p2, q2, rfl, rfl, rfl, h2, r2⟩ := trodAll_cons r1
  obtain ⟨v3, vs3, d3, ds3, p3, q3, rfl, rfl, rfl, h3, r3⟩ := trodAll_cons r2
  obtain ⟨rfl, rfl, rfl⟩ := trodAll_nil r3
  obtain rfl : args = #[v0, v1, v2, v3] := by cases args; simp_all
  obtain ⟨rfl, rfl⟩ := trodVars_none hV
  have k0 := h0
  have lt0 : ∀ x ∈ p0, x.block < W.heap.size := by obtain ⟨m, hm⟩ := k0; exact DataW.trod_lt m _ _ _ hm
  obtain ⟨c0_0, c0_1, c0_2, y0_0, y0_1, y0_2, mm0, rfl, rfl, rfl, hy0_0, hy0_1, hy0_2⟩ := open_agg3 Try.underlying70 (by kernel_rfl) cells70 (hval 0 70 v0 rfl rfl) h0
  obtain ⟨a0_0, cap0_0, ls0_0, rfl, m0_0, w0_0⟩ := cell_EventS hy0_0
  obtain ⟨a0_1, cap0_1, ls0_1, rfl, m0_1, w0_1⟩ := cell_EventS hy0_1
  obtain ⟨x0Mark, e0_2, rfl, wx0_2⟩ := DataW.trod_int Try.underlying3 hy0_2
  simp only [List.cons.injEq, and_true] at e0_2
  subst e0_2
  have b0_2 := bounds_i64 wx0_2
  have k1 := h1
  have lt1 : ∀ x ∈ p1, x.block < W.heap.size := by obtain ⟨m, hm⟩ := k1; exact DataW.trod_lt m _ _ _ hm
  obtain ⟨x1, rfl, rfl, rfl, wx1⟩ := open_int Try.underlying3 (hval 1 3 v1 rfl rfl) h1
  have b1 := bounds_i64 wx1
  have k2 := h2
  have lt2 : ∀ x ∈ p2, x.block < W.heap.size := by obtain ⟨m, hm⟩ := k2; exact DataW.trod_lt m _ _ _ hm
  obtain ⟨x2, rfl, rfl, rfl, wx2⟩ := open_int Try.underlying3 (hval 2 3 v2 rfl rfl) h2
  have b2 := bounds_i64 wx2
  have k3 := h3
  have lt3 : ∀ x ∈ p3, x.block < W.heap.size := by obtain ⟨m, hm⟩ := k3; exact DataW.trod_lt m _ _ _ hm
  obtain ⟨x3, rfl, rfl, rfl, wx3⟩ := open_int Try.underlying3 (hval 3 3 v3 rfl rfl) h3
  have b3 := bounds_i64 wx3
  clear hA0 hval0
  refine (walk a0_0 cap0_0 ls0_0 a0_1 cap0_1 ls0_1 x0Mark x1 x2 x3 W m0_0 w0_0 m0_1 w0_1 b0_2.1 b0_2.2 b1.1 b1.2 b2.1 b2.2 b3.1 b3.2).mono fun e W' ⟨he, bel⟩ => ?_
  subst he
  exact ⟨_, rfl, _, _, _, [], _, [], hW', trodAll_mk1 (shut_bool Try.underlying4 _), (trodAll_cons_mk (Below.trod laidOut (by kernel_rfl) (of_decide_eq_true (by kernel_rfl)) k0 bel lt0) (trodAll_cons_mk (Below.trod laidOut (by kernel_rfl) (of_decide_eq_true (by kernel_rfl)) k1 bel lt1) (trodAll_cons_mk (Below.trod laidOut (by kernel_rfl) (of_decide_eq_true (by kernel_rfl)) k2 bel lt2) (trodAll_cons_mk (Below.trod laidOut (by kernel_rfl) (of_decide_eq_true (by kernel_rfl)) k3 bel lt3) trodAll_mk0)))), rfl, bel.frame _, fun h => by cases h⟩

theorem over : Rows.fnExactJoinMarkRow.holds Try.pinned (OpenSpec.ofChange Rows.fnExactJoinMarkSpec) :=
  OpenClaim.holds_of_wide 13 Try.f13 rfl rfl rfl rfl rfl rfl rfl ⟨rfl, rfl, rfl, rfl, rfl⟩ rfl rfl rfl rfl rfl (by kernel_rfl) Try.func13 (by kernel_rfl)
    (of_decide_eq_true (by kernel_rfl)) (by unfold Func.isWrapper; first | (rw [if_pos (by decide +kernel)]; kernel_rfl) | (rw [if_neg (by decide +kernel)]; exact ⟨rfl, rfl⟩))
    (fun os started H enc _ => lifted os started H enc)

theorem proved : Rows.FnExactJoinMarkSaid := over
#print axioms proved
end Go.Proofs.Ytgebijaojkmjiaa.fnExactJoinMark
