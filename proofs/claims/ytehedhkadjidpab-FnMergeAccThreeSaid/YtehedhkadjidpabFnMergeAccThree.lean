/- The law FnMergeAccThree answers true at every input and leaves its arguments as they were; no condition. -/
import Derived.Test.YtehedhkadjidpabRows
import Derived.WalkKit
import Derived.WalkSpells
import Derived.WalkLawsBesides
import Derived.ProofKit
import Derived.OpenShut
import Derived.ShutString
import Derived.ChangeOld
import Derived.Below
import Derived.Lib.SmallJoins
import Derived.Handy
import Derived.Test.YtehedhkadjidpabMay
import Derived.Test.YtehedhkadjidpabPlAc
namespace Go.Proofs.Ytehedhkadjidpab.fnMergeAccThree
open Go.ChangeShapes Go.WideShapes Go.ChangeAt Go.RowKit Go.Joins
open Go.ChangeMaps (open_string shut_string)
set_option linter.unusedVariables false

theorem own : ownKnob Try.prog.godebug = none := by kernel_rfl
theorem laidOut : laidOutB Try.prog = true := by kernel_rfl
set_option maxRecDepth 100000 in
set_option maxHeartbeats 1000000 in
theorem walk (a0 : Option Addr) (len0 cap0 : Nat) (z0 : List Int) (w : World) (w0 : IsRow .u8 w a0 len0 cap0 z0) :
    Calls Try.prog 11 #[.slice a0 len0 cap0] w fun e w' => e = .returned (.bool true) ∧ Below w.heap.size w w' := by
  by_cases hlen : len0 ≤ 1048576
  · go_enter Try.func11, Try.ntmps11
    go_wp2_with fail
    refine (drawMergeAcc_any w a0 len0 cap0 z0 w0 hlen).mono ?_
    rintro e u0 ⟨c, s, l, m, c2, s2, l2, m2, rfl, c0, c1, s0, s1, l0, l1, m0, m1, d0, d1, e0, e1, f0, f1, g0, g1, B0⟩
    obtain ⟨C, S, L, M, K, hI, hS, hK⟩ := mg_three c s l m c2 s2 l2 m2
    have A_1 := (Bo.made u0 #[.int .i64 c, .int .i64 s, .int .i64 l, .int .i64 m] 48).keep ((Below.refl _ _).alloc (Nat.le_refl _) (.cells #[.int .i64 c2, .int .i64 s2, .int .i64 l2, .int .i64 m2] 48))
    have D_1 := Bo.made (u0.alloc (.cells #[.int .i64 c, .int .i64 s, .int .i64 l, .int .i64 m] 48)) #[.int .i64 c2, .int .i64 s2, .int .i64 l2, .int .i64 m2] 48
    simp only [World.size_alloc] at D_1
    have B1 : Below w.heap.size w ((u0.alloc (.cells #[.int .i64 c, .int .i64 s, .int .i64 l, .int .i64 m] 48)).alloc (.cells #[.int .i64 c2, .int .i64 s2, .int .i64 l2, .int .i64 m2] 48)) := (B0.alloc B0.size _).alloc (by have := B0.size; simp; omega) _
    have zt1 : ((u0.alloc (.cells #[.int .i64 c, .int .i64 s, .int .i64 l, .int .i64 m] 48)).alloc (.cells #[.int .i64 c2, .int .i64 s2, .int .i64 l2, .int .i64 m2] 48)).heap.size = u0.heap.size + 2 := by simp
    have pA0 := A_1.1 0 _ rfl
    have pA1 := A_1.1 1 _ rfl
    have pA2 := A_1.1 2 _ rfl
    have pA3 := A_1.1 3 _ rfl
    have plA := A_1.2
    have pD0 := D_1.1 0 _ rfl
    have pD1 := D_1.1 1 _ rfl
    have pD2 := D_1.1 2 _ rfl
    have pD3 := D_1.1 3 _ rfl
    have plD := D_1.2
    go_wp2_with fail
    clear pA0 pA1 pA2 pA3 plA
    clear pD0 pD1 pD2 pD3 plD
    generalize ((u0.alloc (.cells #[.int .i64 c, .int .i64 s, .int .i64 l, .int .i64 m] 48)).alloc (.cells #[.int .i64 c2, .int .i64 s2, .int .i64 l2, .int .i64 m2] 48)) = u1 at *
    rcases hK with ⟨rfl, rfl, rfl, rfl, rfl⟩ | ⟨rfl, D1, D2, D3, D4, K1, E1, E2, E3, E4, K2, F1, F2, F3, F4, K3, hA, hB, hC, hD⟩
    · refine (hI _).mono ?_
      rintro e u2 ⟨rfl, b⟩
      have B2 := B1.trans (b.mono B1.size)
      have z2 := b.size
      have A_2 := A_1.keep b
      have D_2 := D_1.keep b
      clear A_1 D_1 b
      have bv : Below u2.heap.size u2 (u2.alloc (.cells #[.int .i64 0, .int .i64 0, .int .i64 0, .int .i64 0] 48)) := (Below.refl _ _).alloc (Nat.le_refl _) _
      have nb := Bo.made u2 #[.int .i64 0, .int .i64 0, .int .i64 0, .int .i64 0] 48
      have zgX : u2.heap.size < (u2.alloc (.cells #[.int .i64 0, .int .i64 0, .int .i64 0, .int .i64 0] 48)).heap.size := by simp
      have B3 := B2.trans (bv.mono B2.size)
      have z3 := bv.size
      have A_3 := A_2.keep bv
      have D_3 := D_2.keep bv
      clear A_2 D_2 bv
      have X_3 := nb
      clear nb
      have pA0 := A_3.1 0 _ rfl
      have pA1 := A_3.1 1 _ rfl
      have pA2 := A_3.1 2 _ rfl
      have pA3 := A_3.1 3 _ rfl
      have plA := A_3.2
      have pD0 := D_3.1 0 _ rfl
      have pD1 := D_3.1 1 _ rfl
      have pD2 := D_3.1 2 _ rfl
      have pD3 := D_3.1 3 _ rfl
      have plD := D_3.2
      go_wp2_with fail
      clear pA0 pA1 pA2 pA3 plA
      clear pD0 pD1 pD2 pD3 plD
      generalize (u2.alloc (.cells #[.int .i64 0, .int .i64 0, .int .i64 0, .int .i64 0] 48)) = u3 at *
      refine (hS _).mono ?_
      rintro e u4 ⟨rfl, b⟩
      have B4 := B3.trans (b.mono B3.size)
      have z4 := b.size
      have A_4 := A_3.keep b
      have D_4 := D_3.keep b
      have X_4 := X_3.keep b
      clear A_3 D_3 X_3 b
      have bv : Below u4.heap.size u4 (u4.alloc (.cells #[.int .i64 0, .int .i64 0, .int .i64 0, .int .i64 0] 48)) := (Below.refl _ _).alloc (Nat.le_refl _) _
      have nb := Bo.made u4 #[.int .i64 0, .int .i64 0, .int .i64 0, .int .i64 0] 48
      have zgY : u4.heap.size < (u4.alloc (.cells #[.int .i64 0, .int .i64 0, .int .i64 0, .int .i64 0] 48)).heap.size := by simp
      have B5 := B4.trans (bv.mono B4.size)
      have z5 := bv.size
      have A_5 := A_4.keep bv
      have D_5 := D_4.keep bv
      have X_5 := X_4.keep bv
      clear A_4 D_4 X_4 bv
      have Y_5 := nb
      clear nb
      have pX0 := X_5.1 0 _ rfl
      have pX1 := X_5.1 1 _ rfl
      have pX2 := X_5.1 2 _ rfl
      have pX3 := X_5.1 3 _ rfl
      have plX := X_5.2
      have pY0 := Y_5.1 0 _ rfl
      have pY1 := Y_5.1 1 _ rfl
      have pY2 := Y_5.1 2 _ rfl
      have pY3 := Y_5.1 3 _ rfl
      have plY := Y_5.2
      go_wp2
      all_goals go_returns
      all_goals exact ⟨ret_bool (by first | rfl | simp), B5⟩
    · have hne : ∀ (p q r t : Int) (W : World), (binOp .neq 48 (.agg #[.int .i64 p, .int .i64 q, .int .i64 r, .int .i64 t]) (.agg #[.int .i64 p, .int .i64 q, .int .i64 r, .int .i64 t])).run Try.prog W = .ok (.bool false) W := neq4_same
      have heq : ∀ (p q r t : Int) (W : World), (binOp .eql 48 (.agg #[.int .i64 p, .int .i64 q, .int .i64 r, .int .i64 t]) (.agg #[.int .i64 p, .int .i64 q, .int .i64 r, .int .i64 t])).run Try.prog W = .ok (.bool true) W := eql4_same
      refine (hI _).mono ?_
      rintro e u2 ⟨rfl, b⟩
      have B2 := B1.trans (b.mono B1.size)
      have z2 := b.size
      have A_2 := A_1.keep b
      have D_2 := D_1.keep b
      clear A_1 D_1 b
      have bv : Below u2.heap.size u2 (u2.alloc (.cells #[.int .i64 C, .int .i64 S, .int .i64 L, .int .i64 M] 48)) := (Below.refl _ _).alloc (Nat.le_refl _) _
      have nb := Bo.made u2 #[.int .i64 C, .int .i64 S, .int .i64 L, .int .i64 M] 48
      have zgX : u2.heap.size < (u2.alloc (.cells #[.int .i64 C, .int .i64 S, .int .i64 L, .int .i64 M] 48)).heap.size := by simp
      have B3 := B2.trans (bv.mono B2.size)
      have z3 := bv.size
      have A_3 := A_2.keep bv
      have D_3 := D_2.keep bv
      clear A_2 D_2 bv
      have X_3 := nb
      clear nb
      have pA0 := A_3.1 0 _ rfl
      have pA1 := A_3.1 1 _ rfl
      have pA2 := A_3.1 2 _ rfl
      have pA3 := A_3.1 3 _ rfl
      have plA := A_3.2
      have pD0 := D_3.1 0 _ rfl
      have pD1 := D_3.1 1 _ rfl
      have pD2 := D_3.1 2 _ rfl
      have pD3 := D_3.1 3 _ rfl
      have plD := D_3.2
      go_wp2_with fail
      clear pA0 pA1 pA2 pA3 plA
      clear pD0 pD1 pD2 pD3 plD
      generalize (u2.alloc (.cells #[.int .i64 C, .int .i64 S, .int .i64 L, .int .i64 M] 48)) = u3 at *
      refine (hS _).mono ?_
      rintro e u4 ⟨rfl, b⟩
      have B4 := B3.trans (b.mono B3.size)
      have z4 := b.size
      have A_4 := A_3.keep b
      have D_4 := D_3.keep b
      have X_4 := X_3.keep b
      clear A_3 D_3 X_3 b
      have bv : Below u4.heap.size u4 ((u4.alloc (.cells #[.int .i64 C, .int .i64 S, .int .i64 L, .int .i64 M] 48)).alloc (.cells #[.int .i64 2, .int .i64 9, .int .i64 2, .int .i64 7] 48)) := ((Below.refl _ _).alloc (Nat.le_refl _) _).alloc (by simp) _
      have nb1 := (Bo.made u4 #[.int .i64 C, .int .i64 S, .int .i64 L, .int .i64 M] 48).keep ((Below.refl _ _).alloc (Nat.le_refl _) (.cells #[.int .i64 2, .int .i64 9, .int .i64 2, .int .i64 7] 48))
      have nb2 := Bo.made (u4.alloc (.cells #[.int .i64 C, .int .i64 S, .int .i64 L, .int .i64 M] 48)) #[.int .i64 2, .int .i64 9, .int .i64 2, .int .i64 7] 48
      simp only [World.size_alloc] at nb2
      have zt5 : ((u4.alloc (.cells #[.int .i64 C, .int .i64 S, .int .i64 L, .int .i64 M] 48)).alloc (.cells #[.int .i64 2, .int .i64 9, .int .i64 2, .int .i64 7] 48)).heap.size = u4.heap.size + 2 := by simp
      have xk := X_4.keep ((Below.refl _ _).alloc (Nat.le_refl _) (.cells #[.int .i64 C, .int .i64 S, .int .i64 L, .int .i64 M] 48))
      have yk := Bo.made u4 #[.int .i64 C, .int .i64 S, .int .i64 L, .int .i64 M] 48
      have kX0 := xk.1 0 _ rfl
      have kY0 := yk.1 0 _ rfl
      have kX1 := xk.1 1 _ rfl
      have kY1 := yk.1 1 _ rfl
      have kX2 := xk.1 2 _ rfl
      have kY2 := yk.1 2 _ rfl
      have kX3 := xk.1 3 _ rfl
      have kY3 := yk.1 3 _ rfl
      have kXl := xk.2
      have kYl := yk.2
      clear xk yk
      have B5 := B4.trans (bv.mono B4.size)
      have z5 := bv.size
      have A_5 := A_4.keep bv
      have D_5 := D_4.keep bv
      have X_5 := X_4.keep bv
      clear A_4 D_4 X_4 bv
      have Y_5 := nb1
      have T_5 := nb2
      clear nb1 nb2
      have pX0 := X_5.1 0 _ rfl
      have pX1 := X_5.1 1 _ rfl
      have pX2 := X_5.1 2 _ rfl
      have pX3 := X_5.1 3 _ rfl
      have plX := X_5.2
      have pT0 := T_5.1 0 _ rfl
      have pT1 := T_5.1 1 _ rfl
      have pT2 := T_5.1 2 _ rfl
      have pT3 := T_5.1 3 _ rfl
      have plT := T_5.2
      go_wp2_with fail
      clear pX0 pX1 pX2 pX3 plX
      clear pT0 pT1 pT2 pT3 plT
      clear kXl kYl kX0 kY0 kX1 kY1 kX2 kY2 kX3 kY3
      generalize ((u4.alloc (.cells #[.int .i64 C, .int .i64 S, .int .i64 L, .int .i64 M] 48)).alloc (.cells #[.int .i64 2, .int .i64 9, .int .i64 2, .int .i64 7] 48)) = u5 at *
      refine (hA _).mono ?_
      rintro e u6 ⟨rfl, b⟩
      have B6 := B5.trans (b.mono B5.size)
      have z6 := b.size
      have A_6 := A_5.keep b
      have D_6 := D_5.keep b
      have X_6 := X_5.keep b
      have Y_6 := Y_5.keep b
      have T_6 := T_5.keep b
      clear A_5 D_5 X_5 Y_5 T_5 b
      have bv : Below u6.heap.size u6 (u6.alloc (.cells #[.int .i64 D1, .int .i64 D2, .int .i64 D3, .int .i64 D4] 48)) := (Below.refl _ _).alloc (Nat.le_refl _) _
      have nb := Bo.made u6 #[.int .i64 D1, .int .i64 D2, .int .i64 D3, .int .i64 D4] 48
      have zgU : u6.heap.size < (u6.alloc (.cells #[.int .i64 D1, .int .i64 D2, .int .i64 D3, .int .i64 D4] 48)).heap.size := by simp
      have B7 := B6.trans (bv.mono B6.size)
      have z7 := bv.size
      have A_7 := A_6.keep bv
      have D_7 := D_6.keep bv
      have X_7 := X_6.keep bv
      have Y_7 := Y_6.keep bv
      have T_7 := T_6.keep bv
      clear A_6 D_6 X_6 Y_6 T_6 bv
      have U_7 := nb
      clear nb
      have pD0 := D_7.1 0 _ rfl
      have pD1 := D_7.1 1 _ rfl
      have pD2 := D_7.1 2 _ rfl
      have pD3 := D_7.1 3 _ rfl
      have plD := D_7.2
      have pT0 := T_7.1 0 _ rfl
      have pT1 := T_7.1 1 _ rfl
      have pT2 := T_7.1 2 _ rfl
      have pT3 := T_7.1 3 _ rfl
      have plT := T_7.2
      go_wp2_with fail
      clear pD0 pD1 pD2 pD3 plD
      clear pT0 pT1 pT2 pT3 plT
      generalize (u6.alloc (.cells #[.int .i64 D1, .int .i64 D2, .int .i64 D3, .int .i64 D4] 48)) = u7 at *
      refine (hB _).mono ?_
      rintro e u8 ⟨rfl, b⟩
      have B8 := B7.trans (b.mono B7.size)
      have z8 := b.size
      have A_8 := A_7.keep b
      have D_8 := D_7.keep b
      have X_8 := X_7.keep b
      have Y_8 := Y_7.keep b
      have T_8 := T_7.keep b
      have U_8 := U_7.keep b
      clear A_7 D_7 X_7 Y_7 T_7 U_7 b
      have bv : Below u8.heap.size u8 (u8.alloc (.cells #[.int .i64 E1, .int .i64 E2, .int .i64 E3, .int .i64 E4] 48)) := (Below.refl _ _).alloc (Nat.le_refl _) _
      have nb := Bo.made u8 #[.int .i64 E1, .int .i64 E2, .int .i64 E3, .int .i64 E4] 48
      have zgV : u8.heap.size < (u8.alloc (.cells #[.int .i64 E1, .int .i64 E2, .int .i64 E3, .int .i64 E4] 48)).heap.size := by simp
      have B9 := B8.trans (bv.mono B8.size)
      have z9 := bv.size
      have A_9 := A_8.keep bv
      have D_9 := D_8.keep bv
      have X_9 := X_8.keep bv
      have Y_9 := Y_8.keep bv
      have T_9 := T_8.keep bv
      have U_9 := U_8.keep bv
      clear A_8 D_8 X_8 Y_8 T_8 U_8 bv
      have V_9 := nb
      clear nb
      have pA0 := A_9.1 0 _ rfl
      have pA1 := A_9.1 1 _ rfl
      have pA2 := A_9.1 2 _ rfl
      have pA3 := A_9.1 3 _ rfl
      have plA := A_9.2
      have pV0 := V_9.1 0 _ rfl
      have pV1 := V_9.1 1 _ rfl
      have pV2 := V_9.1 2 _ rfl
      have pV3 := V_9.1 3 _ rfl
      have plV := V_9.2
      go_wp2_with fail
      clear pA0 pA1 pA2 pA3 plA
      clear pV0 pV1 pV2 pV3 plV
      generalize (u8.alloc (.cells #[.int .i64 E1, .int .i64 E2, .int .i64 E3, .int .i64 E4] 48)) = u9 at *
      refine (hC _).mono ?_
      rintro e u10 ⟨rfl, b⟩
      have B10 := B9.trans (b.mono B9.size)
      have z10 := b.size
      have A_10 := A_9.keep b
      have D_10 := D_9.keep b
      have X_10 := X_9.keep b
      have Y_10 := Y_9.keep b
      have T_10 := T_9.keep b
      have U_10 := U_9.keep b
      have V_10 := V_9.keep b
      clear A_9 D_9 X_9 Y_9 T_9 U_9 V_9 b
      rcases K1 with _ | _
      · have bv : Below u10.heap.size u10 (u10.alloc (.cells #[.int .i64 F1, .int .i64 F2, .int .i64 F3, .int .i64 F4] 48)) := (Below.refl _ _).alloc (Nat.le_refl _) _
        have nb := Bo.made u10 #[.int .i64 F1, .int .i64 F2, .int .i64 F3, .int .i64 F4] 48
        have zgR : u10.heap.size < (u10.alloc (.cells #[.int .i64 F1, .int .i64 F2, .int .i64 F3, .int .i64 F4] 48)).heap.size := by simp
        have B11 := B10.trans (bv.mono B10.size)
        have z11 := bv.size
        have A_11 := A_10.keep bv
        have D_11 := D_10.keep bv
        have X_11 := X_10.keep bv
        have Y_11 := Y_10.keep bv
        have T_11 := T_10.keep bv
        have U_11 := U_10.keep bv
        have V_11 := V_10.keep bv
        clear A_10 D_10 X_10 Y_10 T_10 U_10 V_10 bv
        have R_11 := nb
        clear nb
        have pU0 := U_11.1 0 _ rfl
        have pU1 := U_11.1 1 _ rfl
        have pU2 := U_11.1 2 _ rfl
        have pU3 := U_11.1 3 _ rfl
        have plU := U_11.2
        have pR0 := R_11.1 0 _ rfl
        have pR1 := R_11.1 1 _ rfl
        have pR2 := R_11.1 2 _ rfl
        have pR3 := R_11.1 3 _ rfl
        have plR := R_11.2
        go_wp2
        all_goals go_returns
        all_goals exact ⟨ret_bool (by first | rfl | simp), B11⟩
      · obtain ⟨rfl, rfl, rfl, rfl, rfl, rfl⟩ := hD rfl
        have bv : Below u10.heap.size u10 (u10.alloc (.cells #[.int .i64 F1, .int .i64 F2, .int .i64 F3, .int .i64 F4] 48)) := (Below.refl _ _).alloc (Nat.le_refl _) _
        have nb := Bo.made u10 #[.int .i64 F1, .int .i64 F2, .int .i64 F3, .int .i64 F4] 48
        have zgR : u10.heap.size < (u10.alloc (.cells #[.int .i64 F1, .int .i64 F2, .int .i64 F3, .int .i64 F4] 48)).heap.size := by simp
        have B11 := B10.trans (bv.mono B10.size)
        have z11 := bv.size
        have A_11 := A_10.keep bv
        have D_11 := D_10.keep bv
        have X_11 := X_10.keep bv
        have Y_11 := Y_10.keep bv
        have T_11 := T_10.keep bv
        have U_11 := U_10.keep bv
        have V_11 := V_10.keep bv
        clear A_10 D_10 X_10 Y_10 T_10 U_10 V_10 bv
        have R_11 := nb
        clear nb
        have pU0 := U_11.1 0 _ rfl
        have pU1 := U_11.1 1 _ rfl
        have pU2 := U_11.1 2 _ rfl
        have pU3 := U_11.1 3 _ rfl
        have plU := U_11.2
        have pR0 := R_11.1 0 _ rfl
        have pR1 := R_11.1 1 _ rfl
        have pR2 := R_11.1 2 _ rfl
        have pR3 := R_11.1 3 _ rfl
        have plR := R_11.2
        go_wp2
        all_goals go_returns
        all_goals exact ⟨ret_bool (by first | rfl | simp), B11⟩
  · go_enter Try.func11, Try.ntmps11
    go_wp2
    all_goals go_returns
    all_goals exact ⟨rfl, Below.refl _ _⟩
set_option maxRecDepth 100000 in
theorem lifted (os : Os) (started : os.Started) (H : Type) (enc : TypeId × Value → H) :
    ReturnsInHanded {} Try.checked os 11 .any (Rows.fnMergeAccThreeSpec.pre6 enc Try.prog Try.f11 Rows.fnMergeAccThreeRow.domain false) (Rows.fnMergeAccThreeSpec.post enc Try.prog Try.f11 false true false false) := by
  refine returnsInHanded_of_change (C := Try.checked) own started (by kernel_rfl) Try.func11
    (ChangeSpec.witness6 (enc := enc) (C := Try.checked) false ⟨#[], #[.slice none 0 0], []⟩ 8 (by kernel_rfl) (by kernel_rfl) (by kernel_rfl) (by kernel_rfl)) ?_
  intro W base args ds gs before hval0 hW hcnd _
  have hval : ∀ (j : Nat) t v, Try.f11.params[j]? = some t → args[j]? = some v → Value.okWide Try.prog W .any base t v := hval0
  have hW' := hW
  obtain ⟨p, q, hA0, hV, rfl, hfz, hnd⟩ := hW
  have hA : DataW.TrodAll enc Try.prog W 0 (fun _ => true) true Try.f11.params.toList args.toList ds p := hA0
  rw [Try.params11] at hA hval
  obtain ⟨v0, vs0, d0, ds0, p0, q0, hargs, rfl, rfl, h0, r0⟩ := trodAll_cons hA
  obtain ⟨rfl, rfl, rfl⟩ := trodAll_nil r0
  obtain rfl : args = #[v0] := by cases args; simp_all
  obtain ⟨rfl, rfl⟩ := trodVars_none hV
  have k0 := h0
  have lt0 : ∀ x ∈ p0, x.block < W.heap.size := by obtain ⟨m, hm⟩ := k0; exact DataW.trod_lt m _ _ _ hm
  obtain ⟨a0, len0, cap0, rfl⟩ := okWide_slice Try.underlying22 (hval 0 22 v0 rfl rfl)
  obtain ⟨z0, w0⟩ : ∃ zs, IsRow .u8 W a0 len0 cap0 zs := by
    obtain ⟨fuel, hf⟩ := h0
    rcases open_ints Try.underlying22 Try.underlying5 (by kernel_rfl) hf with ⟨hcs, _⟩ | ⟨x, l, c, zs, hcs, _, hl, hm, hz, hx, hcell, hwz⟩
    · simp [Value.cells] at hcs
      obtain ⟨rfl, rfl, rfl⟩ := hcs
      exact ⟨[], .inl ⟨rfl, rfl, rfl, rfl⟩⟩
    · simp [Value.cells] at hcs
      obtain ⟨rfl, rfl, rfl⟩ := hcs
      exact ⟨zs, .inr ⟨_, rfl, hl, hm, by simpa using hz, hcell, hwz⟩⟩
  clear hA0 hval0
  refine (walk a0 len0 cap0 z0 W w0).mono fun e W' ⟨he, bel⟩ => ?_
  subst he
  exact ⟨_, rfl, _, _, _, [], _, [], hW', trodAll_mk1 (shut_bool Try.underlying4 _), (trodAll_cons_mk (Below.trod laidOut (by kernel_rfl) (of_decide_eq_true (by kernel_rfl)) k0 bel lt0) trodAll_mk0), rfl, bel.frame _, fun h => by cases h⟩

theorem closed : joinedFacts Try.checked.prog 11 Try.f11 Rows.fnMergeAccThreeSpec Rows.fnMergeAccThreeRow = true := by
  unfold joinedFacts
  rw [mayE, liftE, makeE]
  kernel_rfl

theorem over : Rows.fnMergeAccThreeRow.holds Try.pinned (OpenSpec.ofChange Rows.fnMergeAccThreeSpec) :=
  OpenClaim.holds_of_wide 11 Try.f11 rfl rfl rfl rfl rfl rfl rfl ⟨rfl, rfl, rfl, rfl, rfl⟩ rfl rfl rfl rfl rfl (by kernel_rfl) Try.func11 closed
    (of_decide_eq_true (by kernel_rfl)) (by unfold Func.isWrapper; first | (rw [if_pos (by decide +kernel)]; kernel_rfl) | (rw [if_neg (by decide +kernel)]; exact ⟨rfl, rfl⟩))
    (fun os started H enc _ => lifted os started H enc)

theorem proved : Rows.FnMergeAccThreeSaid := over
#print axioms proved
end Go.Proofs.Ytehedhkadjidpab.fnMergeAccThree
