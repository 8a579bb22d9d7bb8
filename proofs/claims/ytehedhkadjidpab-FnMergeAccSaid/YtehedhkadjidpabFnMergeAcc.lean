/- The law FnMergeAcc answers true at every input and leaves its arguments as they were; no condition. -/
import Derived.Test.YtehedhkadjidpabRows
import Derived.WalkKit
import Derived.WalkSpells
import Derived.WalkLawsBesides
import Derived.ProofKit
import Derived.OpenShut
import Derived.ShutString
import Derived.ChangeOld
import Derived.Below
import Derived.Lib.SmallJoins
import Derived.Handy
import Derived.Test.YtehedhkadjidpabMay
import Derived.Test.YtehedhkadjidpabPlAc
namespace Go.Proofs.Ytehedhkadjidpab.fnMergeAcc
open Go.ChangeShapes Go.WideShapes Go.ChangeAt Go.RowKit Go.Joins
open Go.ChangeMaps (open_string shut_string)
set_option linter.unusedVariables false

theorem own : ownKnob Try.prog.godebug = none := by kernel_rfl
theorem laidOut : laidOutB Try.prog = true := by kernel_rfl
set_option maxRecDepth 100000 in
set_option maxHeartbeats 1000000 in
theorem walk (a0 : Option Addr) (len0 cap0 : Nat) (z0 : List Int) (w : World) (w0 : IsRow .u8 w a0 len0 cap0 z0) :
    Calls Try.prog 10 #[.slice a0 len0 cap0] w fun e w' => e = .returned (.bool true) ∧ Below w.heap.size w w' := by
  by_cases hlen : len0 ≤ 1048576
  · go_enter Try.func10, Try.ntmps10
    go_wp2_with fail
    refine (drawMergeAcc_any w a0 len0 cap0 z0 w0 hlen).mono ?_
    rintro e u0 ⟨c, s, l, m, c2, s2, l2, m2, rfl, c0, c1, s0, s1, l0, l1, m0, m1, d0, d1, e0, e1, f0, f1, g0, g1, B0⟩
    obtain ⟨C, S, L, M, K, hI, hS, hJ, hK⟩ := mg_all c s l m c2 s2 l2 m2
    have A_1 := (Bo.made u0 #[.int .i64 c, .int .i64 s, .int .i64 l, .int .i64 m] 48).keep ((Below.refl _ _).alloc (Nat.le_refl _) (.cells #[.int .i64 c2, .int .i64 s2, .int .i64 l2, .int .i64 m2] 48))
    have D_1 := Bo.made (u0.alloc (.cells #[.int .i64 c, .int .i64 s, .int .i64 l, .int .i64 m] 48)) #[.int .i64 c2, .int .i64 s2, .int .i64 l2, .int .i64 m2] 48
    simp only [World.size_alloc] at D_1
    have B1 : Below w.heap.size w ((u0.alloc (.cells #[.int .i64 c, .int .i64 s, .int .i64 l, .int .i64 m] 48)).alloc (.cells #[.int .i64 c2, .int .i64 s2, .int .i64 l2, .int .i64 m2] 48)) := (B0.alloc B0.size _).alloc (by have := B0.size; simp; omega) _
    have zt1 : ((u0.alloc (.cells #[.int .i64 c, .int .i64 s, .int .i64 l, .int .i64 m] 48)).alloc (.cells #[.int .i64 c2, .int .i64 s2, .int .i64 l2, .int .i64 m2] 48)).heap.size = u0.heap.size + 2 := by simp
    have pA0 := A_1.1 0 _ rfl
    have pA1 := A_1.1 1 _ rfl
    have pA2 := A_1.1 2 _ rfl
    have pA3 := A_1.1 3 _ rfl
    have plA := A_1.2
    have pD0 := D_1.1 0 _ rfl
    have pD1 := D_1.1 1 _ rfl
    have pD2 := D_1.1 2 _ rfl
    have pD3 := D_1.1 3 _ rfl
    have plD := D_1.2
    go_wp2_with fail
    clear pA0 pA1 pA2 pA3 plA
    clear pD0 pD1 pD2 pD3 plD
    generalize ((u0.alloc (.cells #[.int .i64 c, .int .i64 s, .int .i64 l, .int .i64 m] 48)).alloc (.cells #[.int .i64 c2, .int .i64 s2, .int .i64 l2, .int .i64 m2] 48)) = u1 at *
    rcases hK with ⟨rfl, rfl, rfl, rfl, rfl⟩ | ⟨rfl, rfl, rfl, hZ, n0, n1, n2, n3⟩
    · refine (hI _).mono ?_
      rintro e u2 ⟨rfl, b⟩
      have B2 := B1.trans (b.mono B1.size)
      have z2 := b.size
      have A_2 := A_1.keep b
      have D_2 := D_1.keep b
      clear A_1 D_1 b
      have bv : Below u2.heap.size u2 (u2.alloc (.cells #[.int .i64 0, .int .i64 0, .int .i64 0, .int .i64 0] 48)) := (Below.refl _ _).alloc (Nat.le_refl _) _
      have nb := Bo.made u2 #[.int .i64 0, .int .i64 0, .int .i64 0, .int .i64 0] 48
      have zgX : u2.heap.size < (u2.alloc (.cells #[.int .i64 0, .int .i64 0, .int .i64 0, .int .i64 0] 48)).heap.size := by simp
      have B3 := B2.trans (bv.mono B2.size)
      have z3 := bv.size
      have A_3 := A_2.keep bv
      have D_3 := D_2.keep bv
      clear A_2 D_2 bv
      have X_3 := nb
      clear nb
      have pA0 := A_3.1 0 _ rfl
      have pA1 := A_3.1 1 _ rfl
      have pA2 := A_3.1 2 _ rfl
      have pA3 := A_3.1 3 _ rfl
      have plA := A_3.2
      have pD0 := D_3.1 0 _ rfl
      have pD1 := D_3.1 1 _ rfl
      have pD2 := D_3.1 2 _ rfl
      have pD3 := D_3.1 3 _ rfl
      have plD := D_3.2
      go_wp2_with fail
      clear pA0 pA1 pA2 pA3 plA
      clear pD0 pD1 pD2 pD3 plD
      generalize (u2.alloc (.cells #[.int .i64 0, .int .i64 0, .int .i64 0, .int .i64 0] 48)) = u3 at *
      refine (hS _).mono ?_
      rintro e u4 ⟨rfl, b⟩
      have B4 := B3.trans (b.mono B3.size)
      have z4 := b.size
      have A_4 := A_3.keep b
      have D_4 := D_3.keep b
      have X_4 := X_3.keep b
      clear A_3 D_3 X_3 b
      have bv : Below u4.heap.size u4 (u4.alloc (.cells #[.int .i64 0, .int .i64 0, .int .i64 0, .int .i64 0] 48)) := (Below.refl _ _).alloc (Nat.le_refl _) _
      have nb := Bo.made u4 #[.int .i64 0, .int .i64 0, .int .i64 0, .int .i64 0] 48
      have zgY : u4.heap.size < (u4.alloc (.cells #[.int .i64 0, .int .i64 0, .int .i64 0, .int .i64 0] 48)).heap.size := by simp
      have B5 := B4.trans (bv.mono B4.size)
      have z5 := bv.size
      have A_5 := A_4.keep bv
      have D_5 := D_4.keep bv
      have X_5 := X_4.keep bv
      clear A_4 D_4 X_4 bv
      have Y_5 := nb
      clear nb
      have pA0 := A_5.1 0 _ rfl
      have pA1 := A_5.1 1 _ rfl
      have pA2 := A_5.1 2 _ rfl
      have pA3 := A_5.1 3 _ rfl
      have plA := A_5.2
      have pD0 := D_5.1 0 _ rfl
      have pD1 := D_5.1 1 _ rfl
      have pD2 := D_5.1 2 _ rfl
      have pD3 := D_5.1 3 _ rfl
      have plD := D_5.2
      go_wp2_with fail
      clear pA0 pA1 pA2 pA3 plA
      clear pD0 pD1 pD2 pD3 plD
      generalize (u4.alloc (.cells #[.int .i64 0, .int .i64 0, .int .i64 0, .int .i64 0] 48)) = u5 at *
      refine (hJ _).mono ?_
      rintro e u6 ⟨rfl, b⟩
      have B6 := B5.trans (b.mono B5.size)
      have z6 := b.size
      have A_6 := A_5.keep b
      have D_6 := D_5.keep b
      have X_6 := X_5.keep b
      have Y_6 := Y_5.keep b
      clear A_5 D_5 X_5 Y_5 b
      have bv : Below u6.heap.size u6 (u6.alloc (.cells #[.int .i64 0, .int .i64 0, .int .i64 0, .int .i64 0] 48)) := (Below.refl _ _).alloc (Nat.le_refl _) _
      have nb := Bo.made u6 #[.int .i64 0, .int .i64 0, .int .i64 0, .int .i64 0] 48
      have zgZ : u6.heap.size < (u6.alloc (.cells #[.int .i64 0, .int .i64 0, .int .i64 0, .int .i64 0] 48)).heap.size := by simp
      have B7 := B6.trans (bv.mono B6.size)
      have z7 := bv.size
      have A_7 := A_6.keep bv
      have D_7 := D_6.keep bv
      have X_7 := X_6.keep bv
      have Y_7 := Y_6.keep bv
      clear A_6 D_6 X_6 Y_6 bv
      have Z_7 := nb
      clear nb
      have pX0 := X_7.1 0 _ rfl
      have pX1 := X_7.1 1 _ rfl
      have pX2 := X_7.1 2 _ rfl
      have pX3 := X_7.1 3 _ rfl
      have plX := X_7.2
      have pY0 := Y_7.1 0 _ rfl
      have pY1 := Y_7.1 1 _ rfl
      have pY2 := Y_7.1 2 _ rfl
      have pY3 := Y_7.1 3 _ rfl
      have plY := Y_7.2
      have pZ0 := Z_7.1 0 _ rfl
      have pZ1 := Z_7.1 1 _ rfl
      have pZ2 := Z_7.1 2 _ rfl
      have pZ3 := Z_7.1 3 _ rfl
      have plZ := Z_7.2
      go_wp2
      all_goals go_returns
      all_goals exact ⟨ret_bool (by first | rfl | simp), B7⟩
    · have hne : ∀ (p q r t : Int) (W : World), (binOp .neq 48 (.agg #[.int .i64 p, .int .i64 q, .int .i64 r, .int .i64 t]) (.agg #[.int .i64 p, .int .i64 q, .int .i64 r, .int .i64 t])).run Try.prog W = .ok (.bool false) W := neq4_same
      have heq : ∀ (p q r t : Int) (W : World), (binOp .eql 48 (.agg #[.int .i64 p, .int .i64 q, .int .i64 r, .int .i64 t]) (.agg #[.int .i64 p, .int .i64 q, .int .i64 r, .int .i64 t])).run Try.prog W = .ok (.bool true) W := eql4_same
      refine (hI _).mono ?_
      rintro e u2 ⟨rfl, b⟩
      have B2 := B1.trans (b.mono B1.size)
      have z2 := b.size
      have A_2 := A_1.keep b
      have D_2 := D_1.keep b
      clear A_1 D_1 b
      have bv : Below u2.heap.size u2 (u2.alloc (.cells #[.int .i64 (c + c2), .int .i64 (s + s2), .int .i64 L, .int .i64 M] 48)) := (Below.refl _ _).alloc (Nat.le_refl _) _
      have nb := Bo.made u2 #[.int .i64 (c + c2), .int .i64 (s + s2), .int .i64 L, .int .i64 M] 48
      have zgX : u2.heap.size < (u2.alloc (.cells #[.int .i64 (c + c2), .int .i64 (s + s2), .int .i64 L, .int .i64 M] 48)).heap.size := by simp
      have B3 := B2.trans (bv.mono B2.size)
      have z3 := bv.size
      have A_3 := A_2.keep bv
      have D_3 := D_2.keep bv
      clear A_2 D_2 bv
      have X_3 := nb
      clear nb
      have pA0 := A_3.1 0 _ rfl
      have pA1 := A_3.1 1 _ rfl
      have pA2 := A_3.1 2 _ rfl
      have pA3 := A_3.1 3 _ rfl
      have plA := A_3.2
      have pD0 := D_3.1 0 _ rfl
      have pD1 := D_3.1 1 _ rfl
      have pD2 := D_3.1 2 _ rfl
      have pD3 := D_3.1 3 _ rfl
      have plD := D_3.2
      go_wp2_with fail
      clear pA0 pA1 pA2 pA3 plA
      clear pD0 pD1 pD2 pD3 plD
      generalize (u2.alloc (.cells #[.int .i64 (c + c2), .int .i64 (s + s2), .int .i64 L, .int .i64 M] 48)) = u3 at *
      refine (hS _).mono ?_
      rintro e u4 ⟨rfl, b⟩
      have B4 := B3.trans (b.mono B3.size)
      have z4 := b.size
      have A_4 := A_3.keep b
      have D_4 := D_3.keep b
      have X_4 := X_3.keep b
      clear A_3 D_3 X_3 b
      have bv : Below u4.heap.size u4 (u4.alloc (.cells #[.int .i64 (c + c2), .int .i64 (s + s2), .int .i64 L, .int .i64 M] 48)) := (Below.refl _ _).alloc (Nat.le_refl _) _
      have nb := Bo.made u4 #[.int .i64 (c + c2), .int .i64 (s + s2), .int .i64 L, .int .i64 M] 48
      have zgY : u4.heap.size < (u4.alloc (.cells #[.int .i64 (c + c2), .int .i64 (s + s2), .int .i64 L, .int .i64 M] 48)).heap.size := by simp
      have B5 := B4.trans (bv.mono B4.size)
      have z5 := bv.size
      have A_5 := A_4.keep bv
      have D_5 := D_4.keep bv
      have X_5 := X_4.keep bv
      clear A_4 D_4 X_4 bv
      have Y_5 := nb
      clear nb
      have pA0 := A_5.1 0 _ rfl
      have pA1 := A_5.1 1 _ rfl
      have pA2 := A_5.1 2 _ rfl
      have pA3 := A_5.1 3 _ rfl
      have plA := A_5.2
      have pD0 := D_5.1 0 _ rfl
      have pD1 := D_5.1 1 _ rfl
      have pD2 := D_5.1 2 _ rfl
      have pD3 := D_5.1 3 _ rfl
      have plD := D_5.2
      go_wp2_with fail
      clear pA0 pA1 pA2 pA3 plA
      clear pD0 pD1 pD2 pD3 plD
      generalize (u4.alloc (.cells #[.int .i64 (c + c2), .int .i64 (s + s2), .int .i64 L, .int .i64 M] 48)) = u5 at *
      refine (hJ _).mono ?_
      rintro e u6 ⟨rfl, b⟩
      have B6 := B5.trans (b.mono B5.size)
      have z6 := b.size
      have A_6 := A_5.keep b
      have D_6 := D_5.keep b
      have X_6 := X_5.keep b
      have Y_6 := Y_5.keep b
      clear A_5 D_5 X_5 Y_5 b
      have bv : Below u6.heap.size u6 (u6.alloc (.cells #[.int .i64 (c + c2), .int .i64 (s + s2), .int .i64 L, .int .i64 M] 48)) := (Below.refl _ _).alloc (Nat.le_refl _) _
      have nb := Bo.made u6 #[.int .i64 (c + c2), .int .i64 (s + s2), .int .i64 L, .int .i64 M] 48
      have zgZ : u6.heap.size < (u6.alloc (.cells #[.int .i64 (c + c2), .int .i64 (s + s2), .int .i64 L, .int .i64 M] 48)).heap.size := by simp
      have B7 := B6.trans (bv.mono B6.size)
      have z7 := bv.size
      have A_7 := A_6.keep bv
      have D_7 := D_6.keep bv
      have X_7 := X_6.keep bv
      have Y_7 := Y_6.keep bv
      clear A_6 D_6 X_6 Y_6 bv
      have Z_7 := nb
      clear nb
      have pA0 := A_7.1 0 _ rfl
      have pA1 := A_7.1 1 _ rfl
      have pA2 := A_7.1 2 _ rfl
      have pA3 := A_7.1 3 _ rfl
      have plA := A_7.2
      have pD0 := D_7.1 0 _ rfl
      have pD1 := D_7.1 1 _ rfl
      have pD2 := D_7.1 2 _ rfl
      have pD3 := D_7.1 3 _ rfl
      have plD := D_7.2
      have pX0 := X_7.1 0 _ rfl
      have pX1 := X_7.1 1 _ rfl
      have pX2 := X_7.1 2 _ rfl
      have pX3 := X_7.1 3 _ rfl
      have plX := X_7.2
      have pY0 := Y_7.1 0 _ rfl
      have pY1 := Y_7.1 1 _ rfl
      have pY2 := Y_7.1 2 _ rfl
      have pY3 := Y_7.1 3 _ rfl
      have plY := Y_7.2
      have pZ0 := Z_7.1 0 _ rfl
      have pZ1 := Z_7.1 1 _ rfl
      have pZ2 := Z_7.1 2 _ rfl
      have pZ3 := Z_7.1 3 _ rfl
      have plZ := Z_7.2
      go_wp2_with fail
      clear pA0 pA1 pA2 pA3 plA
      clear pD0 pD1 pD2 pD3 plD
      clear pX0 pX1 pX2 pX3 plX
      clear pY0 pY1 pY2 pY3 plY
      clear pZ0 pZ1 pZ2 pZ3 plZ
      generalize (u6.alloc (.cells #[.int .i64 (c + c2), .int .i64 (s + s2), .int .i64 L, .int .i64 M] 48)) = u7 at *
      refine (hZ _).mono ?_
      rintro e u8 ⟨rfl, b⟩
      have B8 := B7.trans (b.mono B7.size)
      have z8 := b.size
      have A_8 := A_7.keep b
      have D_8 := D_7.keep b
      have X_8 := X_7.keep b
      have Y_8 := Y_7.keep b
      have Z_8 := Z_7.keep b
      clear A_7 D_7 X_7 Y_7 Z_7 b
      have bv : Below u8.heap.size u8 (u8.alloc (.cells #[.int .i64 c, .int .i64 s, .int .i64 l, .int .i64 m] 48)) := (Below.refl _ _).alloc (Nat.le_refl _) _
      have nb := Bo.made u8 #[.int .i64 c, .int .i64 s, .int .i64 l, .int .i64 m] 48
      have zgV : u8.heap.size < (u8.alloc (.cells #[.int .i64 c, .int .i64 s, .int .i64 l, .int .i64 m] 48)).heap.size := by simp
      have B9 := B8.trans (bv.mono B8.size)
      have z9 := bv.size
      have A_9 := A_8.keep bv
      have D_9 := D_8.keep bv
      have X_9 := X_8.keep bv
      have Y_9 := Y_8.keep bv
      have Z_9 := Z_8.keep bv
      clear A_8 D_8 X_8 Y_8 Z_8 bv
      have V_9 := nb
      clear nb
      have pA0 := A_9.1 0 _ rfl
      have pA1 := A_9.1 1 _ rfl
      have pA2 := A_9.1 2 _ rfl
      have pA3 := A_9.1 3 _ rfl
      have plA := A_9.2
      have pD0 := D_9.1 0 _ rfl
      have pD1 := D_9.1 1 _ rfl
      have pD2 := D_9.1 2 _ rfl
      have pD3 := D_9.1 3 _ rfl
      have plD := D_9.2
      have pX0 := X_9.1 0 _ rfl
      have pX1 := X_9.1 1 _ rfl
      have pX2 := X_9.1 2 _ rfl
      have pX3 := X_9.1 3 _ rfl
      have plX := X_9.2
      have pV0 := V_9.1 0 _ rfl
      have pV1 := V_9.1 1 _ rfl
      have pV2 := V_9.1 2 _ rfl
      have pV3 := V_9.1 3 _ rfl
      have plV := V_9.2
      go_wp2
      all_goals go_returns
      all_goals exact ⟨ret_bool (by first | rfl | simp), B9⟩
  · go_enter Try.func10, Try.ntmps10
    go_wp2
    all_goals go_returns
    all_goals exact ⟨rfl, Below.refl _ _⟩
set_option maxRecDepth 100000 in
theorem lifted (os : Os) (started : os.Started) (H : Type) (enc : TypeId × Value → H) :
    ReturnsInHanded {} Try.checked os 10 .any (Rows.fnMergeAccSpec.pre6 enc Try.prog Try.f10 Rows.fnMergeAccRow.domain false) (Rows.fnMergeAccSpec.post enc Try.prog Try.f10 false true false false) := by
  refine returnsInHanded_of_change (C := Try.checked) own started (by kernel_rfl) Try.func10
    (ChangeSpec.witness6 (enc := enc) (C := Try.checked) false ⟨#[], #[.slice none 0 0], []⟩ 8 (by kernel_rfl) (by kernel_rfl) (by kernel_rfl) (by kernel_rfl)) ?_
  intro W base args ds gs before hval0 hW hcnd _
  have hval : ∀ (j : Nat) t v, Try.f10.params[j]? = some t → args[j]? = some v → Value.okWide Try.prog W .any base t v := hval0
  have hW' := hW
  obtain ⟨p, q, hA0, hV, rfl, hfz, hnd⟩ := hW
  have hA : DataW.TrodAll enc Try.prog W 0 (fun _ => true) true Try.f10.params.toList args.toList ds p := hA0
  rw [Try.params10] at hA hval
  obtain ⟨v0, vs0, d0, ds0, p0, q0, hargs, rfl, rfl, h0, r0⟩ := trodAll_cons hA
  obtain ⟨rfl, rfl, rfl⟩ := trodAll_nil r0
  obtain rfl : args = #[v0] := by cases args; simp_all
  obtain ⟨rfl, rfl⟩ := trodVars_none hV
  have k0 := h0
  have lt0 : ∀ x ∈ p0, x.block < W.heap.size := by obtain ⟨m, hm⟩ := k0; exact DataW.trod_lt m _ _ _ hm
  obtain ⟨a0, len0, cap0, rfl⟩ := okWide_slice Try.underlying22 (hval 0 22 v0 rfl rfl)
  obtain ⟨z0, w0⟩ : ∃ zs, IsRow .u8 W a0 len0 cap0 zs := by
    obtain ⟨fuel, hf⟩ := h0
    rcases open_ints Try.underlying22 Try.underlying5 (by kernel_rfl) hf with ⟨hcs, _⟩ | ⟨x, l, c, zs, hcs, _, hl, hm, hz, hx, hcell, hwz⟩
    · simp [Value.cells] at hcs
      obtain ⟨rfl, rfl, rfl⟩ := hcs
      exact ⟨[], .inl ⟨rfl, rfl, rfl, rfl⟩⟩
    · simp [Value.cells] at hcs
      obtain ⟨rfl, rfl, rfl⟩ := hcs
      exact ⟨zs, .inr ⟨_, rfl, hl, hm, by simpa using hz, hcell, hwz⟩⟩
  clear hA0 hval0
  refine (walk a0 len0 cap0 z0 W w0).mono fun e W' ⟨he, bel⟩ => ?_
  subst he
  exact ⟨_, rfl, _, _, _, [], _, [], hW', trodAll_mk1 (shut_bool Try.underlying4 _), (trodAll_cons_mk (Below.trod laidOut (by kernel_rfl) (of_decide_eq_true (by kernel_rfl)) k0 bel lt0) trodAll_mk0), rfl, bel.frame _, fun h => by cases h⟩

theorem closed : joinedFacts Try.checked.prog 10 Try.f10 Rows.fnMergeAccSpec Rows.fnMergeAccRow = true := by
  unfold joinedFacts
  rw [mayE, liftE, makeE]
  kernel_rfl

theorem over : Rows.fnMergeAccRow.holds Try.pinned (OpenSpec.ofChange Rows.fnMergeAccSpec) :=
  OpenClaim.holds_of_wide 10 Try.f10 rfl rfl rfl rfl rfl rfl rfl ⟨rfl, rfl, rfl, rfl, rfl⟩ rfl rfl rfl rfl rfl (by kernel_rfl) Try.func10 closed
    (of_decide_eq_true (by kernel_rfl)) (by unfold Func.isWrapper; first | (rw [if_pos (by decide +kernel)]; kernel_rfl) | (rw [if_neg (by decide +kernel)]; exact ⟨rfl, rfl⟩))
    (fun os started H enc _ => lifted os started H enc)

theorem proved : Rows.FnMergeAccSaid := over
#print axioms proved
end Go.Proofs.Ytehedhkadjidpab.fnMergeAcc
