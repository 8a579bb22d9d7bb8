/- The law FnGrantCredit answers true at every input and leaves its arguments as they were; no condition. -/
import Derived.Test.YtcpjidbinhfapabRows
import Derived.WalkKit
import Derived.WalkSpells
import Derived.WalkLawsBesides
import Derived.ProofKit
import Derived.OpenShut
import Derived.ShutString
import Derived.ChangeOld
import Derived.Below
import Derived.Lib.SmallJoins
import Derived.Handy
import Derived.Test.YtcpjidbinhfapabGc3
import Derived.Test.YtcpjidbinhfapabEqIt
import Derived.Test.YtcpjidbinhfapabBo
namespace Go.Proofs.Ytcpjidbinhfapab.fnGrantCredit
open Go.ChangeShapes Go.WideShapes Go.ChangeAt Go.RowKit Go.Joins
open Go.ChangeMaps (open_string shut_string)
set_option linter.unusedVariables false

theorem own : ownKnob Try.prog.godebug = none := by kernel_rfl
theorem laidOut : laidOutB Try.prog = true := by kernel_rfl
set_option maxRecDepth 100000 in
set_option maxHeartbeats 2000000 in
theorem walk (a0 : Option Addr) (len0 cap0 : Nat) (z0 : List Int) (w : World) (w0 : IsRow .u8 w a0 len0 cap0 z0) :
    Calls Try.prog 6 #[.slice a0 len0 cap0] w fun e w' => e = .returned (.bool true) ∧ Below w.heap.size w w' := by
  by_cases hlen : len0 ≤ 1048576
  · go_enter Try.func6, Try.ntmps6
    go_wp2_with fail
    refine (drawGrantCredit_any w a0 len0 cap0 z0 w0 hlen).mono ?_
    rintro e u0 ⟨x, y, A, c, l, rfl, x0, x1, y0, y1, l8, oc_0, B0⟩
    obtain ⟨L0, hL0⟩ : ∃ L : List ItemR, L = [] := ⟨_, rfl⟩
    obtain ⟨L5, hL5⟩ : ∃ L, L = l ++ [(⟨0, 1⟩ : ItemR)] := ⟨_, rfl⟩
    have hg := gc_three x y l L0 L5 hL0 hL5
    clear hL0 hL5
    rcases hg with hgc | ⟨hv, hy, hgc⟩ | ⟨hv, hy, hsd, hgc⟩
    · have hI := fun W hr => implGc_any x y A c l W hr
      have hS := fun W hr => specGc_any x y A c l W hr
      rw [hgc] at hI hS
      clear hgc
      have bv : Below u0.heap.size u0 (u0.alloc (.cells #[.int .i64 x, .int .i64 y, .slice A l.length c] 26)) := (Below.refl _ _).alloc (Nat.le_refl _) _
      have nb := Bo.made u0 #[.int .i64 x, .int .i64 y, .slice A l.length c] 26
      have zgC : u0.heap.size < (u0.alloc (.cells #[.int .i64 x, .int .i64 y, .slice A l.length c] 26)).heap.size := by simp
      have B1 := B0.trans (bv.mono B0.size)
      have z1 := bv.size
      have oc_1 := oc_0.keep bv
      clear oc_0 bv
      have C_1 := nb
      clear nb
      go_wp2_with fail
      generalize (u0.alloc (.cells #[.int .i64 x, .int .i64 y, .slice A l.length c] 26)) = u1 at *
      have pC0 := C_1.1 0 _ rfl
      have pC1 := C_1.1 1 _ rfl
      have pC2 := C_1.1 2 _ rfl
      have plC := C_1.2
      go_wp2_with fail
      clear pC0 pC1 pC2 plC
      refine (hI _ (oc_1.row ItemR.enc_len)).mono ?_
      rintro e u2 ⟨A1, c1, rfl, q1, b⟩
      have B2 := B1.trans (b.mono B1.size)
      have z2 := b.size
      have C_2 := C_1.keep b
      have oc_2 := oc_1.keep b
      clear C_1 oc_1 b
      have od_2 := q1
      clear q1
      have bv : Below u2.heap.size u2 (u2.alloc (.cells #[.int .i64 0, .int .i64 0, .slice A1 L0.length c1] 26)) := (Below.refl _ _).alloc (Nat.le_refl _) _
      have nb := Bo.made u2 #[.int .i64 0, .int .i64 0, .slice A1 L0.length c1] 26
      have zgD : u2.heap.size < (u2.alloc (.cells #[.int .i64 0, .int .i64 0, .slice A1 L0.length c1] 26)).heap.size := by simp
      have B3 := B2.trans (bv.mono B2.size)
      have z3 := bv.size
      have C_3 := C_2.keep bv
      have oc_3 := oc_2.keep bv
      have od_3 := od_2.keep bv
      clear C_2 oc_2 od_2 bv
      have D_3 := nb
      clear nb
      have pC0 := C_3.1 0 _ rfl
      have pC1 := C_3.1 1 _ rfl
      have pC2 := C_3.1 2 _ rfl
      have plC := C_3.2
      go_wp2_with fail
      clear pC0 pC1 pC2 plC
      generalize (u2.alloc (.cells #[.int .i64 0, .int .i64 0, .slice A1 L0.length c1] 26)) = u3 at *
      refine (hS _ (oc_3.row ItemR.enc_len)).mono ?_
      rintro e u4 ⟨A2, c2, rfl, q1, b⟩
      have B4 := B3.trans (b.mono B3.size)
      have z4 := b.size
      have C_4 := C_3.keep b
      have D_4 := D_3.keep b
      have oc_4 := oc_3.keep b
      have od_4 := od_3.keep b
      clear C_3 D_3 oc_3 od_3 b
      have oe_4 := q1
      clear q1
      have bv : Below u4.heap.size u4 (u4.alloc (.cells #[.int .i64 0, .int .i64 0, .slice A2 L0.length c2] 26)) := (Below.refl _ _).alloc (Nat.le_refl _) _
      have nb := Bo.made u4 #[.int .i64 0, .int .i64 0, .slice A2 L0.length c2] 26
      have zgE : u4.heap.size < (u4.alloc (.cells #[.int .i64 0, .int .i64 0, .slice A2 L0.length c2] 26)).heap.size := by simp
      have B5 := B4.trans (bv.mono B4.size)
      have z5 := bv.size
      have C_5 := C_4.keep bv
      have D_5 := D_4.keep bv
      have oc_5 := oc_4.keep bv
      have od_5 := od_4.keep bv
      have oe_5 := oe_4.keep bv
      clear C_4 D_4 oc_4 od_4 oe_4 bv
      have E_5 := nb
      clear nb
      have pD0 := D_5.1 0 _ rfl
      have pD1 := D_5.1 1 _ rfl
      have pD2 := D_5.1 2 _ rfl
      have plD := D_5.2
      have pE0 := E_5.1 0 _ rfl
      have pE1 := E_5.1 1 _ rfl
      have pE2 := E_5.1 2 _ rfl
      have plE := E_5.2
      go_wp2_with fail
      clear pD0 pD1 pD2 plD
      clear pE0 pE1 pE2 plE
      generalize (u4.alloc (.cells #[.int .i64 0, .int .i64 0, .slice A2 L0.length c2] 26)) = u5 at *
      refine (equalChannel_same 0 0 A1 c1 A2 c2 L0 _ (od_5.row ItemR.enc_len) (oe_5.row ItemR.enc_len)).mono ?_
      rintro e u6 ⟨rfl, b⟩
      have B6 := B5.trans (b.mono B5.size)
      have z6 := b.size
      have C_6 := C_5.keep b
      have D_6 := D_5.keep b
      have E_6 := E_5.keep b
      have oc_6 := oc_5.keep b
      have od_6 := od_5.keep b
      have oe_6 := oe_5.keep b
      clear C_5 D_5 E_5 oc_5 od_5 oe_5 b
      have pD0 := D_6.1 0 _ rfl
      have pD1 := D_6.1 1 _ rfl
      have pD2 := D_6.1 2 _ rfl
      have plD := D_6.2
      have pE0 := E_6.1 0 _ rfl
      have pE1 := E_6.1 1 _ rfl
      have pE2 := E_6.1 2 _ rfl
      have plE := E_6.2
      go_wp2_with fail
      clear pD0 pD1 pD2 plD
      clear pE0 pE1 pE2 plE
      refine (equalChannel_same 0 0 A1 c1 A2 c2 L0 _ (od_6.row ItemR.enc_len) (oe_6.row ItemR.enc_len)).mono ?_
      rintro e u7 ⟨rfl, b⟩
      have B7 := B6.trans (b.mono B6.size)
      have z7 := b.size
      have C_7 := C_6.keep b
      have D_7 := D_6.keep b
      have E_7 := E_6.keep b
      have oc_7 := oc_6.keep b
      have od_7 := od_6.keep b
      have oe_7 := oe_6.keep b
      clear C_6 D_6 E_6 oc_6 od_6 oe_6 b
      go_wp2
      all_goals go_returns
      all_goals exact ⟨ret_bool (by first | rfl | simp), B7⟩
    · have hI := fun W hr => implGc_any x y A c l W hr
      have hS := fun W hr => specGc_any x y A c l W hr
      rw [hgc] at hI hS
      clear hgc
      have bv : Below u0.heap.size u0 (u0.alloc (.cells #[.int .i64 x, .int .i64 y, .slice A l.length c] 26)) := (Below.refl _ _).alloc (Nat.le_refl _) _
      have nb := Bo.made u0 #[.int .i64 x, .int .i64 y, .slice A l.length c] 26
      have zgC : u0.heap.size < (u0.alloc (.cells #[.int .i64 x, .int .i64 y, .slice A l.length c] 26)).heap.size := by simp
      have B1 := B0.trans (bv.mono B0.size)
      have z1 := bv.size
      have oc_1 := oc_0.keep bv
      clear oc_0 bv
      have C_1 := nb
      clear nb
      go_wp2_with fail
      generalize (u0.alloc (.cells #[.int .i64 x, .int .i64 y, .slice A l.length c] 26)) = u1 at *
      have pC0 := C_1.1 0 _ rfl
      have pC1 := C_1.1 1 _ rfl
      have pC2 := C_1.1 2 _ rfl
      have plC := C_1.2
      go_wp2_with fail
      clear pC0 pC1 pC2 plC
      refine (hI _ (oc_1.row ItemR.enc_len)).mono ?_
      rintro e u2 ⟨A1, c1, rfl, q1, b⟩
      have B2 := B1.trans (b.mono B1.size)
      have z2 := b.size
      have C_2 := C_1.keep b
      have oc_2 := oc_1.keep b
      clear C_1 oc_1 b
      have od_2 := q1
      clear q1
      have bv : Below u2.heap.size u2 (u2.alloc (.cells #[.int .i64 x, .int .i64 y, .slice A1 l.length c1] 26)) := (Below.refl _ _).alloc (Nat.le_refl _) _
      have nb := Bo.made u2 #[.int .i64 x, .int .i64 y, .slice A1 l.length c1] 26
      have zgD : u2.heap.size < (u2.alloc (.cells #[.int .i64 x, .int .i64 y, .slice A1 l.length c1] 26)).heap.size := by simp
      have B3 := B2.trans (bv.mono B2.size)
      have z3 := bv.size
      have C_3 := C_2.keep bv
      have oc_3 := oc_2.keep bv
      have od_3 := od_2.keep bv
      clear C_2 oc_2 od_2 bv
      have D_3 := nb
      clear nb
      have pC0 := C_3.1 0 _ rfl
      have pC1 := C_3.1 1 _ rfl
      have pC2 := C_3.1 2 _ rfl
      have plC := C_3.2
      go_wp2_with fail
      clear pC0 pC1 pC2 plC
      generalize (u2.alloc (.cells #[.int .i64 x, .int .i64 y, .slice A1 l.length c1] 26)) = u3 at *
      refine (hS _ (oc_3.row ItemR.enc_len)).mono ?_
      rintro e u4 ⟨A2, c2, rfl, q1, b⟩
      have B4 := B3.trans (b.mono B3.size)
      have z4 := b.size
      have C_4 := C_3.keep b
      have D_4 := D_3.keep b
      have oc_4 := oc_3.keep b
      have od_4 := od_3.keep b
      clear C_3 D_3 oc_3 od_3 b
      have oe_4 := q1
      clear q1
      have bv : Below u4.heap.size u4 (u4.alloc (.cells #[.int .i64 x, .int .i64 y, .slice A2 l.length c2] 26)) := (Below.refl _ _).alloc (Nat.le_refl _) _
      have nb := Bo.made u4 #[.int .i64 x, .int .i64 y, .slice A2 l.length c2] 26
      have zgE : u4.heap.size < (u4.alloc (.cells #[.int .i64 x, .int .i64 y, .slice A2 l.length c2] 26)).heap.size := by simp
      have B5 := B4.trans (bv.mono B4.size)
      have z5 := bv.size
      have C_5 := C_4.keep bv
      have D_5 := D_4.keep bv
      have oc_5 := oc_4.keep bv
      have od_5 := od_4.keep bv
      have oe_5 := oe_4.keep bv
      clear C_4 D_4 oc_4 od_4 oe_4 bv
      have E_5 := nb
      clear nb
      have pD0 := D_5.1 0 _ rfl
      have pD1 := D_5.1 1 _ rfl
      have pD2 := D_5.1 2 _ rfl
      have plD := D_5.2
      have pE0 := E_5.1 0 _ rfl
      have pE1 := E_5.1 1 _ rfl
      have pE2 := E_5.1 2 _ rfl
      have plE := E_5.2
      go_wp2_with fail
      clear pD0 pD1 pD2 plD
      clear pE0 pE1 pE2 plE
      generalize (u4.alloc (.cells #[.int .i64 x, .int .i64 y, .slice A2 l.length c2] 26)) = u5 at *
      refine (equalChannel_same x y A1 c1 A2 c2 l _ (od_5.row ItemR.enc_len) (oe_5.row ItemR.enc_len)).mono ?_
      rintro e u6 ⟨rfl, b⟩
      have B6 := B5.trans (b.mono B5.size)
      have z6 := b.size
      have C_6 := C_5.keep b
      have D_6 := D_5.keep b
      have E_6 := E_5.keep b
      have oc_6 := oc_5.keep b
      have od_6 := od_5.keep b
      have oe_6 := oe_5.keep b
      clear C_5 D_5 E_5 oc_5 od_5 oe_5 b
      obtain ⟨ba, bb, bc, bd, be⟩ := chB_parts hv
      have hx0 : (x == 0) = false := by simp; omega
      have pD0 := D_6.1 0 _ rfl
      have pD1 := D_6.1 1 _ rfl
      have pD2 := D_6.1 2 _ rfl
      have plD := D_6.2
      have pE0 := E_6.1 0 _ rfl
      have pE1 := E_6.1 1 _ rfl
      have pE2 := E_6.1 2 _ rfl
      have plE := E_6.2
      go_wp2_with fail
      clear pD0 pD1 pD2 plD
      clear pE0 pE1 pE2 plE
      refine (implSd_any x y A1 c1 l ⟨0, 1⟩ _ (od_6.row ItemR.enc_len)).mono ?_
      rintro e u7 ⟨A3, c3, rfl, q1, b⟩
      clear q1
      have B7 := B6.trans (b.mono B6.size)
      have z7 := b.size
      have C_7 := C_6.keep b
      have D_7 := D_6.keep b
      have E_7 := E_6.keep b
      have oc_7 := oc_6.keep b
      have od_7 := od_6.keep b
      have oe_7 := oe_6.keep b
      clear C_6 D_6 E_6 oc_6 od_6 oe_6 b
      have hlt : decide ((l.length : Int) + y < x) = false := decide_eq_false (by omega)
      have bv : Below u7.heap.size u7 (u7.alloc (.cells #[.int .i64 (sd x y l ⟨0, 1⟩).1, .int .i64 (sd x y l ⟨0, 1⟩).2.1, .slice A3 (sd x y l ⟨0, 1⟩).2.2.1.length c3] 26)) := (Below.refl _ _).alloc (Nat.le_refl _) _
      have B8 := B7.trans (bv.mono B7.size)
      have z8 := bv.size
      have C_8 := C_7.keep bv
      have D_8 := D_7.keep bv
      have E_8 := E_7.keep bv
      have oc_8 := oc_7.keep bv
      have od_8 := od_7.keep bv
      have oe_8 := oe_7.keep bv
      clear C_7 D_7 E_7 oc_7 od_7 oe_7 bv
      have pC0 := C_8.1 0 _ rfl
      have pC1 := C_8.1 1 _ rfl
      have pC2 := C_8.1 2 _ rfl
      have plC := C_8.2
      have pD0 := D_8.1 0 _ rfl
      have pD1 := D_8.1 1 _ rfl
      have pD2 := D_8.1 2 _ rfl
      have plD := D_8.2
      go_wp2_with fail
      clear pC0 pC1 pC2 plC
      clear pD0 pD1 pD2 plD
      generalize (u7.alloc (.cells #[.int .i64 (sd x y l ⟨0, 1⟩).1, .int .i64 (sd x y l ⟨0, 1⟩).2.1, .slice A3 (sd x y l ⟨0, 1⟩).2.2.1.length c3] 26)) = u8 at *
      refine (equalItems_same A1 A c1 c l _ (od_8.row ItemR.enc_len) (oc_8.row ItemR.enc_len)).mono ?_
      rintro e u9 ⟨rfl, b⟩
      have B9 := B8.trans (b.mono B8.size)
      have z9 := b.size
      have C_9 := C_8.keep b
      have D_9 := D_8.keep b
      have E_9 := E_8.keep b
      have oc_9 := oc_8.keep b
      have od_9 := od_8.keep b
      have oe_9 := oe_8.keep b
      clear C_8 D_8 E_8 oc_8 od_8 oe_8 b
      go_wp2
      all_goals go_returns
      all_goals exact ⟨ret_bool (by first | rfl | simp), B9⟩
    · have hI := fun W hr => implGc_any x y A c l W hr
      have hS := fun W hr => specGc_any x y A c l W hr
      rw [hgc] at hI hS
      clear hgc
      have bv : Below u0.heap.size u0 (u0.alloc (.cells #[.int .i64 x, .int .i64 y, .slice A l.length c] 26)) := (Below.refl _ _).alloc (Nat.le_refl _) _
      have nb := Bo.made u0 #[.int .i64 x, .int .i64 y, .slice A l.length c] 26
      have zgC : u0.heap.size < (u0.alloc (.cells #[.int .i64 x, .int .i64 y, .slice A l.length c] 26)).heap.size := by simp
      have B1 := B0.trans (bv.mono B0.size)
      have z1 := bv.size
      have oc_1 := oc_0.keep bv
      clear oc_0 bv
      have C_1 := nb
      clear nb
      go_wp2_with fail
      generalize (u0.alloc (.cells #[.int .i64 x, .int .i64 y, .slice A l.length c] 26)) = u1 at *
      have pC0 := C_1.1 0 _ rfl
      have pC1 := C_1.1 1 _ rfl
      have pC2 := C_1.1 2 _ rfl
      have plC := C_1.2
      go_wp2_with fail
      clear pC0 pC1 pC2 plC
      refine (hI _ (oc_1.row ItemR.enc_len)).mono ?_
      rintro e u2 ⟨A1, c1, rfl, q1, b⟩
      have B2 := B1.trans (b.mono B1.size)
      have z2 := b.size
      have C_2 := C_1.keep b
      have oc_2 := oc_1.keep b
      clear C_1 oc_1 b
      have od_2 := q1
      clear q1
      have bv : Below u2.heap.size u2 (u2.alloc (.cells #[.int .i64 x, .int .i64 (y + 1), .slice A1 l.length c1] 26)) := (Below.refl _ _).alloc (Nat.le_refl _) _
      have nb := Bo.made u2 #[.int .i64 x, .int .i64 (y + 1), .slice A1 l.length c1] 26
      have zgD : u2.heap.size < (u2.alloc (.cells #[.int .i64 x, .int .i64 (y + 1), .slice A1 l.length c1] 26)).heap.size := by simp
      have B3 := B2.trans (bv.mono B2.size)
      have z3 := bv.size
      have C_3 := C_2.keep bv
      have oc_3 := oc_2.keep bv
      have od_3 := od_2.keep bv
      clear C_2 oc_2 od_2 bv
      have D_3 := nb
      clear nb
      have pC0 := C_3.1 0 _ rfl
      have pC1 := C_3.1 1 _ rfl
      have pC2 := C_3.1 2 _ rfl
      have plC := C_3.2
      go_wp2_with fail
      clear pC0 pC1 pC2 plC
      generalize (u2.alloc (.cells #[.int .i64 x, .int .i64 (y + 1), .slice A1 l.length c1] 26)) = u3 at *
      refine (hS _ (oc_3.row ItemR.enc_len)).mono ?_
      rintro e u4 ⟨A2, c2, rfl, q1, b⟩
      have B4 := B3.trans (b.mono B3.size)
      have z4 := b.size
      have C_4 := C_3.keep b
      have D_4 := D_3.keep b
      have oc_4 := oc_3.keep b
      have od_4 := od_3.keep b
      clear C_3 D_3 oc_3 od_3 b
      have oe_4 := q1
      clear q1
      have bv : Below u4.heap.size u4 (u4.alloc (.cells #[.int .i64 x, .int .i64 (y + 1), .slice A2 l.length c2] 26)) := (Below.refl _ _).alloc (Nat.le_refl _) _
      have nb := Bo.made u4 #[.int .i64 x, .int .i64 (y + 1), .slice A2 l.length c2] 26
      have zgE : u4.heap.size < (u4.alloc (.cells #[.int .i64 x, .int .i64 (y + 1), .slice A2 l.length c2] 26)).heap.size := by simp
      have B5 := B4.trans (bv.mono B4.size)
      have z5 := bv.size
      have C_5 := C_4.keep bv
      have D_5 := D_4.keep bv
      have oc_5 := oc_4.keep bv
      have od_5 := od_4.keep bv
      have oe_5 := oe_4.keep bv
      clear C_4 D_4 oc_4 od_4 oe_4 bv
      have E_5 := nb
      clear nb
      have pD0 := D_5.1 0 _ rfl
      have pD1 := D_5.1 1 _ rfl
      have pD2 := D_5.1 2 _ rfl
      have plD := D_5.2
      have pE0 := E_5.1 0 _ rfl
      have pE1 := E_5.1 1 _ rfl
      have pE2 := E_5.1 2 _ rfl
      have plE := E_5.2
      go_wp2_with fail
      clear pD0 pD1 pD2 plD
      clear pE0 pE1 pE2 plE
      generalize (u4.alloc (.cells #[.int .i64 x, .int .i64 (y + 1), .slice A2 l.length c2] 26)) = u5 at *
      refine (equalChannel_same x (y + 1) A1 c1 A2 c2 l _ (od_5.row ItemR.enc_len) (oe_5.row ItemR.enc_len)).mono ?_
      rintro e u6 ⟨rfl, b⟩
      have B6 := B5.trans (b.mono B5.size)
      have z6 := b.size
      have C_6 := C_5.keep b
      have D_6 := D_5.keep b
      have E_6 := E_5.keep b
      have oc_6 := oc_5.keep b
      have od_6 := od_5.keep b
      have oe_6 := oe_5.keep b
      clear C_5 D_5 E_5 oc_5 od_5 oe_5 b
      obtain ⟨ba, bb, bc, bd, be⟩ := chB_parts hv
      have hx0 : (x == 0) = false := by simp; omega
      have pD0 := D_6.1 0 _ rfl
      have pD1 := D_6.1 1 _ rfl
      have pD2 := D_6.1 2 _ rfl
      have plD := D_6.2
      have pE0 := E_6.1 0 _ rfl
      have pE1 := E_6.1 1 _ rfl
      have pE2 := E_6.1 2 _ rfl
      have plE := E_6.2
      go_wp2_with fail
      clear pD0 pD1 pD2 plD
      clear pE0 pE1 pE2 plE
      have hD := fun W hr => implSd_any x (y + 1) A1 c1 l ⟨0, 1⟩ W hr
      rw [hsd] at hD
      refine (hD _ (od_6.row ItemR.enc_len)).mono ?_
      rintro e u7 ⟨A3, c3, rfl, q1, b⟩
      clear q1
      have B7 := B6.trans (b.mono B6.size)
      have z7 := b.size
      have C_7 := C_6.keep b
      have D_7 := D_6.keep b
      have E_7 := E_6.keep b
      have oc_7 := oc_6.keep b
      have od_7 := od_6.keep b
      have oe_7 := oe_6.keep b
      clear C_6 D_6 E_6 oc_6 od_6 oe_6 b
      have hlt : decide ((l.length : Int) + y < x) = true := decide_eq_true (by omega)
      have bv : Below u7.heap.size u7 (u7.alloc (.cells #[.int .i64 x, .int .i64 y, .slice A3 L5.length c3] 26)) := (Below.refl _ _).alloc (Nat.le_refl _) _
      have B8 := B7.trans (bv.mono B7.size)
      have z8 := bv.size
      have C_8 := C_7.keep bv
      have D_8 := D_7.keep bv
      have E_8 := E_7.keep bv
      have oc_8 := oc_7.keep bv
      have od_8 := od_7.keep bv
      have oe_8 := oe_7.keep bv
      clear C_7 D_7 E_7 oc_7 od_7 oe_7 bv
      have pC0 := C_8.1 0 _ rfl
      have pC1 := C_8.1 1 _ rfl
      have pC2 := C_8.1 2 _ rfl
      have plC := C_8.2
      have pD0 := D_8.1 0 _ rfl
      have pD1 := D_8.1 1 _ rfl
      have pD2 := D_8.1 2 _ rfl
      have plD := D_8.2
      go_wp2_with fail
      clear pC0 pC1 pC2 plC
      clear pD0 pD1 pD2 plD
      generalize (u7.alloc (.cells #[.int .i64 x, .int .i64 y, .slice A3 L5.length c3] 26)) = u8 at *
      refine (equalItems_same A1 A c1 c l _ (od_8.row ItemR.enc_len) (oc_8.row ItemR.enc_len)).mono ?_
      rintro e u9 ⟨rfl, b⟩
      have B9 := B8.trans (b.mono B8.size)
      have z9 := b.size
      have C_9 := C_8.keep b
      have D_9 := D_8.keep b
      have E_9 := E_8.keep b
      have oc_9 := oc_8.keep b
      have od_9 := od_8.keep b
      have oe_9 := oe_8.keep b
      clear C_8 D_8 E_8 oc_8 od_8 oe_8 b
      go_wp2
      all_goals go_returns
      all_goals exact ⟨ret_bool (by first | rfl | simp), B9⟩
  · go_enter Try.func6, Try.ntmps6
    go_wp2
    all_goals go_returns
    all_goals exact ⟨rfl, Below.refl _ _⟩
set_option maxRecDepth 100000 in
theorem lifted (os : Os) (started : os.Started) (H : Type) (enc : TypeId × Value → H) :
    ReturnsInHanded {} Try.checked os 6 .any (Rows.fnGrantCreditSpec.pre6 enc Try.prog Try.f6 Rows.fnGrantCreditRow.domain false) (Rows.fnGrantCreditSpec.post enc Try.prog Try.f6 false true false false) := by
  refine returnsInHanded_of_change (C := Try.checked) own started (by kernel_rfl) Try.func6
    (ChangeSpec.witness6 (enc := enc) (C := Try.checked) false ⟨#[], #[.slice none 0 0], []⟩ 8 (by kernel_rfl) (by kernel_rfl) (by kernel_rfl) (by kernel_rfl)) ?_
  intro W base args ds gs before hval0 hW hcnd _
  have hval : ∀ (j : Nat) t v, Try.f6.params[j]? = some t → args[j]? = some v → Value.okWide Try.prog W .any base t v := hval0
  have hW' := hW
  obtain ⟨p, q, hA0, hV, rfl, hfz, hnd⟩ := hW
  have hA : DataW.TrodAll enc Try.prog W 0 (fun _ => true) true Try.f6.params.toList args.toList ds p := hA0
  rw [Try.params6] at hA hval
  obtain ⟨v0, vs0, d0, ds0, p0, q0, hargs, rfl, rfl, h0, r0⟩ := trodAll_cons hA
  obtain ⟨rfl, rfl, rfl⟩ := trodAll_nil r0
  obtain rfl : args = #[v0] := by cases args; simp_all
  obtain ⟨rfl, rfl⟩ := trodVars_none hV
  have k0 := h0
  have lt0 : ∀ x ∈ p0, x.block < W.heap.size := by obtain ⟨m, hm⟩ := k0; exact DataW.trod_lt m _ _ _ hm
  obtain ⟨a0, len0, cap0, rfl⟩ := okWide_slice Try.underlying22 (hval 0 22 v0 rfl rfl)
  obtain ⟨z0, w0⟩ : ∃ zs, IsRow .u8 W a0 len0 cap0 zs := by
    obtain ⟨fuel, hf⟩ := h0
    rcases open_ints Try.underlying22 Try.underlying5 (by kernel_rfl) hf with ⟨hcs, _⟩ | ⟨x, l, c, zs, hcs, _, hl, hm, hz, hx, hcell, hwz⟩
    · simp [Value.cells] at hcs
      obtain ⟨rfl, rfl, rfl⟩ := hcs
      exact ⟨[], .inl ⟨rfl, rfl, rfl, rfl⟩⟩
    · simp [Value.cells] at hcs
      obtain ⟨rfl, rfl, rfl⟩ := hcs
      exact ⟨zs, .inr ⟨_, rfl, hl, hm, by simpa using hz, hcell, hwz⟩⟩
  clear hA0 hval0
  refine (walk a0 len0 cap0 z0 W w0).mono fun e W' ⟨he, bel⟩ => ?_
  subst he
  exact ⟨_, rfl, _, _, _, [], _, [], hW', trodAll_mk1 (shut_bool Try.underlying4 _), (trodAll_cons_mk (Below.trod laidOut (by kernel_rfl) (of_decide_eq_true (by kernel_rfl)) k0 bel lt0) trodAll_mk0), rfl, bel.frame _, fun h => by cases h⟩

theorem over : Rows.fnGrantCreditRow.holds Try.pinned (OpenSpec.ofChange Rows.fnGrantCreditSpec) :=
  OpenClaim.holds_of_wide 6 Try.f6 rfl rfl rfl rfl rfl rfl rfl ⟨rfl, rfl, rfl, rfl, rfl⟩ rfl rfl rfl rfl rfl (by kernel_rfl) Try.func6 (by kernel_rfl)
    (of_decide_eq_true (by kernel_rfl)) (by unfold Func.isWrapper; first | (rw [if_pos (by decide +kernel)]; kernel_rfl) | (rw [if_neg (by decide +kernel)]; exact ⟨rfl, rfl⟩))
    (fun os started H enc _ => lifted os started H enc)

theorem proved : Rows.FnGrantCreditSaid := over
#print axioms proved
end Go.Proofs.Ytcpjidbinhfapab.fnGrantCredit
