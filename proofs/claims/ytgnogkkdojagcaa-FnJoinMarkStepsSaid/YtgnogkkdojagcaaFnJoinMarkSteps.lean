/- The law FnJoinMarkSteps answers true at every input and leaves its arguments as they were; no condition. -/
import Derived.Test.YtgnogkkdojagcaaRows
import Derived.WalkKit
import Derived.WalkSpells
import Derived.WalkLawsBesides
import Derived.ProofKit
import Derived.OpenShut
import Derived.ShutString
import Derived.ChangeOld
import Derived.Below
import Derived.Lib.SmallJoins
import Derived.Handy
import Derived.Test.YtgnogkkdojagcaaMay
import Derived.Test.YtgnogkkdojagcaaJnP
namespace Go.Proofs.Ytgnogkkdojagcaa.fnJoinMarkSteps
open Go.ChangeShapes Go.WideShapes Go.ChangeAt Go.RowKit Go.Joins
open Go.ChangeMaps (open_string shut_string)
set_option linter.unusedVariables false

theorem own : ownKnob Try.prog.godebug = none := by kernel_rfl
theorem laidOut : laidOutB Try.prog = true := by kernel_rfl
set_option maxRecDepth 100000 in
set_option maxHeartbeats 1000000 in
theorem walk (a0 : Option Addr) (len0 cap0 : Nat) (z0 : List Int) (w : World) (w0 : IsRow .u8 w a0 len0 cap0 z0) :
    Calls Try.prog 6 #[.slice a0 len0 cap0] w fun e w' => e = .returned (.bool true) ∧ Below w.heap.size w w' := by
  by_cases hlen : len0 ≤ 1048576
  · go_enter Try.func6, Try.ntmps6
    go_wp2_with fail
    refine (drawJoinMark_any w a0 len0 cap0 z0 w0 hlen).mono ?_
    rintro e u0 ⟨A, c, l, B, d, r, m, mark, low, high, rfl, ol_0, or_0, l41, r41, m0, m1, k0, k1, y0, y1, y2, y3, B0⟩
    obtain ⟨L1, hL1⟩ : ∃ L, L = jmL l r m mark low high := ⟨_, rfl⟩
    obtain ⟨R1, hR1⟩ : ∃ L, L = jmR l r m mark low high := ⟨_, rfl⟩
    have hI := fun W h1 h2 => implJm_any A c l B d r m mark low high W h1 h2
    have hS := fun W h1 h2 => specJm_any A c l B d r m mark low high W h1 h2
    rw [← hL1, ← hR1] at hI hS
    have HL1 := Lib.hid hL1
    clear hL1
    have HR1 := Lib.hid hR1
    clear hR1
    by_cases hp : jmP l r m mark low high
    · rw [(jm_yes hp).1, (jm_yes hp).2] at hI hS
      have hb := hp.2.1
      obtain ⟨-, -, g3, g4⟩ := vjB_parts hp.1
      obtain ⟨H, hH⟩ : ∃ H, H = m + (mark - m) / 2 := ⟨_, rfl⟩
      have hH1 : m ≤ H := by omega
      have hH2 : H ≤ mark := by omega
      have hj := jm_half hp hH1 hH2
      obtain ⟨p1, p2, eL, eR⟩ := hj
      have hJ := fun W h1 h2 => implJm_any A c l B d r m H low high W h1 h2
      rw [(jm_yes p1).1, (jm_yes p1).2] at hJ
      obtain ⟨L2, hL2⟩ : ∃ L, L = jmL l r m H low high := ⟨_, rfl⟩
      obtain ⟨R2, hR2⟩ : ∃ L, L = jmR l r m H low high := ⟨_, rfl⟩
      rw [← hL2, ← hR2] at hJ p2 eL eR
      have hK := fun A5 c5 A6 c6 W h1 h2 => implJm_any A5 c5 L2 A6 c6 R2 H mark low high W h1 h2
      rw [(jm_yes p2).1, (jm_yes p2).2, eL, eR, ← HL1.out, ← HR1.out] at hK
      have hw1 : IntKind.i64.wrap (mark - m) = mark - m := IntWalk.i64_in _ (by omega)
      have ht : wrap64 ((mark - m).tdiv 2) = (mark - m) / 2 := by rw [Int.tdiv_eq_ediv_of_nonneg (by omega)]; exact IntWalk.wrap64_in _ ⟨by omega, by omega⟩
      have hw3 : IntKind.i64.wrap (m + (mark - m) / 2) = H := by rw [hH]; exact IntWalk.i64_in _ (by omega)
      clear hL2 hR2 p1 p2 eL eR hp hH
      have bv : Below u0.heap.size u0 (u0.alloc (.cells #[.slice A l.length c, .slice B r.length d, .int .i64 m] 46)) := (Below.refl _ _).alloc (Nat.le_refl _) _
      have nb := Bo.made u0 #[.slice A l.length c, .slice B r.length d, .int .i64 m] 46
      have zgC : u0.heap.size < (u0.alloc (.cells #[.slice A l.length c, .slice B r.length d, .int .i64 m] 46)).heap.size := by simp
      have B1 := B0.trans (bv.mono B0.size)
      have z1 := bv.size
      have ol_1 := ol_0.keep bv
      have or_1 := or_0.keep bv
      clear ol_0 or_0 bv
      have C_1 := nb
      clear nb
      have pC0 := C_1.1 0 _ rfl
      have pC1 := C_1.1 1 _ rfl
      have pC2 := C_1.1 2 _ rfl
      have plC := C_1.2
      go_wp2_with fail
      clear pC0 pC1 pC2 plC
      generalize (u0.alloc (.cells #[.slice A l.length c, .slice B r.length d, .int .i64 m] 46)) = u1 at *
      refine (hI _ (ol_1.row EventR.enc_len) (or_1.row EventR.enc_len)).mono ?_
      rintro e u2 ⟨A1, c1, A2, c2, rfl, q1, q2, -, b⟩
      have B2 := B1.trans (b.mono B1.size)
      have z2 := b.size
      have C_2 := C_1.keep b
      have ol_2 := ol_1.keep b
      have or_2 := or_1.keep b
      clear C_1 ol_1 or_1 b
      have da_2 := q1
      clear q1
      have db_2 := q2
      clear q2
      have bv : Below u2.heap.size u2 (u2.alloc (.cells #[.slice A1 L1.length c1, .slice A2 R1.length c2, .int .i64 mark] 46)) := (Below.refl _ _).alloc (Nat.le_refl _) _
      have nb := Bo.made u2 #[.slice A1 L1.length c1, .slice A2 R1.length c2, .int .i64 mark] 46
      have zgD : u2.heap.size < (u2.alloc (.cells #[.slice A1 L1.length c1, .slice A2 R1.length c2, .int .i64 mark] 46)).heap.size := by simp
      have B3 := B2.trans (bv.mono B2.size)
      have z3 := bv.size
      have C_3 := C_2.keep bv
      have ol_3 := ol_2.keep bv
      have or_3 := or_2.keep bv
      have da_3 := da_2.keep bv
      have db_3 := db_2.keep bv
      clear C_2 ol_2 or_2 da_2 db_2 bv
      have D_3 := nb
      clear nb
      have pC0 := C_3.1 0 _ rfl
      have pC1 := C_3.1 1 _ rfl
      have pC2 := C_3.1 2 _ rfl
      have plC := C_3.2
      go_wp2_with fail
      clear pC0 pC1 pC2 plC
      generalize (u2.alloc (.cells #[.slice A1 L1.length c1, .slice A2 R1.length c2, .int .i64 mark] 46)) = u3 at *
      refine (hS _ (ol_3.row EventR.enc_len) (or_3.row EventR.enc_len)).mono ?_
      rintro e u4 ⟨A3, c3, A4, c4, rfl, q1, q2, -, b⟩
      have B4 := B3.trans (b.mono B3.size)
      have z4 := b.size
      have C_4 := C_3.keep b
      have D_4 := D_3.keep b
      have ol_4 := ol_3.keep b
      have or_4 := or_3.keep b
      have da_4 := da_3.keep b
      have db_4 := db_3.keep b
      clear C_3 D_3 ol_3 or_3 da_3 db_3 b
      have ea_4 := q1
      clear q1
      have eb_4 := q2
      clear q2
      have bv : Below u4.heap.size u4 (u4.alloc (.cells #[.slice A3 L1.length c3, .slice A4 R1.length c4, .int .i64 mark] 46)) := (Below.refl _ _).alloc (Nat.le_refl _) _
      have nb := Bo.made u4 #[.slice A3 L1.length c3, .slice A4 R1.length c4, .int .i64 mark] 46
      have zgE : u4.heap.size < (u4.alloc (.cells #[.slice A3 L1.length c3, .slice A4 R1.length c4, .int .i64 mark] 46)).heap.size := by simp
      have B5 := B4.trans (bv.mono B4.size)
      have z5 := bv.size
      have C_5 := C_4.keep bv
      have D_5 := D_4.keep bv
      have ol_5 := ol_4.keep bv
      have or_5 := or_4.keep bv
      have da_5 := da_4.keep bv
      have db_5 := db_4.keep bv
      have ea_5 := ea_4.keep bv
      have eb_5 := eb_4.keep bv
      clear C_4 D_4 ol_4 or_4 da_4 db_4 ea_4 eb_4 bv
      have E_5 := nb
      clear nb
      have pD0 := D_5.1 0 _ rfl
      have pD1 := D_5.1 1 _ rfl
      have pD2 := D_5.1 2 _ rfl
      have plD := D_5.2
      have pE0 := E_5.1 0 _ rfl
      have pE1 := E_5.1 1 _ rfl
      have pE2 := E_5.1 2 _ rfl
      have plE := E_5.2
      go_wp2_with fail
      clear pD0 pD1 pD2 plD
      clear pE0 pE1 pE2 plE
      generalize (u4.alloc (.cells #[.slice A3 L1.length c3, .slice A4 R1.length c4, .int .i64 mark] 46)) = u5 at *
      refine (equalJoin_same A1 c1 A2 c2 A3 c3 A4 c4 L1 R1 mark _ (da_5.row EventR.enc_len) (db_5.row EventR.enc_len) (ea_5.row EventR.enc_len) (eb_5.row EventR.enc_len)).mono ?_
      rintro e u6 ⟨rfl, b⟩
      have B6 := B5.trans (b.mono B5.size)
      have z6 := b.size
      have C_6 := C_5.keep b
      have D_6 := D_5.keep b
      have E_6 := E_5.keep b
      have ol_6 := ol_5.keep b
      have or_6 := or_5.keep b
      have da_6 := da_5.keep b
      have db_6 := db_5.keep b
      have ea_6 := ea_5.keep b
      have eb_6 := eb_5.keep b
      clear C_5 D_5 E_5 ol_5 or_5 da_5 db_5 ea_5 eb_5 b
      have pC0 := C_6.1 0 _ rfl
      have pC1 := C_6.1 1 _ rfl
      have pC2 := C_6.1 2 _ rfl
      have plC := C_6.2
      go_wp2_with fail
      clear pC0 pC1 pC2 plC
      refine (hJ _ (ol_6.row EventR.enc_len) (or_6.row EventR.enc_len)).mono ?_
      rintro e u7 ⟨A5, c5, A6, c6, rfl, q1, q2, -, b⟩
      have B7 := B6.trans (b.mono B6.size)
      have z7 := b.size
      have C_7 := C_6.keep b
      have D_7 := D_6.keep b
      have E_7 := E_6.keep b
      have ol_7 := ol_6.keep b
      have or_7 := or_6.keep b
      have da_7 := da_6.keep b
      have db_7 := db_6.keep b
      have ea_7 := ea_6.keep b
      have eb_7 := eb_6.keep b
      clear C_6 D_6 E_6 ol_6 or_6 da_6 db_6 ea_6 eb_6 b
      have fa_7 := q1
      clear q1
      have fb_7 := q2
      clear q2
      have bv : Below u7.heap.size u7 (u7.alloc (.cells #[.slice A5 L2.length c5, .slice A6 R2.length c6, .int .i64 H] 46)) := (Below.refl _ _).alloc (Nat.le_refl _) _
      have nb := Bo.made u7 #[.slice A5 L2.length c5, .slice A6 R2.length c6, .int .i64 H] 46
      have zgF : u7.heap.size < (u7.alloc (.cells #[.slice A5 L2.length c5, .slice A6 R2.length c6, .int .i64 H] 46)).heap.size := by simp
      have B8 := B7.trans (bv.mono B7.size)
      have z8 := bv.size
      have C_8 := C_7.keep bv
      have D_8 := D_7.keep bv
      have E_8 := E_7.keep bv
      have ol_8 := ol_7.keep bv
      have or_8 := or_7.keep bv
      have da_8 := da_7.keep bv
      have db_8 := db_7.keep bv
      have ea_8 := ea_7.keep bv
      have eb_8 := eb_7.keep bv
      have fa_8 := fa_7.keep bv
      have fb_8 := fb_7.keep bv
      clear C_7 D_7 E_7 ol_7 or_7 da_7 db_7 ea_7 eb_7 fa_7 fb_7 bv
      have F_8 := nb
      clear nb
      have pF0 := F_8.1 0 _ rfl
      have pF1 := F_8.1 1 _ rfl
      have pF2 := F_8.1 2 _ rfl
      have plF := F_8.2
      go_wp2_with fail
      clear pF0 pF1 pF2 plF
      generalize (u7.alloc (.cells #[.slice A5 L2.length c5, .slice A6 R2.length c6, .int .i64 H] 46)) = u8 at *
      refine (hK A5 c5 A6 c6 _ (fa_8.row EventR.enc_len) (fb_8.row EventR.enc_len)).mono ?_
      rintro e u9 ⟨A7, c7, A8, c8, rfl, q1, q2, -, b⟩
      have B9 := B8.trans (b.mono B8.size)
      have z9 := b.size
      have C_9 := C_8.keep b
      have D_9 := D_8.keep b
      have E_9 := E_8.keep b
      have F_9 := F_8.keep b
      have ol_9 := ol_8.keep b
      have or_9 := or_8.keep b
      have da_9 := da_8.keep b
      have db_9 := db_8.keep b
      have ea_9 := ea_8.keep b
      have eb_9 := eb_8.keep b
      have fa_9 := fa_8.keep b
      have fb_9 := fb_8.keep b
      clear C_8 D_8 E_8 F_8 ol_8 or_8 da_8 db_8 ea_8 eb_8 fa_8 fb_8 b
      have ga_9 := q1
      clear q1
      have gb_9 := q2
      clear q2
      have bv : Below u9.heap.size u9 (u9.alloc (.cells #[.slice A7 L1.length c7, .slice A8 R1.length c8, .int .i64 mark] 46)) := (Below.refl _ _).alloc (Nat.le_refl _) _
      have nb := Bo.made u9 #[.slice A7 L1.length c7, .slice A8 R1.length c8, .int .i64 mark] 46
      have zgG : u9.heap.size < (u9.alloc (.cells #[.slice A7 L1.length c7, .slice A8 R1.length c8, .int .i64 mark] 46)).heap.size := by simp
      have B10 := B9.trans (bv.mono B9.size)
      have z10 := bv.size
      have C_10 := C_9.keep bv
      have D_10 := D_9.keep bv
      have E_10 := E_9.keep bv
      have F_10 := F_9.keep bv
      have ol_10 := ol_9.keep bv
      have or_10 := or_9.keep bv
      have da_10 := da_9.keep bv
      have db_10 := db_9.keep bv
      have ea_10 := ea_9.keep bv
      have eb_10 := eb_9.keep bv
      have fa_10 := fa_9.keep bv
      have fb_10 := fb_9.keep bv
      have ga_10 := ga_9.keep bv
      have gb_10 := gb_9.keep bv
      clear C_9 D_9 E_9 F_9 ol_9 or_9 da_9 db_9 ea_9 eb_9 fa_9 fb_9 ga_9 gb_9 bv
      have G_10 := nb
      clear nb
      have pG0 := G_10.1 0 _ rfl
      have pG1 := G_10.1 1 _ rfl
      have pG2 := G_10.1 2 _ rfl
      have plG := G_10.2
      have pD0 := D_10.1 0 _ rfl
      have pD1 := D_10.1 1 _ rfl
      have pD2 := D_10.1 2 _ rfl
      have plD := D_10.2
      go_wp2_with fail
      clear pG0 pG1 pG2 plG
      clear pD0 pD1 pD2 plD
      generalize (u9.alloc (.cells #[.slice A7 L1.length c7, .slice A8 R1.length c8, .int .i64 mark] 46)) = u10 at *
      refine (equalJoin_same A7 c7 A8 c8 A1 c1 A2 c2 L1 R1 mark _ (ga_10.row EventR.enc_len) (gb_10.row EventR.enc_len) (da_10.row EventR.enc_len) (db_10.row EventR.enc_len)).mono ?_
      rintro e u11 ⟨rfl, b⟩
      have B11 := B10.trans (b.mono B10.size)
      have z11 := b.size
      have C_11 := C_10.keep b
      have D_11 := D_10.keep b
      have E_11 := E_10.keep b
      have F_11 := F_10.keep b
      have G_11 := G_10.keep b
      have ol_11 := ol_10.keep b
      have or_11 := or_10.keep b
      have da_11 := da_10.keep b
      have db_11 := db_10.keep b
      have ea_11 := ea_10.keep b
      have eb_11 := eb_10.keep b
      have fa_11 := fa_10.keep b
      have fb_11 := fb_10.keep b
      have ga_11 := ga_10.keep b
      have gb_11 := gb_10.keep b
      clear C_10 D_10 E_10 F_10 G_10 ol_10 or_10 da_10 db_10 ea_10 eb_10 fa_10 fb_10 ga_10 gb_10 b
      go_wp2
      all_goals go_returns
      all_goals exact ⟨ret_bool (by first | rfl | simp), B11⟩
    · rw [(jm_no hp).1, (jm_no hp).2] at hI hS
      clear hp
      have bv : Below u0.heap.size u0 (u0.alloc (.cells #[.slice A l.length c, .slice B r.length d, .int .i64 m] 46)) := (Below.refl _ _).alloc (Nat.le_refl _) _
      have nb := Bo.made u0 #[.slice A l.length c, .slice B r.length d, .int .i64 m] 46
      have zgC : u0.heap.size < (u0.alloc (.cells #[.slice A l.length c, .slice B r.length d, .int .i64 m] 46)).heap.size := by simp
      have B1 := B0.trans (bv.mono B0.size)
      have z1 := bv.size
      have ol_1 := ol_0.keep bv
      have or_1 := or_0.keep bv
      clear ol_0 or_0 bv
      have C_1 := nb
      clear nb
      have pC0 := C_1.1 0 _ rfl
      have pC1 := C_1.1 1 _ rfl
      have pC2 := C_1.1 2 _ rfl
      have plC := C_1.2
      go_wp2_with fail
      clear pC0 pC1 pC2 plC
      generalize (u0.alloc (.cells #[.slice A l.length c, .slice B r.length d, .int .i64 m] 46)) = u1 at *
      refine (hI _ (ol_1.row EventR.enc_len) (or_1.row EventR.enc_len)).mono ?_
      rintro e u2 ⟨A1, c1, A2, c2, rfl, q1, q2, -, b⟩
      have B2 := B1.trans (b.mono B1.size)
      have z2 := b.size
      have C_2 := C_1.keep b
      have ol_2 := ol_1.keep b
      have or_2 := or_1.keep b
      clear C_1 ol_1 or_1 b
      have da_2 := q1
      clear q1
      have db_2 := q2
      clear q2
      have bv : Below u2.heap.size u2 (u2.alloc (.cells #[.slice A1 L1.length c1, .slice A2 R1.length c2, .int .i64 0] 46)) := (Below.refl _ _).alloc (Nat.le_refl _) _
      have nb := Bo.made u2 #[.slice A1 L1.length c1, .slice A2 R1.length c2, .int .i64 0] 46
      have zgD : u2.heap.size < (u2.alloc (.cells #[.slice A1 L1.length c1, .slice A2 R1.length c2, .int .i64 0] 46)).heap.size := by simp
      have B3 := B2.trans (bv.mono B2.size)
      have z3 := bv.size
      have C_3 := C_2.keep bv
      have ol_3 := ol_2.keep bv
      have or_3 := or_2.keep bv
      have da_3 := da_2.keep bv
      have db_3 := db_2.keep bv
      clear C_2 ol_2 or_2 da_2 db_2 bv
      have D_3 := nb
      clear nb
      have pC0 := C_3.1 0 _ rfl
      have pC1 := C_3.1 1 _ rfl
      have pC2 := C_3.1 2 _ rfl
      have plC := C_3.2
      go_wp2_with fail
      clear pC0 pC1 pC2 plC
      generalize (u2.alloc (.cells #[.slice A1 L1.length c1, .slice A2 R1.length c2, .int .i64 0] 46)) = u3 at *
      refine (hS _ (ol_3.row EventR.enc_len) (or_3.row EventR.enc_len)).mono ?_
      rintro e u4 ⟨A3, c3, A4, c4, rfl, q1, q2, -, b⟩
      have B4 := B3.trans (b.mono B3.size)
      have z4 := b.size
      have C_4 := C_3.keep b
      have D_4 := D_3.keep b
      have ol_4 := ol_3.keep b
      have or_4 := or_3.keep b
      have da_4 := da_3.keep b
      have db_4 := db_3.keep b
      clear C_3 D_3 ol_3 or_3 da_3 db_3 b
      have ea_4 := q1
      clear q1
      have eb_4 := q2
      clear q2
      have bv : Below u4.heap.size u4 (u4.alloc (.cells #[.slice A3 L1.length c3, .slice A4 R1.length c4, .int .i64 0] 46)) := (Below.refl _ _).alloc (Nat.le_refl _) _
      have nb := Bo.made u4 #[.slice A3 L1.length c3, .slice A4 R1.length c4, .int .i64 0] 46
      have zgE : u4.heap.size < (u4.alloc (.cells #[.slice A3 L1.length c3, .slice A4 R1.length c4, .int .i64 0] 46)).heap.size := by simp
      have B5 := B4.trans (bv.mono B4.size)
      have z5 := bv.size
      have C_5 := C_4.keep bv
      have D_5 := D_4.keep bv
      have ol_5 := ol_4.keep bv
      have or_5 := or_4.keep bv
      have da_5 := da_4.keep bv
      have db_5 := db_4.keep bv
      have ea_5 := ea_4.keep bv
      have eb_5 := eb_4.keep bv
      clear C_4 D_4 ol_4 or_4 da_4 db_4 ea_4 eb_4 bv
      have E_5 := nb
      clear nb
      have pD0 := D_5.1 0 _ rfl
      have pD1 := D_5.1 1 _ rfl
      have pD2 := D_5.1 2 _ rfl
      have plD := D_5.2
      have pE0 := E_5.1 0 _ rfl
      have pE1 := E_5.1 1 _ rfl
      have pE2 := E_5.1 2 _ rfl
      have plE := E_5.2
      go_wp2_with fail
      clear pD0 pD1 pD2 plD
      clear pE0 pE1 pE2 plE
      generalize (u4.alloc (.cells #[.slice A3 L1.length c3, .slice A4 R1.length c4, .int .i64 0] 46)) = u5 at *
      refine (equalJoin_same A1 c1 A2 c2 A3 c3 A4 c4 L1 R1 0 _ (da_5.row EventR.enc_len) (db_5.row EventR.enc_len) (ea_5.row EventR.enc_len) (eb_5.row EventR.enc_len)).mono ?_
      rintro e u6 ⟨rfl, b⟩
      have B6 := B5.trans (b.mono B5.size)
      have z6 := b.size
      have C_6 := C_5.keep b
      have D_6 := D_5.keep b
      have E_6 := E_5.keep b
      have ol_6 := ol_5.keep b
      have or_6 := or_5.keep b
      have da_6 := da_5.keep b
      have db_6 := db_5.keep b
      have ea_6 := ea_5.keep b
      have eb_6 := eb_5.keep b
      clear C_5 D_5 E_5 ol_5 or_5 da_5 db_5 ea_5 eb_5 b
      have pD0 := D_6.1 0 _ rfl
      have pD1 := D_6.1 1 _ rfl
      have pD2 := D_6.1 2 _ rfl
      have plD := D_6.2
      have pE0 := E_6.1 0 _ rfl
      have pE1 := E_6.1 1 _ rfl
      have pE2 := E_6.1 2 _ rfl
      have plE := E_6.2
      go_wp2_with fail
      clear pD0 pD1 pD2 plD
      clear pE0 pE1 pE2 plE
      refine (equalJoin_same A1 c1 A2 c2 A3 c3 A4 c4 L1 R1 0 _ (da_6.row EventR.enc_len) (db_6.row EventR.enc_len) (ea_6.row EventR.enc_len) (eb_6.row EventR.enc_len)).mono ?_
      rintro e u7 ⟨rfl, b⟩
      have B7 := B6.trans (b.mono B6.size)
      have z7 := b.size
      have C_7 := C_6.keep b
      have D_7 := D_6.keep b
      have E_7 := E_6.keep b
      have ol_7 := ol_6.keep b
      have or_7 := or_6.keep b
      have da_7 := da_6.keep b
      have db_7 := db_6.keep b
      have ea_7 := ea_6.keep b
      have eb_7 := eb_6.keep b
      clear C_6 D_6 E_6 ol_6 or_6 da_6 db_6 ea_6 eb_6 b
      go_wp2
      all_goals go_returns
      all_goals exact ⟨ret_bool (by first | rfl | simp), B7⟩
  · go_enter Try.func6, Try.ntmps6
    go_wp2
    all_goals go_returns
    all_goals exact ⟨rfl, Below.refl _ _⟩
set_option maxRecDepth 100000 in
theorem lifted (os : Os) (started : os.Started) (H : Type) (enc : TypeId × Value → H) :
    ReturnsInHanded {} Try.checked os 6 .any (Rows.fnJoinMarkStepsSpec.pre6 enc Try.prog Try.f6 Rows.fnJoinMarkStepsRow.domain false) (Rows.fnJoinMarkStepsSpec.post enc Try.prog Try.f6 false true false false) := by
  refine returnsInHanded_of_change (C := Try.checked) own started (by kernel_rfl) Try.func6
    (ChangeSpec.witness6 (enc := enc) (C := Try.checked) false ⟨#[], #[.slice none 0 0], []⟩ 8 (by kernel_rfl) (by kernel_rfl) (by kernel_rfl) (by kernel_rfl)) ?_
  intro W base args ds gs before hval0 hW hcnd _
  have hval : ∀ (j : Nat) t v, Try.f6.params[j]? = some t → args[j]? = some v → Value.okWide Try.prog W .any base t v := hval0
  have hW' := hW
  obtain ⟨p, q, hA0, hV, rfl, hfz, hnd⟩ := hW
  have hA : DataW.TrodAll enc Try.prog W 0 (fun _ => true) true Try.f6.params.toList args.toList ds p := hA0
  rw [Try.params6] at hA hval
  obtain ⟨v0, vs0, d0, ds0, p0, q0, hargs, rfl, rfl, h0, r0⟩ := trodAll_cons hA
  obtain ⟨rfl, rfl, rfl⟩ := trodAll_nil r0
  obtain rfl : args = #[v0] := by cases args; simp_all
  obtain ⟨rfl, rfl⟩ := trodVars_none hV
  have k0 := h0
  have lt0 : ∀ x ∈ p0, x.block < W.heap.size := by obtain ⟨m, hm⟩ := k0; exact DataW.trod_lt m _ _ _ hm
  obtain ⟨a0, len0, cap0, rfl⟩ := okWide_slice Try.underlying22 (hval 0 22 v0 rfl rfl)
  obtain ⟨z0, w0⟩ : ∃ zs, IsRow .u8 W a0 len0 cap0 zs := by
    obtain ⟨fuel, hf⟩ := h0
    rcases open_ints Try.underlying22 Try.underlying5 (by kernel_rfl) hf with ⟨hcs, _⟩ | ⟨x, l, c, zs, hcs, _, hl, hm, hz, hx, hcell, hwz⟩
    · simp [Value.cells] at hcs
      obtain ⟨rfl, rfl, rfl⟩ := hcs
      exact ⟨[], .inl ⟨rfl, rfl, rfl, rfl⟩⟩
    · simp [Value.cells] at hcs
      obtain ⟨rfl, rfl, rfl⟩ := hcs
      exact ⟨zs, .inr ⟨_, rfl, hl, hm, by simpa using hz, hcell, hwz⟩⟩
  clear hA0 hval0
  refine (walk a0 len0 cap0 z0 W w0).mono fun e W' ⟨he, bel⟩ => ?_
  subst he
  exact ⟨_, rfl, _, _, _, [], _, [], hW', trodAll_mk1 (shut_bool Try.underlying4 _), (trodAll_cons_mk (Below.trod laidOut (by kernel_rfl) (of_decide_eq_true (by kernel_rfl)) k0 bel lt0) trodAll_mk0), rfl, bel.frame _, fun h => by cases h⟩

theorem closed : joinedFacts Try.checked.prog 6 Try.f6 Rows.fnJoinMarkStepsSpec Rows.fnJoinMarkStepsRow = true := by
  unfold joinedFacts
  rw [mayE, liftE, makeE]
  kernel_rfl

theorem over : Rows.fnJoinMarkStepsRow.holds Try.pinned (OpenSpec.ofChange Rows.fnJoinMarkStepsSpec) :=
  OpenClaim.holds_of_wide 6 Try.f6 rfl rfl rfl rfl rfl rfl rfl ⟨rfl, rfl, rfl, rfl, rfl⟩ rfl rfl rfl rfl rfl (by kernel_rfl) Try.func6 closed
    (of_decide_eq_true (by kernel_rfl)) (by unfold Func.isWrapper; first | (rw [if_pos (by decide +kernel)]; kernel_rfl) | (rw [if_neg (by decide +kernel)]; exact ⟨rfl, rfl⟩))
    (fun os started H enc _ => lifted os started H enc)

theorem proved : Rows.FnJoinMarkStepsSaid := over
#print axioms proved
end Go.Proofs.Ytgnogkkdojagcaa.fnJoinMarkSteps
