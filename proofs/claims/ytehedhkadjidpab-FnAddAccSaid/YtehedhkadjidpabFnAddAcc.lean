/- The law FnAddAcc answers true at every input and leaves its arguments as they were; no condition. -/
import Derived.Test.YtehedhkadjidpabRows
import Derived.WalkKit
import Derived.WalkSpells
import Derived.WalkLawsBesides
import Derived.ProofKit
import Derived.OpenShut
import Derived.ShutString
import Derived.ChangeOld
import Derived.Below
import Derived.Lib.SmallJoins
import Derived.Handy
import Derived.Test.YtehedhkadjidpabMay
import Derived.Test.YtehedhkadjidpabPlAc
namespace Go.Proofs.Ytehedhkadjidpab.fnAddAcc
open Go.ChangeShapes Go.WideShapes Go.ChangeAt Go.RowKit Go.Joins
open Go.ChangeMaps (open_string shut_string)
set_option linter.unusedVariables false

theorem own : ownKnob Try.prog.godebug = none := by kernel_rfl
theorem laidOut : laidOutB Try.prog = true := by kernel_rfl
set_option maxRecDepth 100000 in
set_option maxHeartbeats 1000000 in
theorem walk (a0 : Option Addr) (len0 cap0 : Nat) (z0 : List Int) (w : World) (w0 : IsRow .u8 w a0 len0 cap0 z0) :
    Calls Try.prog 12 #[.slice a0 len0 cap0] w fun e w' => e = .returned (.bool true) ∧ Below w.heap.size w w' := by
  by_cases hlen : len0 ≤ 1048576
  · go_enter Try.func12, Try.ntmps12
    go_wp2_with fail
    refine (drawAddAcc_any w a0 len0 cap0 z0 w0 hlen).mono ?_
    rintro e u0 ⟨c, s, l, m, v, rfl, c0, c1, s0, s1, l0, l1, m0, m1, v0, v1, B0⟩
    obtain ⟨C, S, L, M, K, hI, hS, hK⟩ := ad_all c s l m v
    have bv : Below u0.heap.size u0 (u0.alloc (.cells #[.int .i64 c, .int .i64 s, .int .i64 l, .int .i64 m] 48)) := (Below.refl _ _).alloc (Nat.le_refl _) _
    have nb := Bo.made u0 #[.int .i64 c, .int .i64 s, .int .i64 l, .int .i64 m] 48
    have zgA : u0.heap.size < (u0.alloc (.cells #[.int .i64 c, .int .i64 s, .int .i64 l, .int .i64 m] 48)).heap.size := by simp
    have B1 := B0.trans (bv.mono B0.size)
    have z1 := bv.size
    clear bv
    have A_1 := nb
    clear nb
    have pA0 := A_1.1 0 _ rfl
    have pA1 := A_1.1 1 _ rfl
    have pA2 := A_1.1 2 _ rfl
    have pA3 := A_1.1 3 _ rfl
    have plA := A_1.2
    go_wp2_with fail
    clear pA0 pA1 pA2 pA3 plA
    generalize (u0.alloc (.cells #[.int .i64 c, .int .i64 s, .int .i64 l, .int .i64 m] 48)) = u1 at *
    rcases hK with ⟨rfl, rfl, rfl, rfl, rfl⟩ | ⟨rfl, rfl, rfl, n0, n1, n2, n3, n4, n5, hl, hm, hcz⟩
    · refine (hI _).mono ?_
      rintro e u2 ⟨rfl, b⟩
      have B2 := B1.trans (b.mono B1.size)
      have z2 := b.size
      have A_2 := A_1.keep b
      clear A_1 b
      have bv : Below u2.heap.size u2 (u2.alloc (.cells #[.int .i64 0, .int .i64 0, .int .i64 0, .int .i64 0] 48)) := (Below.refl _ _).alloc (Nat.le_refl _) _
      have nb := Bo.made u2 #[.int .i64 0, .int .i64 0, .int .i64 0, .int .i64 0] 48
      have zgX : u2.heap.size < (u2.alloc (.cells #[.int .i64 0, .int .i64 0, .int .i64 0, .int .i64 0] 48)).heap.size := by simp
      have B3 := B2.trans (bv.mono B2.size)
      have z3 := bv.size
      have A_3 := A_2.keep bv
      clear A_2 bv
      have X_3 := nb
      clear nb
      have pA0 := A_3.1 0 _ rfl
      have pA1 := A_3.1 1 _ rfl
      have pA2 := A_3.1 2 _ rfl
      have pA3 := A_3.1 3 _ rfl
      have plA := A_3.2
      go_wp2_with fail
      clear pA0 pA1 pA2 pA3 plA
      generalize (u2.alloc (.cells #[.int .i64 0, .int .i64 0, .int .i64 0, .int .i64 0] 48)) = u3 at *
      refine (hS _).mono ?_
      rintro e u4 ⟨rfl, b⟩
      have B4 := B3.trans (b.mono B3.size)
      have z4 := b.size
      have A_4 := A_3.keep b
      have X_4 := X_3.keep b
      clear A_3 X_3 b
      have bv : Below u4.heap.size u4 (u4.alloc (.cells #[.int .i64 0, .int .i64 0, .int .i64 0, .int .i64 0] 48)) := (Below.refl _ _).alloc (Nat.le_refl _) _
      have nb := Bo.made u4 #[.int .i64 0, .int .i64 0, .int .i64 0, .int .i64 0] 48
      have zgY : u4.heap.size < (u4.alloc (.cells #[.int .i64 0, .int .i64 0, .int .i64 0, .int .i64 0] 48)).heap.size := by simp
      have B5 := B4.trans (bv.mono B4.size)
      have z5 := bv.size
      have A_5 := A_4.keep bv
      have X_5 := X_4.keep bv
      clear A_4 X_4 bv
      have Y_5 := nb
      clear nb
      have pX0 := X_5.1 0 _ rfl
      have pX1 := X_5.1 1 _ rfl
      have pX2 := X_5.1 2 _ rfl
      have pX3 := X_5.1 3 _ rfl
      have plX := X_5.2
      have pY0 := Y_5.1 0 _ rfl
      have pY1 := Y_5.1 1 _ rfl
      have pY2 := Y_5.1 2 _ rfl
      have pY3 := Y_5.1 3 _ rfl
      have plY := Y_5.2
      go_wp2
      all_goals go_returns
      all_goals exact ⟨ret_bool (by first | rfl | simp), B5⟩
    · have hne : ∀ (p q r t : Int) (W : World), (binOp .neq 48 (.agg #[.int .i64 p, .int .i64 q, .int .i64 r, .int .i64 t]) (.agg #[.int .i64 p, .int .i64 q, .int .i64 r, .int .i64 t])).run Try.prog W = .ok (.bool false) W := neq4_same
      have heq : ∀ (p q r t : Int) (W : World), (binOp .eql 48 (.agg #[.int .i64 p, .int .i64 q, .int .i64 r, .int .i64 t]) (.agg #[.int .i64 p, .int .i64 q, .int .i64 r, .int .i64 t])).run Try.prog W = .ok (.bool true) W := eql4_same
      have Hcz := Lib.hid hcz
      clear hcz
      refine (hI _).mono ?_
      rintro e u2 ⟨rfl, b⟩
      have B2 := B1.trans (b.mono B1.size)
      have z2 := b.size
      have A_2 := A_1.keep b
      clear A_1 b
      have bv : Below u2.heap.size u2 (u2.alloc (.cells #[.int .i64 (c + 1), .int .i64 (s + v), .int .i64 L, .int .i64 M] 48)) := (Below.refl _ _).alloc (Nat.le_refl _) _
      have nb := Bo.made u2 #[.int .i64 (c + 1), .int .i64 (s + v), .int .i64 L, .int .i64 M] 48
      have zgX : u2.heap.size < (u2.alloc (.cells #[.int .i64 (c + 1), .int .i64 (s + v), .int .i64 L, .int .i64 M] 48)).heap.size := by simp
      have B3 := B2.trans (bv.mono B2.size)
      have z3 := bv.size
      have A_3 := A_2.keep bv
      clear A_2 bv
      have X_3 := nb
      clear nb
      have pA0 := A_3.1 0 _ rfl
      have pA1 := A_3.1 1 _ rfl
      have pA2 := A_3.1 2 _ rfl
      have pA3 := A_3.1 3 _ rfl
      have plA := A_3.2
      go_wp2_with fail
      clear pA0 pA1 pA2 pA3 plA
      generalize (u2.alloc (.cells #[.int .i64 (c + 1), .int .i64 (s + v), .int .i64 L, .int .i64 M] 48)) = u3 at *
      refine (hS _).mono ?_
      rintro e u4 ⟨rfl, b⟩
      have B4 := B3.trans (b.mono B3.size)
      have z4 := b.size
      have A_4 := A_3.keep b
      have X_4 := X_3.keep b
      clear A_3 X_3 b
      have bv : Below u4.heap.size u4 (u4.alloc (.cells #[.int .i64 (c + 1), .int .i64 (s + v), .int .i64 L, .int .i64 M] 48)) := (Below.refl _ _).alloc (Nat.le_refl _) _
      have nb := Bo.made u4 #[.int .i64 (c + 1), .int .i64 (s + v), .int .i64 L, .int .i64 M] 48
      have zgY : u4.heap.size < (u4.alloc (.cells #[.int .i64 (c + 1), .int .i64 (s + v), .int .i64 L, .int .i64 M] 48)).heap.size := by simp
      have B5 := B4.trans (bv.mono B4.size)
      have z5 := bv.size
      have A_5 := A_4.keep bv
      have X_5 := X_4.keep bv
      clear A_4 X_4 bv
      have Y_5 := nb
      clear nb
      have pA0 := A_5.1 0 _ rfl
      have pA1 := A_5.1 1 _ rfl
      have pA2 := A_5.1 2 _ rfl
      have pA3 := A_5.1 3 _ rfl
      have plA := A_5.2
      have pX0 := X_5.1 0 _ rfl
      have pX1 := X_5.1 1 _ rfl
      have pX2 := X_5.1 2 _ rfl
      have pX3 := X_5.1 3 _ rfl
      have plX := X_5.2
      have pY0 := Y_5.1 0 _ rfl
      have pY1 := Y_5.1 1 _ rfl
      have pY2 := Y_5.1 2 _ rfl
      have pY3 := Y_5.1 3 _ rfl
      have plY := Y_5.2
      by_cases hc0 : c = 0
      · have h0 : (c == 0) = true := by simp [hc0]
        clear hc0
        go_wp2
        all_goals go_returns
        all_goals exact ⟨ret_bool (by first | rfl | simp | (simp; omega)), B5⟩
      · have h0 : (c == 0) = false := by simp [hc0]
        obtain ⟨h1, h2⟩ := Hcz.out hc0
        clear hc0
        go_wp2
        all_goals go_returns
        all_goals exact ⟨ret_bool (by first | rfl | simp | (simp; omega)), B5⟩
  · go_enter Try.func12, Try.ntmps12
    go_wp2
    all_goals go_returns
    all_goals exact ⟨rfl, Below.refl _ _⟩
set_option maxRecDepth 100000 in
theorem lifted (os : Os) (started : os.Started) (H : Type) (enc : TypeId × Value → H) :
    ReturnsInHanded {} Try.checked os 12 .any (Rows.fnAddAccSpec.pre6 enc Try.prog Try.f12 Rows.fnAddAccRow.domain false) (Rows.fnAddAccSpec.post enc Try.prog Try.f12 false true false false) := by
  refine returnsInHanded_of_change (C := Try.checked) own started (by kernel_rfl) Try.func12
    (ChangeSpec.witness6 (enc := enc) (C := Try.checked) false ⟨#[], #[.slice none 0 0], []⟩ 8 (by kernel_rfl) (by kernel_rfl) (by kernel_rfl) (by kernel_rfl)) ?_
  intro W base args ds gs before hval0 hW hcnd _
  have hval : ∀ (j : Nat) t v, Try.f12.params[j]? = some t → args[j]? = some v → Value.okWide Try.prog W .any base t v := hval0
  have hW' := hW
  obtain ⟨p, q, hA0, hV, rfl, hfz, hnd⟩ := hW
  have hA : DataW.TrodAll enc Try.prog W 0 (fun _ => true) true Try.f12.params.toList args.toList ds p := hA0
  rw [Try.params12] at hA hval
  obtain ⟨v0, vs0, d0, ds0, p0, q0, hargs, rfl, rfl, h0, r0⟩ := trodAll_cons hA
  obtain ⟨rfl, rfl, rfl⟩ := trodAll_nil r0
  obtain rfl : args = #[v0] := by cases args; simp_all
  obtain ⟨rfl, rfl⟩ := trodVars_none hV
  have k0 := h0
  have lt0 : ∀ x ∈ p0, x.block < W.heap.size := by obtain ⟨m, hm⟩ := k0; exact DataW.trod_lt m _ _ _ hm
  obtain ⟨a0, len0, cap0, rfl⟩ := okWide_slice Try.underlying22 (hval 0 22 v0 rfl rfl)
  obtain ⟨z0, w0⟩ : ∃ zs, IsRow .u8 W a0 len0 cap0 zs := by
    obtain ⟨fuel, hf⟩ := h0
    rcases open_ints Try.underlying22 Try.underlying5 (by kernel_rfl) hf with ⟨hcs, _⟩ | ⟨x, l, c, zs, hcs, _, hl, hm, hz, hx, hcell, hwz⟩
    · simp [Value.cells] at hcs
      obtain ⟨rfl, rfl, rfl⟩ := hcs
      exact ⟨[], .inl ⟨rfl, rfl, rfl, rfl⟩⟩
    · simp [Value.cells] at hcs
      obtain ⟨rfl, rfl, rfl⟩ := hcs
      exact ⟨zs, .inr ⟨_, rfl, hl, hm, by simpa using hz, hcell, hwz⟩⟩
  clear hA0 hval0
  refine (walk a0 len0 cap0 z0 W w0).mono fun e W' ⟨he, bel⟩ => ?_
  subst he
  exact ⟨_, rfl, _, _, _, [], _, [], hW', trodAll_mk1 (shut_bool Try.underlying4 _), (trodAll_cons_mk (Below.trod laidOut (by kernel_rfl) (of_decide_eq_true (by kernel_rfl)) k0 bel lt0) trodAll_mk0), rfl, bel.frame _, fun h => by cases h⟩

theorem closed : joinedFacts Try.checked.prog 12 Try.f12 Rows.fnAddAccSpec Rows.fnAddAccRow = true := by
  unfold joinedFacts
  rw [mayE, liftE, makeE]
  kernel_rfl

theorem over : Rows.fnAddAccRow.holds Try.pinned (OpenSpec.ofChange Rows.fnAddAccSpec) :=
  OpenClaim.holds_of_wide 12 Try.f12 rfl rfl rfl rfl rfl rfl rfl ⟨rfl, rfl, rfl, rfl, rfl⟩ rfl rfl rfl rfl rfl (by kernel_rfl) Try.func12 closed
    (of_decide_eq_true (by kernel_rfl)) (by unfold Func.isWrapper; first | (rw [if_pos (by decide +kernel)]; kernel_rfl) | (rw [if_neg (by decide +kernel)]; exact ⟨rfl, rfl⟩))
    (fun os started H enc _ => lifted os started H enc)

theorem proved : Rows.FnAddAccSaid := over
#print axioms proved
end Go.Proofs.Ytehedhkadjidpab.fnAddAcc
