/- The law FnAverageOf answers true at every input and leaves its arguments as they were; no condition. -/
import Derived.Test.YtehedhkadjidpabRows
import Derived.WalkKit
import Derived.WalkSpells
import Derived.WalkLawsBesides
import Derived.ProofKit
import Derived.OpenShut
import Derived.ShutString
import Derived.ChangeOld
import Derived.Below
import Derived.Lib.SmallJoins
import Derived.Handy
import Derived.Test.YtehedhkadjidpabMay
import Derived.Test.YtehedhkadjidpabPlAc
namespace Go.Proofs.Ytehedhkadjidpab.fnAverageOf
open Go.ChangeShapes Go.WideShapes Go.ChangeAt Go.RowKit Go.Joins
open Go.ChangeMaps (open_string shut_string)
set_option linter.unusedVariables false

theorem own : ownKnob Try.prog.godebug = none := by kernel_rfl
theorem laidOut : laidOutB Try.prog = true := by kernel_rfl
set_option maxRecDepth 100000 in
set_option maxHeartbeats 1000000 in
theorem walk (a0 : Option Addr) (len0 cap0 : Nat) (z0 : List Int) (w : World) (w0 : IsRow .u8 w a0 len0 cap0 z0) :
    Calls Try.prog 13 #[.slice a0 len0 cap0] w fun e w' => e = .returned (.bool true) ∧ Below w.heap.size w w' := by
  by_cases hlen : len0 ≤ 1048576
  · go_enter Try.func13, Try.ntmps13
    go_wp2_with fail
    refine (drawAverageOf_any w a0 len0 cap0 z0 w0 hlen).mono ?_
    rintro e u0 ⟨c, s, l, m, rfl, c0, c1, s0, s1, l0, l1, m0, m1, B0⟩
    obtain ⟨N, hN⟩ : ∃ L, L = avgF c s l m := ⟨_, rfl⟩
    have hI := fun W => avgI_any c s l m W
    have hS := fun W => avgS_any c s l m W
    rw [← hN] at hI hS
    rcases avg_cases c s l m with hF | ⟨g0, g1, g2, g3, g4, g5, g6, g7, g8, g9, g10⟩
    · obtain rfl : N = -1 := by rw [hN, hF]
      clear hN hF
      have bv : Below u0.heap.size u0 (u0.alloc (.cells #[.int .i64 c, .int .i64 s, .int .i64 l, .int .i64 m] 48)) := (Below.refl _ _).alloc (Nat.le_refl _) _
      have nb := Bo.made u0 #[.int .i64 c, .int .i64 s, .int .i64 l, .int .i64 m] 48
      have zgX : u0.heap.size < (u0.alloc (.cells #[.int .i64 c, .int .i64 s, .int .i64 l, .int .i64 m] 48)).heap.size := by simp
      have B1 := B0.trans (bv.mono B0.size)
      have z1 := bv.size
      clear bv
      have X_1 := nb
      clear nb
      have pX0 := X_1.1 0 _ rfl
      have pX1 := X_1.1 1 _ rfl
      have pX2 := X_1.1 2 _ rfl
      have pX3 := X_1.1 3 _ rfl
      have plX := X_1.2
      go_wp2_with fail
      clear pX0 pX1 pX2 pX3 plX
      generalize (u0.alloc (.cells #[.int .i64 c, .int .i64 s, .int .i64 l, .int .i64 m] 48)) = u1 at *
      refine (hI _).mono ?_
      rintro e u2 ⟨rfl, b⟩
      have B2 := B1.trans (b.mono B1.size)
      have z2 := b.size
      have X_2 := X_1.keep b
      clear X_1 b
      have pX0 := X_2.1 0 _ rfl
      have pX1 := X_2.1 1 _ rfl
      have pX2 := X_2.1 2 _ rfl
      have pX3 := X_2.1 3 _ rfl
      have plX := X_2.2
      go_wp2_with fail
      clear pX0 pX1 pX2 pX3 plX
      refine (hS _).mono ?_
      rintro e u3 ⟨rfl, b⟩
      have B3 := B2.trans (b.mono B2.size)
      have z3 := b.size
      have X_3 := X_2.keep b
      clear X_2 b
      have pX0 := X_3.1 0 _ rfl
      have pX1 := X_3.1 1 _ rfl
      have pX2 := X_3.1 2 _ rfl
      have pX3 := X_3.1 3 _ rfl
      have plX := X_3.2
      go_wp2_with fail
      clear pX0 pX1 pX2 pX3 plX
      refine (hS _).mono ?_
      rintro e u4 ⟨rfl, b⟩
      have B4 := B3.trans (b.mono B3.size)
      have z4 := b.size
      have X_4 := X_3.keep b
      clear X_3 b
      go_wp2
      all_goals go_returns
      all_goals exact ⟨ret_bool (by first | rfl | simp), B4⟩
    · rw [← hN] at g0 g1 g2 g3 g4 g9 g10
      clear hN
      have hp0 : 0 ≤ (N + 1) * c := by omega
      have bv : Below u0.heap.size u0 (u0.alloc (.cells #[.int .i64 c, .int .i64 s, .int .i64 l, .int .i64 m] 48)) := (Below.refl _ _).alloc (Nat.le_refl _) _
      have nb := Bo.made u0 #[.int .i64 c, .int .i64 s, .int .i64 l, .int .i64 m] 48
      have zgX : u0.heap.size < (u0.alloc (.cells #[.int .i64 c, .int .i64 s, .int .i64 l, .int .i64 m] 48)).heap.size := by simp
      have B1 := B0.trans (bv.mono B0.size)
      have z1 := bv.size
      clear bv
      have X_1 := nb
      clear nb
      have pX0 := X_1.1 0 _ rfl
      have pX1 := X_1.1 1 _ rfl
      have pX2 := X_1.1 2 _ rfl
      have pX3 := X_1.1 3 _ rfl
      have plX := X_1.2
      go_wp2_with fail
      clear pX0 pX1 pX2 pX3 plX
      generalize (u0.alloc (.cells #[.int .i64 c, .int .i64 s, .int .i64 l, .int .i64 m] 48)) = u1 at *
      refine (hI _).mono ?_
      rintro e u2 ⟨rfl, b⟩
      have B2 := B1.trans (b.mono B1.size)
      have z2 := b.size
      have X_2 := X_1.keep b
      clear X_1 b
      have pX0 := X_2.1 0 _ rfl
      have pX1 := X_2.1 1 _ rfl
      have pX2 := X_2.1 2 _ rfl
      have pX3 := X_2.1 3 _ rfl
      have plX := X_2.2
      go_wp2_with fail
      clear pX0 pX1 pX2 pX3 plX
      refine (hS _).mono ?_
      rintro e u3 ⟨rfl, b⟩
      have B3 := B2.trans (b.mono B2.size)
      have z3 := b.size
      have X_3 := X_2.keep b
      clear X_2 b
      have pX0 := X_3.1 0 _ rfl
      have pX1 := X_3.1 1 _ rfl
      have pX2 := X_3.1 2 _ rfl
      have pX3 := X_3.1 3 _ rfl
      have plX := X_3.2
      go_wp2
      all_goals go_returns
      all_goals exact ⟨ret_bool (by first | rfl | simp [*] | (simp; omega)), B3⟩
  · go_enter Try.func13, Try.ntmps13
    go_wp2
    all_goals go_returns
    all_goals exact ⟨rfl, Below.refl _ _⟩
set_option maxRecDepth 100000 in
theorem lifted (os : Os) (started : os.Started) (H : Type) (enc : TypeId × Value → H) :
    ReturnsInHanded {} Try.checked os 13 .any (Rows.fnAverageOfSpec.pre6 enc Try.prog Try.f13 Rows.fnAverageOfRow.domain false) (Rows.fnAverageOfSpec.post enc Try.prog Try.f13 false true false false) := by
  refine returnsInHanded_of_change (C := Try.checked) own started (by kernel_rfl) Try.func13
    (ChangeSpec.witness6 (enc := enc) (C := Try.checked) false ⟨#[], #[.slice none 0 0], []⟩ 8 (by kernel_rfl) (by kernel_rfl) (by kernel_rfl) (by kernel_rfl)) ?_
  intro W base args ds gs before hval0 hW hcnd _
  have hval : ∀ (j : Nat) t v, Try.f13.params[j]? = some t → args[j]? = some v → Value.okWide Try.prog W .any base t v := hval0
  have hW' := hW
  obtain ⟨p, q, hA0, hV, rfl, hfz, hnd⟩ := hW
  have hA : DataW.TrodAll enc Try.prog W 0 (fun _ => true) true Try.f13.params.toList args.toList ds p := hA0
  rw [Try.params13] at hA hval
  obtain ⟨v0, vs0, d0, ds0, p0, q0, hargs, rfl, rfl, h0, r0⟩ := trodAll_cons hA
  obtain ⟨rfl, rfl, rfl⟩ := trodAll_nil r0
  obtain rfl : args = #[v0] := by cases args; simp_all
  obtain ⟨rfl, rfl⟩ := trodVars_none hV
  have k0 := h0
  have lt0 : ∀ x ∈ p0, x.block < W.heap.size := by obtain ⟨m, hm⟩ := k0; exact DataW.trod_lt m _ _ _ hm
  obtain ⟨a0, len0, cap0, rfl⟩ := okWide_slice Try.underlying22 (hval 0 22 v0 rfl rfl)
  obtain ⟨z0, w0⟩ : ∃ zs, IsRow .u8 W a0 len0 cap0 zs := by
    obtain ⟨fuel, hf⟩ := h0
    rcases open_ints Try.underlying22 Try.underlying5 (by kernel_rfl) hf with ⟨hcs, _⟩ | ⟨x, l, c, zs, hcs, _, hl, hm, hz, hx, hcell, hwz⟩
    · simp [Value.cells] at hcs
      obtain ⟨rfl, rfl, rfl⟩ := hcs
      exact ⟨[], .inl ⟨rfl, rfl, rfl, rfl⟩⟩
    · simp [Value.cells] at hcs
      obtain ⟨rfl, rfl, rfl⟩ := hcs
      exact ⟨zs, .inr ⟨_, rfl, hl, hm, by simpa using hz, hcell, hwz⟩⟩
  clear hA0 hval0
  refine (walk a0 len0 cap0 z0 W w0).mono fun e W' ⟨he, bel⟩ => ?_
  subst he
  exact ⟨_, rfl, _, _, _, [], _, [], hW', trodAll_mk1 (shut_bool Try.underlying4 _), (trodAll_cons_mk (Below.trod laidOut (by kernel_rfl) (of_decide_eq_true (by kernel_rfl)) k0 bel lt0) trodAll_mk0), rfl, bel.frame _, fun h => by cases h⟩

theorem closed : joinedFacts Try.checked.prog 13 Try.f13 Rows.fnAverageOfSpec Rows.fnAverageOfRow = true := by
  unfold joinedFacts
  rw [mayE, liftE, makeE]
  kernel_rfl

theorem over : Rows.fnAverageOfRow.holds Try.pinned (OpenSpec.ofChange Rows.fnAverageOfSpec) :=
  OpenClaim.holds_of_wide 13 Try.f13 rfl rfl rfl rfl rfl rfl rfl ⟨rfl, rfl, rfl, rfl, rfl⟩ rfl rfl rfl rfl rfl (by kernel_rfl) Try.func13 closed
    (of_decide_eq_true (by kernel_rfl)) (by unfold Func.isWrapper; first | (rw [if_pos (by decide +kernel)]; kernel_rfl) | (rw [if_neg (by decide +kernel)]; exact ⟨rfl, rfl⟩))
    (fun os started H enc _ => lifted os started H enc)

theorem proved : Rows.FnAverageOfSaid := over
#print axioms proved
end Go.Proofs.Ytehedhkadjidpab.fnAverageOf
