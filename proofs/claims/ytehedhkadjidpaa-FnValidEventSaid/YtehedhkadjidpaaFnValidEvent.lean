/- The law FnValidEvent answers true at every input and leaves its arguments as they were; no condition. -/
import Derived.Test.YtehedhkadjidpaaRows
import Derived.WalkKit
import Derived.WalkSpells
import Derived.WalkLawsBesides
import Derived.ProofKit
import Derived.OpenShut
import Derived.ShutString
import Derived.ChangeOld
import Derived.Below
import Derived.Lib.SmallJoins
import Derived.Handy
import Derived.Test.YtehedhkadjidpaaMay
import Derived.Test.YtehedhkadjidpaaEvP
namespace Go.Proofs.Ytehedhkadjidpaa.fnValidEvent
open Go.ChangeShapes Go.WideShapes Go.ChangeAt Go.RowKit Go.Joins
open Go.ChangeMaps (open_string shut_string)
set_option linter.unusedVariables false

theorem own : ownKnob Try.prog.godebug = none := by kernel_rfl
theorem laidOut : laidOutB Try.prog = true := by kernel_rfl
set_option maxRecDepth 100000 in
set_option maxHeartbeats 1000000 in
theorem walk (a0 : Option Addr) (len0 cap0 : Nat) (z0 : List Int) (w : World) (w0 : IsRow .u8 w a0 len0 cap0 z0) :
    Calls Try.prog 4 #[.slice a0 len0 cap0] w fun e w' => e = .returned (.bool true) ∧ Below w.heap.size w w' := by
  by_cases hlen : len0 ≤ 1048576
  · go_enter Try.func4, Try.ntmps4
    go_wp2_with fail
    refine (drawValidEvent_any w a0 len0 cap0 z0 w0 hlen).mono ?_
    rintro e u0 ⟨x, rfl, B0⟩
    have bv : Below u0.heap.size u0 (u0.alloc (.cells #[.int .i64 x.a0, .int .i64 x.a1, .int .i64 x.a2] 32)) := (Below.refl _ _).alloc (Nat.le_refl _) _
    have nb := Bo.made u0 #[.int .i64 x.a0, .int .i64 x.a1, .int .i64 x.a2] 32
    have zgC : u0.heap.size < (u0.alloc (.cells #[.int .i64 x.a0, .int .i64 x.a1, .int .i64 x.a2] 32)).heap.size := by simp
    have B1 := B0.trans (bv.mono B0.size)
    have z1 := bv.size
    clear bv
    have C_1 := nb
    clear nb
    go_wp2_with fail
    generalize (u0.alloc (.cells #[.int .i64 x.a0, .int .i64 x.a1, .int .i64 x.a2] 32)) = u1 at *
    obtain ⟨v, hv⟩ : ∃ v, v = vEvB x := ⟨_, rfl⟩
    have hI := fun W => implValidEvent_any x W
    have hS := fun W => specValidEvent_any x W
    rw [← hv] at hI hS
    obtain ⟨M, hM⟩ : ∃ L, L = soF [x] := ⟨_, rfl⟩
    have hO := fun A W hr => implSort_any A 1 [x] W hr
    rw [← hM] at hO
    have hlen : ((M.length : Int) == 1) = v := by rw [hM, hv]; exact soF_one x
    clear hv hM
    rcases v with _ | _
    · have pC0 := C_1.1 0 _ rfl
      have pC1 := C_1.1 1 _ rfl
      have pC2 := C_1.1 2 _ rfl
      have plC := C_1.2
      go_wp2_with fail
      clear pC0 pC1 pC2 plC
      refine (hI _).mono ?_
      rintro e u2 ⟨rfl, b⟩
      have B2 := B1.trans (b.mono B1.size)
      have z2 := b.size
      have C_2 := C_1.keep b
      clear C_1 b
      have pC0 := C_2.1 0 _ rfl
      have pC1 := C_2.1 1 _ rfl
      have pC2 := C_2.1 2 _ rfl
      have plC := C_2.2
      go_wp2_with fail
      clear pC0 pC1 pC2 plC
      refine (hS _).mono ?_
      rintro e u3 ⟨rfl, b⟩
      have B3 := B2.trans (b.mono B2.size)
      have z3 := b.size
      have C_3 := C_2.keep b
      clear C_2 b
      have pC0 := C_3.1 0 _ rfl
      have pC1 := C_3.1 1 _ rfl
      have pC2 := C_3.1 2 _ rfl
      have plC := C_3.2
      go_wp2_with fail
      clear pC0 pC1 pC2 plC
      have hr1 := row_one u3 x
      refine (hO _ _ hr1).mono ?_
      rintro e u4 ⟨A1, c1, rfl, q1, b⟩
      have B4 := B3.trans (((Below.refl _ _).alloc (Nat.le_refl _) (.cells #[.int .i64 x.a0, .int .i64 x.a1, .int .i64 x.a2] 32)).trans (b.mono (by simp)) |>.mono B3.size)
      clear q1 b hr1
      go_wp2
      all_goals go_returns
      all_goals exact ⟨ret_bool (by first | rfl | simp), B4⟩
    · have pC0 := C_1.1 0 _ rfl
      have pC1 := C_1.1 1 _ rfl
      have pC2 := C_1.1 2 _ rfl
      have plC := C_1.2
      go_wp2_with fail
      clear pC0 pC1 pC2 plC
      refine (hI _).mono ?_
      rintro e u2 ⟨rfl, b⟩
      have B2 := B1.trans (b.mono B1.size)
      have z2 := b.size
      have C_2 := C_1.keep b
      clear C_1 b
      have pC0 := C_2.1 0 _ rfl
      have pC1 := C_2.1 1 _ rfl
      have pC2 := C_2.1 2 _ rfl
      have plC := C_2.2
      go_wp2_with fail
      clear pC0 pC1 pC2 plC
      refine (hS _).mono ?_
      rintro e u3 ⟨rfl, b⟩
      have B3 := B2.trans (b.mono B2.size)
      have z3 := b.size
      have C_3 := C_2.keep b
      clear C_2 b
      have pC0 := C_3.1 0 _ rfl
      have pC1 := C_3.1 1 _ rfl
      have pC2 := C_3.1 2 _ rfl
      have plC := C_3.2
      go_wp2_with fail
      clear pC0 pC1 pC2 plC
      have hr1 := row_one u3 x
      refine (hO _ _ hr1).mono ?_
      rintro e u4 ⟨A1, c1, rfl, q1, b⟩
      have B4 := B3.trans (((Below.refl _ _).alloc (Nat.le_refl _) (.cells #[.int .i64 x.a0, .int .i64 x.a1, .int .i64 x.a2] 32)).trans (b.mono (by simp)) |>.mono B3.size)
      clear q1 b hr1
      go_wp2
      all_goals go_returns
      all_goals exact ⟨ret_bool (by first | rfl | simp), B4⟩
  · go_enter Try.func4, Try.ntmps4
    go_wp2
    all_goals go_returns
    all_goals exact ⟨rfl, Below.refl _ _⟩
set_option maxRecDepth 100000 in
theorem lifted (os : Os) (started : os.Started) (H : Type) (enc : TypeId × Value → H) :
    ReturnsInHanded {} Try.checked os 4 .any (Rows.fnValidEventSpec.pre6 enc Try.prog Try.f4 Rows.fnValidEventRow.domain false) (Rows.fnValidEventSpec.post enc Try.prog Try.f4 false true false false) := by
  refine returnsInHanded_of_change (C := Try.checked) own started (by kernel_rfl) Try.func4
    (ChangeSpec.witness6 (enc := enc) (C := Try.checked) false ⟨#[], #[.slice none 0 0], []⟩ 8 (by kernel_rfl) (by kernel_rfl) (by kernel_rfl) (by kernel_rfl)) ?_
  intro W base args ds gs before hval0 hW hcnd _
  have hval : ∀ (j : Nat) t v, Try.f4.params[j]? = some t → args[j]? = some v → Value.okWide Try.prog W .any base t v := hval0
  have hW' := hW
  obtain ⟨p, q, hA0, hV, rfl, hfz, hnd⟩ := hW
  have hA : DataW.TrodAll enc Try.prog W 0 (fun _ => true) true Try.f4.params.toList args.toList ds p := hA0
  rw [Try.params4] at hA hval
  obtain ⟨v0, vs0, d0, ds0, p0, q0, hargs, rfl, rfl, h0, r0⟩ := trodAll_cons hA
  obtain ⟨rfl, rfl, rfl⟩ := trodAll_nil r0
  obtain rfl : args = #[v0] := by cases args; simp_all
  obtain ⟨rfl, rfl⟩ := trodVars_none hV
  have k0 := h0
  have lt0 : ∀ x ∈ p0, x.block < W.heap.size := by obtain ⟨m, hm⟩ := k0; exact DataW.trod_lt m _ _ _ hm
  obtain ⟨a0, len0, cap0, rfl⟩ := okWide_slice Try.underlying30 (hval 0 30 v0 rfl rfl)
  obtain ⟨z0, w0⟩ : ∃ zs, IsRow .u8 W a0 len0 cap0 zs := by
    obtain ⟨fuel, hf⟩ := h0
    rcases open_ints Try.underlying30 Try.underlying5 (by kernel_rfl) hf with ⟨hcs, _⟩ | ⟨x, l, c, zs, hcs, _, hl, hm, hz, hx, hcell, hwz⟩
    · simp [Value.cells] at hcs
      obtain ⟨rfl, rfl, rfl⟩ := hcs
      exact ⟨[], .inl ⟨rfl, rfl, rfl, rfl⟩⟩
    · simp [Value.cells] at hcs
      obtain ⟨rfl, rfl, rfl⟩ := hcs
      exact ⟨zs, .inr ⟨_, rfl, hl, hm, by simpa using hz, hcell, hwz⟩⟩
  clear hA0 hval0
  refine (walk a0 len0 cap0 z0 W w0).mono fun e W' ⟨he, bel⟩ => ?_
  subst he
  exact ⟨_, rfl, _, _, _, [], _, [], hW', trodAll_mk1 (shut_bool Try.underlying4 _), (trodAll_cons_mk (Below.trod laidOut (by kernel_rfl) (of_decide_eq_true (by kernel_rfl)) k0 bel lt0) trodAll_mk0), rfl, bel.frame _, fun h => by cases h⟩

theorem closed : joinedFacts Try.checked.prog 4 Try.f4 Rows.fnValidEventSpec Rows.fnValidEventRow = true := by
  unfold joinedFacts
  rw [mayE, liftE, makeE]
  kernel_rfl

theorem over : Rows.fnValidEventRow.holds Try.pinned (OpenSpec.ofChange Rows.fnValidEventSpec) :=
  OpenClaim.holds_of_wide 4 Try.f4 rfl rfl rfl rfl rfl rfl rfl ⟨rfl, rfl, rfl, rfl, rfl⟩ rfl rfl rfl rfl rfl (by kernel_rfl) Try.func4 closed
    (of_decide_eq_true (by kernel_rfl)) (by unfold Func.isWrapper; first | (rw [if_pos (by decide +kernel)]; kernel_rfl) | (rw [if_neg (by decide +kernel)]; exact ⟨rfl, rfl⟩))
    (fun os started H enc _ => lifted os started H enc)

theorem proved : Rows.FnValidEventSaid := over
#print axioms proved
end Go.Proofs.Ytehedhkadjidpaa.fnValidEvent
