/- The law FnTriggerMark answers true at every input and leaves its arguments as they were; no condition. -/
import Derived.Test.YthhcjpbgmloacaaRows
import Derived.WalkKit
import Derived.WalkSpells
import Derived.WalkLawsBesides
import Derived.ProofKit
import Derived.OpenShut
import Derived.ShutString
import Derived.ChangeOld
import Derived.Below
import Derived.Lib.SmallJoins
import Derived.Handy
import Derived.Test.YthhcjpbgmloacaaTmL
namespace Go.Proofs.Ythhcjpbgmloacaa.fnTriggerMark
open Go.ChangeShapes Go.WideShapes Go.ChangeAt Go.RowKit Go.Joins
open Go.ChangeMaps (open_string shut_string)
set_option linter.unusedVariables false

theorem own : ownKnob Try.prog.godebug = none := by kernel_rfl
theorem laidOut : laidOutB Try.prog = true := by kernel_rfl
set_option maxRecDepth 100000 in
set_option maxHeartbeats 4000000 in
theorem walk (a0 : Option Addr) (len0 cap0 : Nat) (z0 : List Int) (w : World) (w0 : IsRow .u8 w a0 len0 cap0 z0) :
    Calls Try.prog 4 #[.slice a0 len0 cap0] w fun e w' => e = .returned (.bool true) ∧ Below w.heap.size w w' := by
  by_cases hlen : len0 ≤ 1048576
  · go_enter Try.func4, Try.ntmps4
    go_wp2_with fail
    refine (drawTriggerMark_any w a0 len0 cap0 z0 w0 hlen).mono ?_
    rintro e w1 ⟨ev, la, s, d, o, t, rfl, e0, e1, l0, l1, s0, s1, d0, d1, o0, o1, t0, t1, b1⟩
    have P_0 := (Bo.made w1 #[.int .i64 ev, .int .i64 la] 28).keep ((Below.refl _ _).alloc (Nat.le_refl _) (.cells #[.int .i64 s, .int .i64 d] 30))
    have Q_0 := Bo.made (w1.alloc (.cells #[.int .i64 ev, .int .i64 la] 28)) #[.int .i64 s, .int .i64 d] 30
    simp only [World.size_alloc] at Q_0
    have B0 : Below w.heap.size w ((w1.alloc (.cells #[.int .i64 ev, .int .i64 la] 28)).alloc (.cells #[.int .i64 s, .int .i64 d] 30)) := (b1.alloc b1.size _).alloc (by have := b1.size; simp; omega) _
    clear b1
    rcases tm_all ev la s d o t with ⟨x, y, C1, C2⟩ | ⟨hot, ho, ht, a, c, b, q, hac, hbq, C1, C2, C3, C4⟩
    · skip
      have pP0 := P_0.1 0 _ rfl
      have pP1 := P_0.1 1 _ rfl
      have plP := P_0.2
      have pQ0 := Q_0.1 0 _ rfl
      have pQ1 := Q_0.1 1 _ rfl
      have plQ := Q_0.2
      go_wp2_with fail
      clear pP0 pP1 plP
      clear pQ0 pQ1 plQ
      generalize ((w1.alloc (.cells #[.int .i64 ev, .int .i64 la] 28)).alloc (.cells #[.int .i64 s, .int .i64 d] 30)) = u0 at *
      refine (C1 _).mono ?_
      rintro e u1 ⟨rfl, b⟩
      have B1 := B0.trans (b.mono B0.size)
      have z1 := b.size
      have P_1 := P_0.keep b
      have Q_1 := Q_0.keep b
      clear P_0 Q_0 b
      have pP0 := P_1.1 0 _ rfl
      have pP1 := P_1.1 1 _ rfl
      have plP := P_1.2
      have pQ0 := Q_1.1 0 _ rfl
      have pQ1 := Q_1.1 1 _ rfl
      have plQ := Q_1.2
      go_wp2_with fail
      clear pP0 pP1 plP
      clear pQ0 pQ1 plQ
      refine (C2 _).mono ?_
      rintro e u2 ⟨rfl, b⟩
      have B2 := B1.trans (b.mono B1.size)
      have z2 := b.size
      have P_2 := P_1.keep b
      have Q_2 := Q_1.keep b
      clear P_1 Q_1 b
      have pP0 := P_2.1 0 _ rfl
      have pP1 := P_2.1 1 _ rfl
      have plP := P_2.2
      have pQ0 := Q_2.1 0 _ rfl
      have pQ1 := Q_2.1 1 _ rfl
      have plQ := Q_2.2
      go_wp2
      all_goals go_returns
      all_goals exact ⟨ret_bool (by first | rfl | simp), B2⟩
    · have m0 : o ≤ o + (t - o) / 2 := by omega
      have m1 : o + (t - o) / 2 ≤ t := by omega
      have m2 : 0 ≤ (t - o) / 2 := by omega
      rcases tm_two hac with ⟨rfl, rfl⟩ | ⟨rfl, rfl⟩ | ⟨rfl, rfl⟩ <;> rcases tm_two hbq with ⟨rfl, rfl⟩ | ⟨rfl, rfl⟩ | ⟨rfl, rfl⟩
      all_goals
        simp only [Bool.or_true, Bool.true_or, Bool.or_false, Bool.false_or] at C1 C2
        have pP0 := P_0.1 0 _ rfl
        have pP1 := P_0.1 1 _ rfl
        have plP := P_0.2
        have pQ0 := Q_0.1 0 _ rfl
        have pQ1 := Q_0.1 1 _ rfl
        have plQ := Q_0.2
        go_wp2_with fail
        clear pP0 pP1 plP
        clear pQ0 pQ1 plQ
        generalize ((w1.alloc (.cells #[.int .i64 ev, .int .i64 la] 28)).alloc (.cells #[.int .i64 s, .int .i64 d] 30)) = u0 at *
        refine (C1 _).mono ?_
        rintro e u1 ⟨rfl, b⟩
        have B1 := B0.trans (b.mono B0.size)
        have z1 := b.size
        have P_1 := P_0.keep b
        have Q_1 := Q_0.keep b
        clear P_0 Q_0 b
        have pP0 := P_1.1 0 _ rfl
        have pP1 := P_1.1 1 _ rfl
        have plP := P_1.2
        have pQ0 := Q_1.1 0 _ rfl
        have pQ1 := Q_1.1 1 _ rfl
        have plQ := Q_1.2
        go_wp2_with fail
        clear pP0 pP1 plP
        clear pQ0 pQ1 plQ
        refine (C2 _).mono ?_
        rintro e u2 ⟨rfl, b⟩
        have B2 := B1.trans (b.mono B1.size)
        have z2 := b.size
        have P_2 := P_1.keep b
        have Q_2 := Q_1.keep b
        clear P_1 Q_1 b
        have pP0 := P_2.1 0 _ rfl
        have pP1 := P_2.1 1 _ rfl
        have plP := P_2.2
        have pQ0 := Q_2.1 0 _ rfl
        have pQ1 := Q_2.1 1 _ rfl
        have plQ := Q_2.2
        go_wp2_with fail
        clear pP0 pP1 plP
        clear pQ0 pQ1 plQ
        refine (C3 _).mono ?_
        rintro e u3 ⟨rfl, b⟩
        have B3 := B2.trans (b.mono B2.size)
        have z3 := b.size
        have P_3 := P_2.keep b
        have Q_3 := Q_2.keep b
        clear P_2 Q_2 b
        have pP0 := P_3.1 0 _ rfl
        have pP1 := P_3.1 1 _ rfl
        have plP := P_3.2
        have pQ0 := Q_3.1 0 _ rfl
        have pQ1 := Q_3.1 1 _ rfl
        have plQ := Q_3.2
        go_wp2_with fail
        clear pP0 pP1 plP
        clear pQ0 pQ1 plQ
        refine (C4 _).mono ?_
        rintro e u4 ⟨rfl, b⟩
        have B4 := B3.trans (b.mono B3.size)
        have z4 := b.size
        have P_4 := P_3.keep b
        have Q_4 := Q_3.keep b
        clear P_3 Q_3 b
        have pP0 := P_4.1 0 _ rfl
        have pP1 := P_4.1 1 _ rfl
        have plP := P_4.2
        have pQ0 := Q_4.1 0 _ rfl
        have pQ1 := Q_4.1 1 _ rfl
        have plQ := Q_4.2
        go_wp2
        all_goals go_returns
        all_goals exact ⟨ret_bool (by first | rfl | simp), B4⟩
  · go_enter Try.func4, Try.ntmps4
    go_wp2
    all_goals go_returns
    all_goals exact ⟨rfl, Below.refl _ _⟩
set_option maxRecDepth 100000 in
theorem lifted (os : Os) (started : os.Started) (H : Type) (enc : TypeId × Value → H) :
    ReturnsInHanded {} Try.checked os 4 .any (Rows.fnTriggerMarkSpec.pre6 enc Try.prog Try.f4 Rows.fnTriggerMarkRow.domain false) (Rows.fnTriggerMarkSpec.post enc Try.prog Try.f4 false true false false) := by
  refine returnsInHanded_of_change (C := Try.checked) own started (by kernel_rfl) Try.func4
    (ChangeSpec.witness6 (enc := enc) (C := Try.checked) false ⟨#[], #[.slice none 0 0], []⟩ 8 (by kernel_rfl) (by kernel_rfl) (by kernel_rfl) (by kernel_rfl)) ?_
  intro W base args ds gs before hval0 hW hcnd _
  have hval : ∀ (j : Nat) t v, Try.f4.params[j]? = some t → args[j]? = some v → Value.okWide Try.prog W .any base t v := hval0
  have hW' := hW
  obtain ⟨p, q, hA0, hV, rfl, hfz, hnd⟩ := hW
  have hA : DataW.TrodAll enc Try.prog W 0 (fun _ => true) true Try.f4.params.toList args.toList ds p := hA0
  rw [Try.params4] at hA hval
  obtain ⟨v0, vs0, d0, ds0, p0, q0, hargs, rfl, rfl, h0, r0⟩ := trodAll_cons hA
  obtain ⟨rfl, rfl, rfl⟩ := trodAll_nil r0
  obtain rfl : args = #[v0] := by cases args; simp_all
  obtain ⟨rfl, rfl⟩ := trodVars_none hV
  have k0 := h0
  have lt0 : ∀ x ∈ p0, x.block < W.heap.size := by obtain ⟨m, hm⟩ := k0; exact DataW.trod_lt m _ _ _ hm
  obtain ⟨a0, len0, cap0, rfl⟩ := okWide_slice Try.underlying33 (hval 0 33 v0 rfl rfl)
  obtain ⟨z0, w0⟩ : ∃ zs, IsRow .u8 W a0 len0 cap0 zs := by
    obtain ⟨fuel, hf⟩ := h0
    rcases open_ints Try.underlying33 Try.underlying5 (by kernel_rfl) hf with ⟨hcs, _⟩ | ⟨x, l, c, zs, hcs, _, hl, hm, hz, hx, hcell, hwz⟩
    · simp [Value.cells] at hcs
      obtain ⟨rfl, rfl, rfl⟩ := hcs
      exact ⟨[], .inl ⟨rfl, rfl, rfl, rfl⟩⟩
    · simp [Value.cells] at hcs
      obtain ⟨rfl, rfl, rfl⟩ := hcs
      exact ⟨zs, .inr ⟨_, rfl, hl, hm, by simpa using hz, hcell, hwz⟩⟩
  clear hA0 hval0
  refine (walk a0 len0 cap0 z0 W w0).mono fun e W' ⟨he, bel⟩ => ?_
  subst he
  exact ⟨_, rfl, _, _, _, [], _, [], hW', trodAll_mk1 (shut_bool Try.underlying4 _), (trodAll_cons_mk (Below.trod laidOut (by kernel_rfl) (of_decide_eq_true (by kernel_rfl)) k0 bel lt0) trodAll_mk0), rfl, bel.frame _, fun h => by cases h⟩

theorem over : Rows.fnTriggerMarkRow.holds Try.pinned (OpenSpec.ofChange Rows.fnTriggerMarkSpec) :=
  OpenClaim.holds_of_wide 4 Try.f4 rfl rfl rfl rfl rfl rfl rfl ⟨rfl, rfl, rfl, rfl, rfl⟩ rfl rfl rfl rfl rfl (by kernel_rfl) Try.func4 (by kernel_rfl)
    (of_decide_eq_true (by kernel_rfl)) (by unfold Func.isWrapper; first | (rw [if_pos (by decide +kernel)]; kernel_rfl) | (rw [if_neg (by decide +kernel)]; exact ⟨rfl, rfl⟩))
    (fun os started H enc _ => lifted os started H enc)

theorem proved : Rows.FnTriggerMarkSaid := over
#print axioms proved
end Go.Proofs.Ythhcjpbgmloacaa.fnTriggerMark
