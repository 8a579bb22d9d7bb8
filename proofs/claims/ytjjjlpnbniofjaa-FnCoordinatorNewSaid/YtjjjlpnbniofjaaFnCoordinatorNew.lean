/- The law FnCoordinatorNew answers true at every input and leaves its arguments as they were; no condition. -/
import Derived.Test.YtjjjlpnbniofjaaRows
import Derived.WalkKit
import Derived.WalkSpells
import Derived.WalkLawsBesides
import Derived.ProofKit
import Derived.OpenShut
import Derived.ShutString
import Derived.ChangeOld
import Derived.Below
import Derived.Lib.SmallJoins
import Derived.Handy
import Derived.Test.YtjjjlpnbniofjaaMay
import Derived.Test.YtjjjlpnbniofjaaCnB
import Derived.Test.YtjjjlpnbniofjaaMay
namespace Go.Proofs.Ytjjjlpnbniofjaa.fnCoordinatorNew
open Go.ChangeShapes Go.WideShapes Go.ChangeAt Go.RowKit Go.Joins
open Go.ChangeMaps (open_string shut_string)
set_option linter.unusedVariables false

theorem own : ownKnob Try.prog.godebug = none := by kernel_rfl
theorem laidOut : laidOutB Try.prog = true := by kernel_rfl
set_option maxRecDepth 100000 in
set_option maxHeartbeats 1000000 in
theorem walk (a0 : Option Addr) (len0 cap0 : Nat) (z0 : List Int) (w : World) (w0 : IsRow .u8 w a0 len0 cap0 z0) :
    Calls Try.prog 12 #[.slice a0 len0 cap0] w fun e w' => e = .returned (.bool true) ∧ Below w.heap.size w w' := by
  by_cases hlen : len0 ≤ 1048576
  · go_enter Try.func12, Try.ntmps12
    go_wp2_with fail
    refine (drawCoordinatorNew_any w a0 len0 cap0 z0 w0 hlen).mono ?_
    rintro e w1 ⟨n, rfl, n0, n1, B1⟩
    by_cases hv : 1 ≤ n ∧ n ≤ 8
    · obtain ⟨nv1, nv2⟩ := hv
      go_wp2_with fail
      have hS := fun W => cnS_t n W nv1 nv2
      unfold CnPost at hS
      refine (cnI_t n _ nv1 nv2).mono ?_
      rintro e w2 ⟨rfl, b⟩
      have B2 := B1.trans (b.mono B1.size)
      have X0 := Bo.made w2 #[.int .i64 n, .int .i64 1, .int .i64 0, .slice none 0 0] 46
      have B3 := B2.alloc B2.size (.cells #[.int .i64 n, .int .i64 1, .int .i64 0, .slice none 0 0] 46)
      clear b B2 B1
      have p0 := X0.1 0 _ rfl
      have p1 := X0.1 1 _ rfl
      have p2 := X0.1 2 _ rfl
      have p3 := X0.1 3 _ rfl
      have pl := X0.2
      go_wp2_with fail
      generalize (w2.alloc (.cells #[.int .i64 n, .int .i64 1, .int .i64 0, .slice none 0 0] 46)) = w3 at *
      have Q0 := Bw.cellOf pl p0
      have Q1 := Bw.cellOf pl p1
      have Q2 := Bw.cellOf pl p2
      have Q3 := Bw.cellOf pl p3
      have hn0 : (n == 0) = false := by simp; omega
      refine wp_region_quiet_below (by kernel_rfl) (by kernel_rfl) ?_
      repeat (any_goals (go_big_quiet_step (first | (go_at_call 38; refine Calls.below_of (hS _)) | (go_at_call 44; refine Calls.below_of (equalCoord_nil n 1 0 _)))))
      refine wpQuiet_nil ?_
      intro wq hbq
      have X1 := X0.keep hbq
      have B4 := B3.trans (hbq.mono B3.size)
      clear p0 p1 p2 p3 pl Q0 Q1 Q2 Q3 X0 B3 hbq
      have p0 := X1.1 0 _ rfl
      have p1 := X1.1 1 _ rfl
      have p2 := X1.1 2 _ rfl
      have p3 := X1.1 3 _ rfl
      have pl := X1.2
      go_wp2_with fail
      obtain ⟨N, rfl⟩ := Int.eq_ofNat_of_zero_le (show 0 ≤ n by omega)
      refine (begin_any N _ (by omega) (by omega)).mono ?_
      rintro e w5 ⟨A, k, c, rfl, b⟩
      have X2 := X1.keep b
      have B5 := B4.trans (b.mono B4.size)
      clear p0 p1 p2 p3 pl X1 B4 b
      have X3 := X2.keep ((Below.refl _ _).alloc (Nat.le_refl _) (.cells #[.int .i64 (N : Int), .int .i64 2, .int .i64 0, .slice A k c] 46))
      have B6 := B5.alloc B5.size (.cells #[.int .i64 (N : Int), .int .i64 2, .int .i64 0, .slice A k c] 46)
      have p0 := X3.1 0 _ rfl
      have p1 := X3.1 1 _ rfl
      have p2 := X3.1 2 _ rfl
      have p3 := X3.1 3 _ rfl
      have pl := X3.2
      go_wp2_with fail
      refine (validCn_t (N : Int) _ (by omega) (by omega)).mono ?_
      rintro e w6 ⟨rfl, b⟩
      have B7 := B6.trans (b.mono B6.size)
      go_wp2
      all_goals go_returns
      all_goals exact ⟨rfl, B7⟩
    · go_wp2_with fail
      have hS := fun W => cnS_f n W hv
      unfold CnPost at hS
      refine (cnI_f n _ hv).mono ?_
      rintro e w2 ⟨rfl, b⟩
      have B2 := B1.trans (b.mono B1.size)
      have X0 := Bo.made w2 #[.int .i64 0, .int .i64 0, .int .i64 0, .slice none 0 0] 46
      have B3 := B2.alloc B2.size (.cells #[.int .i64 0, .int .i64 0, .int .i64 0, .slice none 0 0] 46)
      clear b B2 B1
      have p0 := X0.1 0 _ rfl
      have p1 := X0.1 1 _ rfl
      have p2 := X0.1 2 _ rfl
      have p3 := X0.1 3 _ rfl
      have pl := X0.2
      go_wp2_with fail
      generalize (w2.alloc (.cells #[.int .i64 0, .int .i64 0, .int .i64 0, .slice none 0 0] 46)) = w3 at *
      have Q0 := Bw.cellOf pl p0
      have Q1 := Bw.cellOf pl p1
      have Q2 := Bw.cellOf pl p2
      have Q3 := Bw.cellOf pl p3
      refine wp_region_quiet_below (by kernel_rfl) (by kernel_rfl) ?_
      repeat (any_goals (go_big_quiet_step (first | (go_at_call 38; refine Calls.below_of (hS _)) | (go_at_call 44; refine Calls.below_of (equalCoord_nil 0 0 0 _)))))
      refine wpQuiet_nil ?_
      intro wq hbq
      have X1 := X0.keep hbq
      have B4 := B3.trans (hbq.mono B3.size)
      clear p0 p1 p2 p3 pl Q0 Q1 Q2 Q3 X0 B3 hbq
      have p0 := X1.1 0 _ rfl
      have p1 := X1.1 1 _ rfl
      have p2 := X1.1 2 _ rfl
      have p3 := X1.1 3 _ rfl
      have pl := X1.2
      go_wp2_with fail
      have Q0 := Bw.cellOf pl p0
      have Q1 := Bw.cellOf pl p1
      have Q2 := Bw.cellOf pl p2
      have Q3 := Bw.cellOf pl p3
      refine wp_region_quiet_below (by kernel_rfl) (by kernel_rfl) ?_
      repeat (any_goals (go_big_quiet_step (first | (go_at_call 38; refine Calls.below_of (hS _)) | (go_at_call 44; refine Calls.below_of (equalCoord_nil 0 0 0 _)))))
      refine wpQuiet_nil ?_
      intro wq hbq
      have B5 := B4.trans (hbq.mono B4.size)
      go_wp2
      all_goals go_returns
      all_goals exact ⟨rfl, B5⟩
  · go_enter Try.func12, Try.ntmps12
    go_wp2
    all_goals go_returns
    all_goals exact ⟨rfl, Below.refl _ _⟩
set_option maxRecDepth 100000 in
theorem lifted (os : Os) (started : os.Started) (H : Type) (enc : TypeId × Value → H) :
    ReturnsInHanded {} Try.checked os 12 .any (Rows.fnCoordinatorNewSpec.pre6 enc Try.prog Try.f12 Rows.fnCoordinatorNewRow.domain false) (Rows.fnCoordinatorNewSpec.post enc Try.prog Try.f12 false true false false) := by
  refine returnsInHanded_of_change (C := Try.checked) own started (by kernel_rfl) Try.func12
    (ChangeSpec.witness6 (enc := enc) (C := Try.checked) false ⟨#[], #[.slice none 0 0], []⟩ 8 (by kernel_rfl) (by kernel_rfl) (by kernel_rfl) (by kernel_rfl)) ?_
  intro W base args ds gs before hval0 hW hcnd _
  have hval : ∀ (j : Nat) t v, Try.f12.params[j]? = some t → args[j]? = some v → Value.okWide Try.prog W .any base t v := hval0
  have hW' := hW
  obtain ⟨p, q, hA0, hV, rfl, hfz, hnd⟩ := hW
  have hA : DataW.TrodAll enc Try.prog W 0 (fun _ => true) true Try.f12.params.toList args.toList ds p := hA0
  rw [Try.params12] at hA hval
  obtain ⟨v0, vs0, d0, ds0, p0, q0, hargs, rfl, rfl, h0, r0⟩ := trodAll_cons hA
  obtain ⟨rfl, rfl, rfl⟩ := trodAll_nil r0
  obtain rfl : args = #[v0] := by cases args; simp_all
  obtain ⟨rfl, rfl⟩ := trodVars_none hV
  have k0 := h0
  have lt0 : ∀ x ∈ p0, x.block < W.heap.size := by obtain ⟨m, hm⟩ := k0; exact DataW.trod_lt m _ _ _ hm
  obtain ⟨a0, len0, cap0, rfl⟩ := okWide_slice Try.underlying39 (hval 0 39 v0 rfl rfl)
  obtain ⟨z0, w0⟩ : ∃ zs, IsRow .u8 W a0 len0 cap0 zs := by
    obtain ⟨fuel, hf⟩ := h0
    rcases open_ints Try.underlying39 Try.underlying5 (by kernel_rfl) hf with ⟨hcs, _⟩ | ⟨x, l, c, zs, hcs, _, hl, hm, hz, hx, hcell, hwz⟩
    · simp [Value.cells] at hcs
      obtain ⟨rfl, rfl, rfl⟩ := hcs
      exact ⟨[], .inl ⟨rfl, rfl, rfl, rfl⟩⟩
    · simp [Value.cells] at hcs
      obtain ⟨rfl, rfl, rfl⟩ := hcs
      exact ⟨zs, .inr ⟨_, rfl, hl, hm, by simpa using hz, hcell, hwz⟩⟩
  clear hA0 hval0
  refine (walk a0 len0 cap0 z0 W w0).mono fun e W' ⟨he, bel⟩ => ?_
  subst he
  exact ⟨_, rfl, _, _, _, [], _, [], hW', trodAll_mk1 (shut_bool Try.underlying4 _), (trodAll_cons_mk (Below.trod laidOut (by kernel_rfl) (of_decide_eq_true (by kernel_rfl)) k0 bel lt0) trodAll_mk0), rfl, bel.frame _, fun h => by cases h⟩

theorem closed : joinedFacts Try.checked.prog 12 Try.f12 Rows.fnCoordinatorNewSpec Rows.fnCoordinatorNewRow = true := by
  unfold joinedFacts
  rw [mayE, liftE, makeE]
  kernel_rfl

theorem over : Rows.fnCoordinatorNewRow.holds Try.pinned (OpenSpec.ofChange Rows.fnCoordinatorNewSpec) :=
  OpenClaim.holds_of_wide 12 Try.f12 rfl rfl rfl rfl rfl rfl rfl ⟨rfl, rfl, rfl, rfl, rfl⟩ rfl rfl rfl rfl rfl (by kernel_rfl) Try.func12 closed
    (of_decide_eq_true (by kernel_rfl)) (by unfold Func.isWrapper; first | (rw [if_pos (by decide +kernel)]; kernel_rfl) | (rw [if_neg (by decide +kernel)]; exact ⟨rfl, rfl⟩))
    (fun os started H enc _ => lifted os started H enc)

theorem proved : Rows.FnCoordinatorNewSaid := over
#print axioms proved
end Go.Proofs.Ytjjjlpnbniofjaa.fnCoordinatorNew
