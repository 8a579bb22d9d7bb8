/- The law FnNextTimer answers true at every input and leaves its arguments as they were; no condition. -/
import Derived.Test.YtjjjlpnbniofjabRows
import Derived.WalkKit
import Derived.WalkSpells
import Derived.WalkLawsBesides
import Derived.ProofKit
import Derived.OpenShut
import Derived.ShutString
import Derived.ChangeOld
import Derived.Below
import Derived.Lib.SmallJoins
import Derived.Handy
import Derived.Test.YtjjjlpnbniofjabMay
import Derived.Test.YtjjjlpnbniofjabTmP
namespace Go.Proofs.Ytjjjlpnbniofjab.fnNextTimer
open Go.ChangeShapes Go.WideShapes Go.ChangeAt Go.RowKit Go.Joins
open Go.ChangeMaps (open_string shut_string)
set_option linter.unusedVariables false

theorem own : ownKnob Try.prog.godebug = none := by kernel_rfl
theorem laidOut : laidOutB Try.prog = true := by kernel_rfl
set_option maxRecDepth 100000 in
set_option maxHeartbeats 1000000 in
theorem walk (a0 : Option Addr) (len0 cap0 : Nat) (z0 : List Int) (w : World) (w0 : IsRow .u8 w a0 len0 cap0 z0) :
    Calls Try.prog 7 #[.slice a0 len0 cap0] w fun e w' => e = .returned (.bool true) ∧ Below w.heap.size w w' := by
  by_cases hlen : len0 ≤ 1048576
  · go_enter Try.func7, Try.ntmps7
    go_wp2_with fail
    refine (drawNextTimer_any w a0 len0 cap0 z0 w0 hlen).mono ?_
    rintro e u0 ⟨A, c, l, k, rfl, ol_0, l20, k0, k1, B0⟩
    obtain ⟨n, hn⟩ : ∃ n, n = nextF l k := ⟨_, rfl⟩
    have hI := fun W hr => implNext_any A c l k W hr
    have hS := fun W hr => specNext_any A c l k W hr
    rw [← hn] at hI hS
    have Hn := Lib.hid hn
    clear hn
    have hl40 : l.length ≤ 1048576 := by omega
    go_wp2_with fail
    refine (hI _ (ol_0.row TimerR.enc_len)).mono ?_
    rintro e u1 ⟨rfl, b⟩
    have B1 := B0.trans (b.mono B0.size)
    have z1 := b.size
    have ol_1 := ol_0.keep b
    clear ol_0 b
    go_wp2_with fail
    refine (hS _ (ol_1.row TimerR.enc_len)).mono ?_
    rintro e u2 ⟨rfl, b⟩
    have B2 := B1.trans (b.mono B1.size)
    have z2 := b.size
    have ol_2 := ol_1.keep b
    clear ol_1 b
    by_cases hneg : n < 0
    · go_wp2_with fail
      refine (hS _ (ol_2.row TimerR.enc_len)).mono ?_
      rintro e u3 ⟨rfl, b⟩
      have B3 := B2.trans (b.mono B2.size)
      have z3 := b.size
      have ol_3 := ol_2.keep b
      clear ol_2 b
      go_wp2
      all_goals go_returns
      all_goals exact ⟨ret_bool (by first | rfl | simp), B3⟩
    · have hf := fire_next (l := l) (key := k) (by rw [← Hn.out]; omega)
      rw [← Hn.out] at hf
      obtain ⟨LA, hLA⟩ : ∃ L, L = fireA l n := ⟨_, rfl⟩
      obtain ⟨LE, hLE⟩ : ∃ L, L = fireA l (n - 1) := ⟨_, rfl⟩
      rw [← hLA, ← hLE] at hf
      have hJ := fun W hr hc => implFire_any A c l n W hr hc
      have hK := fun W hr hc => implFire_any A c l (n - 1) W hr hc
      rw [← hLA] at hJ
      rw [← hLE] at hK
      have hn3 := hf.2.2
      have hwn : IntKind.i64.wrap (n - 1) = n - 1 := IntWalk.i64_in _ (by omega)
      have hlc : LA.length ≤ 1048576 := by rw [hLA]; unfold fireA; split; exact Nat.le_trans (List.length_filter_le _ _) (by omega); simp
      clear hLA hLE
      go_wp2_with fail
      refine (hJ _ (ol_2.row TimerR.enc_len) ol_2.lenCap).mono ?_
      rintro e u3 ⟨A1, c1, A2, c2, rfl, q1, -, -, b⟩
      have B3 := B2.trans (b.mono B2.size)
      have z3 := b.size
      have ol_3 := ol_2.keep b
      clear ol_2 b
      have oa_3 := q1
      clear q1
      go_wp2_with fail
      refine (hK _ (ol_3.row TimerR.enc_len) ol_3.lenCap).mono ?_
      rintro e u4 ⟨A3, c3, A4, c4, rfl, q1, -, -, b⟩
      have B4 := B3.trans (b.mono B3.size)
      have z4 := b.size
      have ol_4 := ol_3.keep b
      have oa_4 := oa_3.keep b
      clear ol_3 oa_3 b
      have ob_4 := q1
      clear q1
      have hP := fun W hr => implNext_any A1 c1 LA k W hr
      have hQ := fun W hr => implNext_any A3 c3 LE k W hr
      rw [hf.1] at hP
      rw [hf.2.1] at hQ
      clear hf
      go_wp2_with fail
      refine (hP _ (oa_4.row TimerR.enc_len)).mono ?_
      rintro e u5 ⟨rfl, b⟩
      have B5 := B4.trans (b.mono B4.size)
      have z5 := b.size
      have ol_5 := ol_4.keep b
      have oa_5 := oa_4.keep b
      have ob_5 := ob_4.keep b
      clear ol_4 oa_4 ob_4 b
      go_wp2_with fail
      refine (hQ _ (ob_5.row TimerR.enc_len)).mono ?_
      rintro e u6 ⟨rfl, b⟩
      have B6 := B5.trans (b.mono B5.size)
      have z6 := b.size
      have ol_6 := ol_5.keep b
      have oa_6 := oa_5.keep b
      have ob_6 := ob_5.keep b
      clear ol_5 oa_5 ob_5 b
      go_wp2
      all_goals go_returns
      all_goals exact ⟨ret_bool (by first | rfl | simp), B6⟩
  · go_enter Try.func7, Try.ntmps7
    go_wp2
    all_goals go_returns
    all_goals exact ⟨rfl, Below.refl _ _⟩
set_option maxRecDepth 100000 in
theorem lifted (os : Os) (started : os.Started) (H : Type) (enc : TypeId × Value → H) :
    ReturnsInHanded {} Try.checked os 7 .any (Rows.fnNextTimerSpec.pre6 enc Try.prog Try.f7 Rows.fnNextTimerRow.domain false) (Rows.fnNextTimerSpec.post enc Try.prog Try.f7 false true false false) := by
  refine returnsInHanded_of_change (C := Try.checked) own started (by kernel_rfl) Try.func7
    (ChangeSpec.witness6 (enc := enc) (C := Try.checked) false ⟨#[], #[.slice none 0 0], []⟩ 8 (by kernel_rfl) (by kernel_rfl) (by kernel_rfl) (by kernel_rfl)) ?_
  intro W base args ds gs before hval0 hW hcnd _
  have hval : ∀ (j : Nat) t v, Try.f7.params[j]? = some t → args[j]? = some v → Value.okWide Try.prog W .any base t v := hval0
  have hW' := hW
  obtain ⟨p, q, hA0, hV, rfl, hfz, hnd⟩ := hW
  have hA : DataW.TrodAll enc Try.prog W 0 (fun _ => true) true Try.f7.params.toList args.toList ds p := hA0
  rw [Try.params7] at hA hval
  obtain ⟨v0, vs0, d0, ds0, p0, q0, hargs, rfl, rfl, h0, r0⟩ := trodAll_cons hA
  obtain ⟨rfl, rfl, rfl⟩ := trodAll_nil r0
  obtain rfl : args = #[v0] := by cases args; simp_all
  obtain ⟨rfl, rfl⟩ := trodVars_none hV
  have k0 := h0
  have lt0 : ∀ x ∈ p0, x.block < W.heap.size := by obtain ⟨m, hm⟩ := k0; exact DataW.trod_lt m _ _ _ hm
  obtain ⟨a0, len0, cap0, rfl⟩ := okWide_slice Try.underlying22 (hval 0 22 v0 rfl rfl)
  obtain ⟨z0, w0⟩ : ∃ zs, IsRow .u8 W a0 len0 cap0 zs := by
    obtain ⟨fuel, hf⟩ := h0
    rcases open_ints Try.underlying22 Try.underlying5 (by kernel_rfl) hf with ⟨hcs, _⟩ | ⟨x, l, c, zs, hcs, _, hl, hm, hz, hx, hcell, hwz⟩
    · simp [Value.cells] at hcs
      obtain ⟨rfl, rfl, rfl⟩ := hcs
      exact ⟨[], .inl ⟨rfl, rfl, rfl, rfl⟩⟩
    · simp [Value.cells] at hcs
      obtain ⟨rfl, rfl, rfl⟩ := hcs
      exact ⟨zs, .inr ⟨_, rfl, hl, hm, by simpa using hz, hcell, hwz⟩⟩
  clear hA0 hval0
  refine (walk a0 len0 cap0 z0 W w0).mono fun e W' ⟨he, bel⟩ => ?_
  subst he
  exact ⟨_, rfl, _, _, _, [], _, [], hW', trodAll_mk1 (shut_bool Try.underlying4 _), (trodAll_cons_mk (Below.trod laidOut (by kernel_rfl) (of_decide_eq_true (by kernel_rfl)) k0 bel lt0) trodAll_mk0), rfl, bel.frame _, fun h => by cases h⟩

theorem closed : joinedFacts Try.checked.prog 7 Try.f7 Rows.fnNextTimerSpec Rows.fnNextTimerRow = true := by
  unfold joinedFacts
  rw [mayE, liftE, makeE]
  kernel_rfl

theorem over : Rows.fnNextTimerRow.holds Try.pinned (OpenSpec.ofChange Rows.fnNextTimerSpec) :=
  OpenClaim.holds_of_wide 7 Try.f7 rfl rfl rfl rfl rfl rfl rfl ⟨rfl, rfl, rfl, rfl, rfl⟩ rfl rfl rfl rfl rfl (by kernel_rfl) Try.func7 closed
    (of_decide_eq_true (by kernel_rfl)) (by unfold Func.isWrapper; first | (rw [if_pos (by decide +kernel)]; kernel_rfl) | (rw [if_neg (by decide +kernel)]; exact ⟨rfl, rfl⟩))
    (fun os started H enc _ => lifted os started H enc)

theorem proved : Rows.FnNextTimerSaid := over
#print axioms proved
end Go.Proofs.Ytjjjlpnbniofjab.fnNextTimer
