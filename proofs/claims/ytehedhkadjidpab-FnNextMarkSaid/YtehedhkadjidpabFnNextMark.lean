/- The law FnNextMark answers true at every input and leaves its arguments as they were; no condition. -/
import Derived.Test.YtehedhkadjidpabRows
import Derived.WalkKit
import Derived.WalkSpells
import Derived.WalkLawsBesides
import Derived.ProofKit
import Derived.OpenShut
import Derived.ShutString
import Derived.ChangeOld
import Derived.Below
import Derived.Lib.SmallJoins
import Derived.Handy
import Derived.Test.YtehedhkadjidpabMay
import Derived.Test.YtehedhkadjidpabMmN
namespace Go.Proofs.Ytehedhkadjidpab.fnNextMark
open Go.ChangeShapes Go.WideShapes Go.ChangeAt Go.RowKit Go.Joins
open Go.ChangeMaps (open_string shut_string)
set_option linter.unusedVariables false

theorem own : ownKnob Try.prog.godebug = none := by kernel_rfl
theorem laidOut : laidOutB Try.prog = true := by kernel_rfl
set_option maxRecDepth 100000 in
set_option maxHeartbeats 1000000 in
theorem walk (a0 : Option Addr) (len0 cap0 : Nat) (z0 : List Int) (w : World) (w0 : IsRow .u8 w a0 len0 cap0 z0) :
    Calls Try.prog 7 #[.slice a0 len0 cap0] w fun e w' => e = .returned (.bool true) ∧ Below w.heap.size w w' := by
  by_cases hlen : len0 ≤ 1048576
  · go_enter Try.func7, Try.ntmps7
    go_wp2_with fail
    refine (drawNextMark_any w a0 len0 cap0 z0 w0 hlen).mono ?_
    rintro e u0 ⟨A, c, l, old, now, idle, rfl, ol_0, l5, p0, p1, n0, n1, m0, m1, B0⟩
    have hcap := ol_0.lenCap
    obtain ⟨N, hN⟩ : ∃ L, L = nxF old l now idle := ⟨_, rfl⟩
    have hI := fun W hr => implNM_any A c l old now idle W hr hcap
    have hS := fun W hr => specNM_any A c l old now idle W hr
    rw [← hN] at hI hS
    rcases nxF_cases old l now idle with ⟨o0, o1, hv, hc, hM, hF⟩ | ⟨hn, hF⟩
    · have hbd := mmV_bounds (now := now) (idle := idle) hv
      have hJ := fun W hr => implMM_any A c l now idle W hr hcap
      have hK := fun W hr => implNM_any A c l N now idle W hr hcap
      rw [hM] at hJ
      have hN3 : N = mx old (mmV l now idle) := by rw [hN, hF]
      have hnn : nxF N l now idle = N := by
        unfold nxF
        have hb : -1 ≤ N ∧ N ≤ 999 := by rw [hN3]; unfold mx; split <;> omega
        rw [if_pos ⟨hb, hv, hc⟩, hN3]; unfold mx; (repeat' split) <;> omega
      rw [hnn] at hK
      generalize mmV l now idle = V at *
      have hge : old ≤ N ∧ V ≤ N ∧ (N = old ∨ N = V) ∧ -1 ≤ N := by rw [hN3]; unfold mx; split <;> omega
      obtain ⟨g0, g1, g2, g3⟩ := hge
      have hN2 : (N == -2) = false := by rw [beq_eq_false_iff_ne]; omega
      clear hN hF hv hc hM hN3 hnn
      go_wp2_with fail
      refine (hI _ (ol_0.row InputR.enc_len)).mono ?_
      rintro e u1 ⟨rfl, b⟩
      have B1 := B0.trans (b.mono B0.size)
      have z1 := b.size
      have ol_1 := ol_0.keep b
      clear ol_0 b
      go_wp2_with fail
      refine (hS _ (ol_1.row InputR.enc_len)).mono ?_
      rintro e u2 ⟨rfl, b⟩
      have B2 := B1.trans (b.mono B1.size)
      have z2 := b.size
      have ol_2 := ol_1.keep b
      clear ol_1 b
      go_wp2_with fail
      refine (hJ _ (ol_2.row InputR.enc_len)).mono ?_
      rintro e u3 ⟨rfl, b⟩
      have B3 := B2.trans (b.mono B2.size)
      have z3 := b.size
      have ol_3 := ol_2.keep b
      clear ol_2 b
      by_cases e1 : N = old
      · have h1 : (N == old) = true := by simp [e1]
        clear e1 g2
        go_wp2_with fail
        refine (hK _ (ol_3.row InputR.enc_len)).mono ?_
        rintro e u4 ⟨rfl, b⟩
        have B4 := B3.trans (b.mono B3.size)
        have z4 := b.size
        have ol_4 := ol_3.keep b
        clear ol_3 b
        go_wp2
        all_goals go_returns
        all_goals exact ⟨ret_bool (by first | rfl | simp), B4⟩
      · have h1 : (N == old) = false := by simp [e1]
        have h2 : (N == V) = true := by rw [beq_iff_eq]; omega
        clear e1 g2
        go_wp2_with fail
        refine (hK _ (ol_3.row InputR.enc_len)).mono ?_
        rintro e u4 ⟨rfl, b⟩
        have B4 := B3.trans (b.mono B3.size)
        have z4 := b.size
        have ol_4 := ol_3.keep b
        clear ol_3 b
        go_wp2
        all_goals go_returns
        all_goals exact ⟨ret_bool (by first | rfl | simp), B4⟩
    · obtain rfl : N = -2 := by rw [hN, hF]
      clear hN hF hn
      go_wp2_with fail
      refine (hI _ (ol_0.row InputR.enc_len)).mono ?_
      rintro e u1 ⟨rfl, b⟩
      have B1 := B0.trans (b.mono B0.size)
      have z1 := b.size
      have ol_1 := ol_0.keep b
      clear ol_0 b
      go_wp2_with fail
      refine (hS _ (ol_1.row InputR.enc_len)).mono ?_
      rintro e u2 ⟨rfl, b⟩
      have B2 := B1.trans (b.mono B1.size)
      have z2 := b.size
      have ol_2 := ol_1.keep b
      clear ol_1 b
      go_wp2_with fail
      refine (hS _ (ol_2.row InputR.enc_len)).mono ?_
      rintro e u3 ⟨rfl, b⟩
      have B3 := B2.trans (b.mono B2.size)
      have z3 := b.size
      have ol_3 := ol_2.keep b
      clear ol_2 b
      go_wp2
      all_goals go_returns
      all_goals exact ⟨ret_bool (by first | rfl | simp), B3⟩
  · go_enter Try.func7, Try.ntmps7
    go_wp2
    all_goals go_returns
    all_goals exact ⟨rfl, Below.refl _ _⟩
set_option maxRecDepth 100000 in
theorem lifted (os : Os) (started : os.Started) (H : Type) (enc : TypeId × Value → H) :
    ReturnsInHanded {} Try.checked os 7 .any (Rows.fnNextMarkSpec.pre6 enc Try.prog Try.f7 Rows.fnNextMarkRow.domain false) (Rows.fnNextMarkSpec.post enc Try.prog Try.f7 false true false false) := by
  refine returnsInHanded_of_change (C := Try.checked) own started (by kernel_rfl) Try.func7
    (ChangeSpec.witness6 (enc := enc) (C := Try.checked) false ⟨#[], #[.slice none 0 0], []⟩ 8 (by kernel_rfl) (by kernel_rfl) (by kernel_rfl) (by kernel_rfl)) ?_
  intro W base args ds gs before hval0 hW hcnd _
  have hval : ∀ (j : Nat) t v, Try.f7.params[j]? = some t → args[j]? = some v → Value.okWide Try.prog W .any base t v := hval0
  have hW' := hW
  obtain ⟨p, q, hA0, hV, rfl, hfz, hnd⟩ := hW
  have hA : DataW.TrodAll enc Try.prog W 0 (fun _ => true) true Try.f7.params.toList args.toList ds p := hA0
  rw [Try.params7] at hA hval
  obtain ⟨v0, vs0, d0, ds0, p0, q0, hargs, rfl, rfl, h0, r0⟩ := trodAll_cons hA
  obtain ⟨rfl, rfl, rfl⟩ := trodAll_nil r0
  obtain rfl : args = #[v0] := by cases args; simp_all
  obtain ⟨rfl, rfl⟩ := trodVars_none hV
  have k0 := h0
  have lt0 : ∀ x ∈ p0, x.block < W.heap.size := by obtain ⟨m, hm⟩ := k0; exact DataW.trod_lt m _ _ _ hm
  obtain ⟨a0, len0, cap0, rfl⟩ := okWide_slice Try.underlying22 (hval 0 22 v0 rfl rfl)
  obtain ⟨z0, w0⟩ : ∃ zs, IsRow .u8 W a0 len0 cap0 zs := by
    obtain ⟨fuel, hf⟩ := h0
    rcases open_ints Try.underlying22 Try.underlying5 (by kernel_rfl) hf with ⟨hcs, _⟩ | ⟨x, l, c, zs, hcs, _, hl, hm, hz, hx, hcell, hwz⟩
    · simp [Value.cells] at hcs
      obtain ⟨rfl, rfl, rfl⟩ := hcs
      exact ⟨[], .inl ⟨rfl, rfl, rfl, rfl⟩⟩
    · simp [Value.cells] at hcs
      obtain ⟨rfl, rfl, rfl⟩ := hcs
      exact ⟨zs, .inr ⟨_, rfl, hl, hm, by simpa using hz, hcell, hwz⟩⟩
  clear hA0 hval0
  refine (walk a0 len0 cap0 z0 W w0).mono fun e W' ⟨he, bel⟩ => ?_
  subst he
  exact ⟨_, rfl, _, _, _, [], _, [], hW', trodAll_mk1 (shut_bool Try.underlying4 _), (trodAll_cons_mk (Below.trod laidOut (by kernel_rfl) (of_decide_eq_true (by kernel_rfl)) k0 bel lt0) trodAll_mk0), rfl, bel.frame _, fun h => by cases h⟩

theorem closed : joinedFacts Try.checked.prog 7 Try.f7 Rows.fnNextMarkSpec Rows.fnNextMarkRow = true := by
  unfold joinedFacts
  rw [mayE, liftE, makeE]
  kernel_rfl

theorem over : Rows.fnNextMarkRow.holds Try.pinned (OpenSpec.ofChange Rows.fnNextMarkSpec) :=
  OpenClaim.holds_of_wide 7 Try.f7 rfl rfl rfl rfl rfl rfl rfl ⟨rfl, rfl, rfl, rfl, rfl⟩ rfl rfl rfl rfl rfl (by kernel_rfl) Try.func7 closed
    (of_decide_eq_true (by kernel_rfl)) (by unfold Func.isWrapper; first | (rw [if_pos (by decide +kernel)]; kernel_rfl) | (rw [if_neg (by decide +kernel)]; exact ⟨rfl, rfl⟩))
    (fun os started H enc _ => lifted os started H enc)

theorem proved : Rows.FnNextMarkSaid := over
#print axioms proved
end Go.Proofs.Ytehedhkadjidpab.fnNextMark
