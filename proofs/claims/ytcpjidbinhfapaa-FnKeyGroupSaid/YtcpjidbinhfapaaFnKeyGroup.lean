/- The law FnKeyGroup answers true at every input and leaves its arguments as they were; no condition. -/
import Derived.Test.YtcpjidbinhfapaaRows
import Derived.WalkKit
import Derived.WalkSpells
import Derived.WalkLawsBesides
import Derived.ProofKit
import Derived.OpenShut
import Derived.ShutString
import Derived.ChangeOld
import Derived.Below
import Derived.Lib.SmallJoins
import Derived.Handy
import Derived.Test.YtcpjidbinhfapaaKg
import Derived.Test.YtcpjidbinhfapaaKgD
namespace Go.Proofs.Ytcpjidbinhfapaa.fnKeyGroup
open Go.ChangeShapes Go.WideShapes Go.ChangeAt Go.RowKit Go.Joins
open Go.ChangeMaps (open_string shut_string)
set_option linter.unusedVariables false

theorem own : ownKnob Try.prog.godebug = none := by kernel_rfl
theorem laidOut : laidOutB Try.prog = true := by kernel_rfl
set_option maxHeartbeats 1000000 in
theorem walk (a0 : Option Addr) (len0 cap0 : Nat) (z0 : List Int) (w : World) (w0 : IsRow .u8 w a0 len0 cap0 z0) :
    Calls Try.prog 7 #[.slice a0 len0 cap0] w fun e w' => e = .returned (.bool true) ∧ Below w.heap.size w w' := by
  by_cases hlen : len0 ≤ 1048576
  · go_enter Try.func7, Try.ntmps7
    go_wp2_with fail
    refine (drawKeyGroup_any w a0 len0 cap0 z0 w0 hlen).mono ?_
    rintro e w1 ⟨k, rfl, k0, k1, hb1⟩
    have kb := kgF_bd k
    by_cases hk : 0 ≤ k ∧ k ≤ 15
    · have kk : kgF k = (11 * k + 5) % 16 := by unfold kgF; rw [if_pos hk]
      have KK := Lib.hid kk
      have k2 : 0 ≤ kgF k := by omega
      clear kk
      go_wp2_with (first | (go_at_call 16; refine (kgI_any _ _).mono ?_; rintro e w' ⟨rfl, rfl⟩) | (go_at_call 15; refine (kgS_any _ _).mono ?_; rintro e w' ⟨rfl, rfl⟩) | fail)
      go_loop [5] (fun i => ∃ j : Nat, j ≤ 16 ∧ i = .int .i64 j) (fun i => 16 - (intOf i).toNat)
      case atStart => exact ⟨0, by omega, rfl⟩
      case round =>
        obtain ⟨j, hj, rfl⟩ := hrel
        by_cases hlt : j ≤ 15
        · have jj : kgF (j : Int) = (11 * (j : Int) + 5) % 16 := by unfold kgF; rw [if_pos (by omega)]
          by_cases he : (j : Int) = k
          · have hne : ((j : Int) != k) = false := by simp [he]
            clear jj
            go_wp2_with (first | (go_at_call 16; refine (kgI_any _ _).mono ?_; rintro e w' ⟨rfl, rfl⟩) | fail)
            all_goals
              go_round
              case rel => exact ⟨j + 1, by omega, by go_num⟩
              case measure => simp [intOf]; omega
          · have hne : ((j : Int) != k) = true := by simp [he]
            have h1 : (kgF (j : Int) == kgF k) = false := by
              have := KK.out
              simp
              omega
            clear jj
            go_wp2_with (first | (go_at_call 16; refine (kgI_any _ _).mono ?_; rintro e w' ⟨rfl, rfl⟩) | fail)
            all_goals
              go_round
              case rel => exact ⟨j + 1, by omega, by go_num⟩
              case measure => simp [intOf]; omega
        · go_wp2
          all_goals go_returns
          all_goals exact ⟨ret_bool (by simp; omega), hb1⟩
    · have kk : kgF k = -1 := by unfold kgF; rw [if_neg hk]
      go_wp2_with (first | (go_at_call 16; refine (kgI_any _ _).mono ?_; rintro e w' ⟨rfl, rfl⟩) | (go_at_call 15; refine (kgS_any _ _).mono ?_; rintro e w' ⟨rfl, rfl⟩) | fail)
      all_goals go_returns
      all_goals exact ⟨ret_bool (by simp), hb1⟩
  · go_enter Try.func7, Try.ntmps7
    go_wp2
    all_goals go_returns
    all_goals exact ⟨rfl, Below.refl _ _⟩
set_option maxRecDepth 100000 in
theorem lifted (os : Os) (started : os.Started) (H : Type) (enc : TypeId × Value → H) :
    ReturnsInHanded {} Try.checked os 7 .any (Rows.fnKeyGroupSpec.pre6 enc Try.prog Try.f7 Rows.fnKeyGroupRow.domain false) (Rows.fnKeyGroupSpec.post enc Try.prog Try.f7 false true false false) := by
  refine returnsInHanded_of_change (C := Try.checked) own started (by kernel_rfl) Try.func7
    (ChangeSpec.witness6 (enc := enc) (C := Try.checked) false ⟨#[], #[.slice none 0 0], []⟩ 8 (by kernel_rfl) (by kernel_rfl) (by kernel_rfl) (by kernel_rfl)) ?_
  intro W base args ds gs before hval0 hW hcnd _
  have hval : ∀ (j : Nat) t v, Try.f7.params[j]? = some t → args[j]? = some v → Value.okWide Try.prog W .any base t v := hval0
  have hW' := hW
  obtain ⟨p, q, hA0, hV, rfl, hfz, hnd⟩ := hW
  have hA : DataW.TrodAll enc Try.prog W 0 (fun _ => true) true Try.f7.params.toList args.toList ds p := hA0
  rw [Try.params7] at hA hval
  obtain ⟨v0, vs0, d0, ds0, p0, q0, hargs, rfl, rfl, h0, r0⟩ := trodAll_cons hA
  obtain ⟨rfl, rfl, rfl⟩ := trodAll_nil r0
  obtain rfl : args = #[v0] := by cases args; simp_all
  obtain ⟨rfl, rfl⟩ := trodVars_none hV
  have k0 := h0
  have lt0 : ∀ x ∈ p0, x.block < W.heap.size := by obtain ⟨m, hm⟩ := k0; exact DataW.trod_lt m _ _ _ hm
  obtain ⟨a0, len0, cap0, rfl⟩ := okWide_slice Try.underlying32 (hval 0 32 v0 rfl rfl)
  obtain ⟨z0, w0⟩ : ∃ zs, IsRow .u8 W a0 len0 cap0 zs := by
    obtain ⟨fuel, hf⟩ := h0
    rcases open_ints Try.underlying32 Try.underlying5 (by kernel_rfl) hf with ⟨hcs, _⟩ | ⟨x, l, c, zs, hcs, _, hl, hm, hz, hx, hcell, hwz⟩
    · simp [Value.cells] at hcs
      obtain ⟨rfl, rfl, rfl⟩ := hcs
      exact ⟨[], .inl ⟨rfl, rfl, rfl, rfl⟩⟩
    · simp [Value.cells] at hcs
      obtain ⟨rfl, rfl, rfl⟩ := hcs
      exact ⟨zs, .inr ⟨_, rfl, hl, hm, by simpa using hz, hcell, hwz⟩⟩
  clear hA0 hval0
  refine (walk a0 len0 cap0 z0 W w0).mono fun e W' ⟨he, bel⟩ => ?_
  subst he
  exact ⟨_, rfl, _, _, _, [], _, [], hW', trodAll_mk1 (shut_bool Try.underlying4 _), (trodAll_cons_mk (Below.trod laidOut (by kernel_rfl) (of_decide_eq_true (by kernel_rfl)) k0 bel lt0) trodAll_mk0), rfl, bel.frame _, fun h => by cases h⟩

theorem over : Rows.fnKeyGroupRow.holds Try.pinned (OpenSpec.ofChange Rows.fnKeyGroupSpec) :=
  OpenClaim.holds_of_wide 7 Try.f7 rfl rfl rfl rfl rfl rfl rfl ⟨rfl, rfl, rfl, rfl, rfl⟩ rfl rfl rfl rfl rfl (by kernel_rfl) Try.func7 (by kernel_rfl)
    (of_decide_eq_true (by kernel_rfl)) (by unfold Func.isWrapper; first | (rw [if_pos (by decide +kernel)]; kernel_rfl) | (rw [if_neg (by decide +kernel)]; exact ⟨rfl, rfl⟩))
    (fun os started H enc _ => lifted os started H enc)

theorem proved : Rows.FnKeyGroupSaid := over
#print axioms proved
end Go.Proofs.Ytcpjidbinhfapaa.fnKeyGroup
