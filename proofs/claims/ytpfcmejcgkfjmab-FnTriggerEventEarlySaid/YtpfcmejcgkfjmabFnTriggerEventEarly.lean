/- The law FnTriggerEventEarly answers true at every input and leaves its arguments as they were; no condition. -/
import Derived.Test.YtpfcmejcgkfjmabRows
import Derived.WalkKit
import Derived.WalkSpells
import Derived.WalkLawsBesides
import Derived.ProofKit
import Derived.OpenShut
import Derived.ShutString
import Derived.ChangeOld
import Derived.Below
import Derived.Lib.SmallJoins
import Derived.Handy
import Derived.Test.YtpfcmejcgkfjmabDraw8
import Derived.Test.YtpfcmejcgkfjmabScV
namespace Go.Proofs.Ytpfcmejcgkfjmab.fnTriggerEventEarly
open Go.ChangeShapes Go.WideShapes Go.ChangeAt Go.RowKit Go.Joins
open Go.ChangeMaps (open_string shut_string)
set_option linter.unusedVariables false

theorem own : ownKnob Try.prog.godebug = none := by kernel_rfl
theorem laidOut : laidOutB Try.prog = true := by kernel_rfl
set_option maxHeartbeats 4000000 in
theorem walk (a0 : Option Addr) (len0 cap0 : Nat) (z0 : List Int) (w : World) (w0 : IsRow .u8 w a0 len0 cap0 z0) :
    Calls Try.prog 6 #[.slice a0 len0 cap0] w fun e w' => e = .returned (.bool true) ∧ Below w.heap.size w w' := by
  by_cases hlen : len0 ≤ 1048576
  · go_enter Try.func6, Try.ntmps6
    go_wp2_with fail
    refine (drawTriggerEvent_any w a0 len0 cap0 z0 w0 hlen).mono ?_
    rintro e w1 ⟨ev, la, s, d, m, t, rfl, e0, e1, l0, l1, b0, b1, h0, h1, m0, m1, t0, t1, hb1⟩
    have hw1 := hb1.size
    have BB : Below w.heap.size w ((w1.alloc (.cells #[.int .i64 ev, .int .i64 la] 30)).alloc (.cells #[.int .i64 s, .int .i64 d] 24)) := hb1.trans (by go_grown)
    obtain ⟨n, CI, CS, hn⟩ := ev_five ev la s d m t
    rcases hn with rfl | ⟨g0, g1, CC, hn⟩
    · go_wp2_with (first | (go_at_call 19; refine (CI _).mono ?_; rintro e wn ⟨rfl, hb⟩; obtain ⟨hc, hf⟩ := bcell hb; have hz : w1.heap.size + 1 < wn.heap.size := (by have := hb.size; (try simp at this); omega); have hy : w1.heap.size < wn.heap.size := (by omega); replace BB := BB.trans (hb.mono BB.size)) | (go_at_call 20; refine (CS _).mono ?_; rintro e wn ⟨rfl, hb⟩; obtain ⟨hc, hf⟩ := bcell hb; have hz : w1.heap.size + 1 < wn.heap.size := (by have := hb.size; (try simp at this); omega); have hy : w1.heap.size < wn.heap.size := (by omega); replace BB := BB.trans (hb.mono BB.size)) | go_in)
      all_goals go_returns
      all_goals exact ⟨by first | rfl | simp, BB⟩
    · rcases hn with ⟨rfl, n1, n2⟩ | ⟨rfl, n1, n2⟩ | ⟨rfl, n1, n2, n3, n4⟩ | ⟨rfl, n1, n2, n3⟩
      all_goals
        go_wp2_with (first | (go_at_call 19; refine (CI _).mono ?_; rintro e wn ⟨rfl, hb⟩; obtain ⟨hc, hf⟩ := bcell hb; have hz : w1.heap.size + 1 < wn.heap.size := (by have := hb.size; (try simp at this); omega); have hy : w1.heap.size < wn.heap.size := (by omega); replace BB := BB.trans (hb.mono BB.size)) | (go_at_call 20; refine (CS _).mono ?_; rintro e wn ⟨rfl, hb⟩; obtain ⟨hc, hf⟩ := bcell hb; have hz : w1.heap.size + 1 < wn.heap.size := (by have := hb.size; (try simp at this); omega); have hy : w1.heap.size < wn.heap.size := (by omega); replace BB := BB.trans (hb.mono BB.size)) | (go_at_call 16; refine (CC _).mono ?_; rintro e wn ⟨rfl, hb⟩; obtain ⟨hc, hf⟩ := bcell hb; have hz : w1.heap.size + 1 < wn.heap.size := (by have := hb.size; (try simp at this); omega); have hy : w1.heap.size < wn.heap.size := (by omega); replace BB := BB.trans (hb.mono BB.size)) | go_in)
        all_goals go_returns
        all_goals refine ⟨ret_bool ?_, BB⟩
        all_goals first | rfl | (simp; omega) | (simp_all; omega) | (simp_all; done)
  · go_enter Try.func6, Try.ntmps6
    go_wp2
    all_goals go_returns
    all_goals exact ⟨rfl, Below.refl _ _⟩
set_option maxRecDepth 100000 in
theorem lifted (os : Os) (started : os.Started) (H : Type) (enc : TypeId × Value → H) :
    ReturnsInHanded {} Try.checked os 6 .any (Rows.fnTriggerEventEarlySpec.pre6 enc Try.prog Try.f6 Rows.fnTriggerEventEarlyRow.domain false) (Rows.fnTriggerEventEarlySpec.post enc Try.prog Try.f6 false true false false) := by
  refine returnsInHanded_of_change (C := Try.checked) own started (by kernel_rfl) Try.func6
    (ChangeSpec.witness6 (enc := enc) (C := Try.checked) false ⟨#[], #[.slice none 0 0], []⟩ 8 (by kernel_rfl) (by kernel_rfl) (by kernel_rfl) (by kernel_rfl)) ?_
  intro W base args ds gs before hval0 hW hcnd _
  have hval : ∀ (j : Nat) t v, Try.f6.params[j]? = some t → args[j]? = some v → Value.okWide Try.prog W .any base t v := hval0
  have hW' := hW
  obtain ⟨p, q, hA0, hV, rfl, hfz, hnd⟩ := hW
  have hA : DataW.TrodAll enc Try.prog W 0 (fun _ => true) true Try.f6.params.toList args.toList ds p := hA0
  rw [Try.params6] at hA hval
  obtain ⟨v0, vs0, d0, ds0, p0, q0, hargs, rfl, rfl, h0, r0⟩ := trodAll_cons hA
  obtain ⟨rfl, rfl, rfl⟩ := trodAll_nil r0
  obtain rfl : args = #[v0] := by cases args; simp_all
  obtain ⟨rfl, rfl⟩ := trodVars_none hV
  have k0 := h0
  have lt0 : ∀ x ∈ p0, x.block < W.heap.size := by obtain ⟨m, hm⟩ := k0; exact DataW.trod_lt m _ _ _ hm
  obtain ⟨a0, len0, cap0, rfl⟩ := okWide_slice Try.underlying22 (hval 0 22 v0 rfl rfl)
  obtain ⟨z0, w0⟩ : ∃ zs, IsRow .u8 W a0 len0 cap0 zs := by
    obtain ⟨fuel, hf⟩ := h0
    rcases open_ints Try.underlying22 Try.underlying5 (by kernel_rfl) hf with ⟨hcs, _⟩ | ⟨x, l, c, zs, hcs, _, hl, hm, hz, hx, hcell, hwz⟩
    · simp [Value.cells] at hcs
      obtain ⟨rfl, rfl, rfl⟩ := hcs
      exact ⟨[], .inl ⟨rfl, rfl, rfl, rfl⟩⟩
    · simp [Value.cells] at hcs
      obtain ⟨rfl, rfl, rfl⟩ := hcs
      exact ⟨zs, .inr ⟨_, rfl, hl, hm, by simpa using hz, hcell, hwz⟩⟩
  clear hA0 hval0
  refine (walk a0 len0 cap0 z0 W w0).mono fun e W' ⟨he, bel⟩ => ?_
  subst he
  exact ⟨_, rfl, _, _, _, [], _, [], hW', trodAll_mk1 (shut_bool Try.underlying4 _), (trodAll_cons_mk (Below.trod laidOut (by kernel_rfl) (of_decide_eq_true (by kernel_rfl)) k0 bel lt0) trodAll_mk0), rfl, bel.frame _, fun h => by cases h⟩

theorem over : Rows.fnTriggerEventEarlyRow.holds Try.pinned (OpenSpec.ofChange Rows.fnTriggerEventEarlySpec) :=
  OpenClaim.holds_of_wide 6 Try.f6 rfl rfl rfl rfl rfl rfl rfl ⟨rfl, rfl, rfl, rfl, rfl⟩ rfl rfl rfl rfl rfl (by kernel_rfl) Try.func6 (by kernel_rfl)
    (of_decide_eq_true (by kernel_rfl)) (by unfold Func.isWrapper; first | (rw [if_pos (by decide +kernel)]; kernel_rfl) | (rw [if_neg (by decide +kernel)]; exact ⟨rfl, rfl⟩))
    (fun os started H enc _ => lifted os started H enc)

theorem proved : Rows.FnTriggerEventEarlySaid := over
#print axioms proved
end Go.Proofs.Ytpfcmejcgkfjmab.fnTriggerEventEarly
