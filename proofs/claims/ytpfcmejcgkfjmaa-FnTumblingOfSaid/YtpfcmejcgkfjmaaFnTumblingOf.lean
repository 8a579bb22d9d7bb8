/- The law FnTumblingOf answers true at every input and leaves its arguments as they were; no condition. -/
import Derived.Test.YtpfcmejcgkfjmaaRows
import Derived.WalkKit
import Derived.WalkSpells
import Derived.WalkLawsBesides
import Derived.ProofKit
import Derived.OpenShut
import Derived.ShutString
import Derived.ChangeOld
import Derived.Below
import Derived.Lib.SmallJoins
import Derived.Handy
import Derived.Test.YtpfcmejcgkfjmaaTum2
namespace Go.Proofs.Ytpfcmejcgkfjmaa.fnTumblingOf
open Go.ChangeShapes Go.WideShapes Go.ChangeAt Go.RowKit Go.Joins
open Go.ChangeMaps (open_string shut_string)
set_option linter.unusedVariables false

theorem own : ownKnob Try.prog.godebug = none := by kernel_rfl
theorem laidOut : laidOutB Try.prog = true := by kernel_rfl
set_option maxHeartbeats 4000000 in
theorem walk (a0 : Option Addr) (len0 cap0 : Nat) (z0 : List Int) (w : World) (w0 : IsRow .u8 w a0 len0 cap0 z0) :
    Calls Try.prog 11 #[.slice a0 len0 cap0] w fun e w' => e = .returned (.bool true) ∧ Below w.heap.size w w' := by
  by_cases hlen : len0 ≤ 1048576
  · go_enter Try.func11, Try.ntmps11
    go_wp2_with fail
    refine (drawTumblingOf_any w a0 len0 cap0 z0 w0 hlen).mono ?_
    rintro e w1 ⟨t, z, o, rfl, t0, t1, z0, z1, o0, o1, hb1⟩
    rcases tum_two t z o with ⟨C1, C2⟩ | ⟨r, r0, r1, g0, g1, g2, C1, C2, C3, C4⟩
    · go_wp2_with fail
      refine (C1 _).mono ?_
      rintro e w2 ⟨rfl, hb2⟩
      have BB := hb1.trans (hb2.mono hb1.size)
      go_wp2_with fail
      refine (C2 _).mono ?_
      rintro e w3 ⟨rfl, hb3⟩
      obtain ⟨hc3, hf3⟩ := bcell hb3
      have hz3 : w2.heap.size < w3.heap.size := by have := hb3.size; simp at this; omega
      have BB3 := (BB.alloc BB.size (.cells #[.int .i64 0, .int .i64 0] 23)).trans (hb3.mono (by have := BB.size; simp; omega))
      clear hb1 hb2 hb3 BB C1 C2
      go_wp2
      all_goals go_returns
      all_goals exact ⟨by first | rfl | simp, by have := BB3.size; first | exact BB3.alloc this _ | go_grown⟩
    · go_wp2_with fail
      refine (C1 _).mono ?_
      rintro e w2 ⟨rfl, hb2⟩
      have BB := hb1.trans (hb2.mono hb1.size)
      go_wp2_with fail
      refine (C2 _).mono ?_
      rintro e w3 ⟨rfl, hb3⟩
      obtain ⟨hc3, hf3⟩ := bcell hb3
      have hz3 : w2.heap.size < w3.heap.size := by have := hb3.size; simp at this; omega
      have BB3 := ((BB.alloc BB.size (.cells #[.int .i64 (t - r), .int .i64 (t - r + z)] 23)).trans (hb3.mono (by have := BB.size; simp; omega)))
      have BB4 := BB3.alloc BB3.size (.cells #[.int .i64 (t - r), .int .i64 (t - r + z)] 23)
      clear hb1 hb2 hb3 BB C1 C2 BB3
      by_cases hbig : 999 < t + z
      · go_wp2_with (go_at_call 17; refine (C3 _).mono ?_; rintro e w4 ⟨rfl, hb4⟩; obtain ⟨hc4, hf4⟩ := bcell hb4; have hz4 : w3.heap.size < w4.heap.size := (by have := hb4.size; simp at this; omega); have hz5 : w2.heap.size < w4.heap.size := (by omega))
        all_goals go_returns
        all_goals exact ⟨ret_bool (by first | rfl | (simp; omega)), BB4.trans (hb4.mono BB4.size)⟩
      · have C5 := C4 (by omega)
        clear C4
        go_wp2_with fail
        refine (C5 _).mono ?_
        rintro e w4 ⟨rfl, hb4⟩
        obtain ⟨hc4, hf4⟩ := bcell hb4
        have hz4 : w3.heap.size < w4.heap.size := by have := hb4.size; simp at this; omega
        have hz5 : w2.heap.size < w4.heap.size := by omega
        have BB5 := (BB4.trans (hb4.mono BB4.size)).alloc (BB4.trans (hb4.mono BB4.size)).size (.cells #[.int .i64 (t - r + z), .int .i64 (t - r + z + z)] 23)
        clear hb4 BB4 C5
        go_wp2_with (go_at_call 17; refine (C3 _).mono ?_; rintro e w5 ⟨rfl, hb5⟩; obtain ⟨hc5, hf5⟩ := bcell hb5; have hz6 : w4.heap.size < w5.heap.size := (by have := hb5.size; simp at this; omega); have hz7 : w2.heap.size < w5.heap.size := (by omega); have hz8 : w3.heap.size < w5.heap.size := (by omega))
        all_goals go_returns
        all_goals exact ⟨ret_bool (by first | rfl | (simp; omega)), BB5.trans (hb5.mono BB5.size)⟩
  · go_enter Try.func11, Try.ntmps11
    go_wp2
    all_goals go_returns
    all_goals exact ⟨rfl, Below.refl _ _⟩
set_option maxRecDepth 100000 in
theorem lifted (os : Os) (started : os.Started) (H : Type) (enc : TypeId × Value → H) :
    ReturnsInHanded {} Try.checked os 11 .any (Rows.fnTumblingOfSpec.pre6 enc Try.prog Try.f11 Rows.fnTumblingOfRow.domain false) (Rows.fnTumblingOfSpec.post enc Try.prog Try.f11 false true false false) := by
  refine returnsInHanded_of_change (C := Try.checked) own started (by kernel_rfl) Try.func11
    (ChangeSpec.witness6 (enc := enc) (C := Try.checked) false ⟨#[], #[.slice none 0 0], []⟩ 8 (by kernel_rfl) (by kernel_rfl) (by kernel_rfl) (by kernel_rfl)) ?_
  intro W base args ds gs before hval0 hW hcnd _
  have hval : ∀ (j : Nat) t v, Try.f11.params[j]? = some t → args[j]? = some v → Value.okWide Try.prog W .any base t v := hval0
  have hW' := hW
  obtain ⟨p, q, hA0, hV, rfl, hfz, hnd⟩ := hW
  have hA : DataW.TrodAll enc Try.prog W 0 (fun _ => true) true Try.f11.params.toList args.toList ds p := hA0
  rw [Try.params11] at hA hval
  obtain ⟨v0, vs0, d0, ds0, p0, q0, hargs, rfl, rfl, h0, r0⟩ := trodAll_cons hA
  obtain ⟨rfl, rfl, rfl⟩ := trodAll_nil r0
  obtain rfl : args = #[v0] := by cases args; simp_all
  obtain ⟨rfl, rfl⟩ := trodVars_none hV
  have k0 := h0
  have lt0 : ∀ x ∈ p0, x.block < W.heap.size := by obtain ⟨m, hm⟩ := k0; exact DataW.trod_lt m _ _ _ hm
  obtain ⟨a0, len0, cap0, rfl⟩ := okWide_slice Try.underlying54 (hval 0 54 v0 rfl rfl)
  obtain ⟨z0, w0⟩ : ∃ zs, IsRow .u8 W a0 len0 cap0 zs := by
    obtain ⟨fuel, hf⟩ := h0
    rcases open_ints Try.underlying54 Try.underlying5 (by kernel_rfl) hf with ⟨hcs, _⟩ | ⟨x, l, c, zs, hcs, _, hl, hm, hz, hx, hcell, hwz⟩
    · simp [Value.cells] at hcs
      obtain ⟨rfl, rfl, rfl⟩ := hcs
      exact ⟨[], .inl ⟨rfl, rfl, rfl, rfl⟩⟩
    · simp [Value.cells] at hcs
      obtain ⟨rfl, rfl, rfl⟩ := hcs
      exact ⟨zs, .inr ⟨_, rfl, hl, hm, by simpa using hz, hcell, hwz⟩⟩
  clear hA0 hval0
  refine (walk a0 len0 cap0 z0 W w0).mono fun e W' ⟨he, bel⟩ => ?_
  subst he
  exact ⟨_, rfl, _, _, _, [], _, [], hW', trodAll_mk1 (shut_bool Try.underlying4 _), (trodAll_cons_mk (Below.trod laidOut (by kernel_rfl) (of_decide_eq_true (by kernel_rfl)) k0 bel lt0) trodAll_mk0), rfl, bel.frame _, fun h => by cases h⟩

theorem over : Rows.fnTumblingOfRow.holds Try.pinned (OpenSpec.ofChange Rows.fnTumblingOfSpec) :=
  OpenClaim.holds_of_wide 11 Try.f11 rfl rfl rfl rfl rfl rfl rfl ⟨rfl, rfl, rfl, rfl, rfl⟩ rfl rfl rfl rfl rfl (by kernel_rfl) Try.func11 (by kernel_rfl)
    (of_decide_eq_true (by kernel_rfl)) (by unfold Func.isWrapper; first | (rw [if_pos (by decide +kernel)]; kernel_rfl) | (rw [if_neg (by decide +kernel)]; exact ⟨rfl, rfl⟩))
    (fun os started H enc _ => lifted os started H enc)

theorem proved : Rows.FnTumblingOfSaid := over
#print axioms proved
end Go.Proofs.Ytpfcmejcgkfjmaa.fnTumblingOf
