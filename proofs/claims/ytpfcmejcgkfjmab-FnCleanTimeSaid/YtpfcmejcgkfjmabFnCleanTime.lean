/- The law FnCleanTime answers true at every input and leaves its arguments as they were; no condition. -/
import Derived.Test.YtpfcmejcgkfjmabRows
import Derived.WalkKit
import Derived.WalkSpells
import Derived.WalkLawsBesides
import Derived.ProofKit
import Derived.OpenShut
import Derived.ShutString
import Derived.ChangeOld
import Derived.Below
import Derived.Lib.SmallJoins
import Derived.Handy
import Derived.Test.YtpfcmejcgkfjmabDraw8
import Derived.Test.YtpfcmejcgkfjmabScV
import Derived.Deep.RegionHeld3
namespace Go.Proofs.Ytpfcmejcgkfjmab.fnCleanTime
open Go.ChangeShapes Go.WideShapes Go.ChangeAt Go.RowKit Go.Joins
open Go.ChangeMaps (open_string shut_string)
set_option linter.unusedVariables false

theorem own : ownKnob Try.prog.godebug = none := by kernel_rfl
theorem laidOut : laidOutB Try.prog = true := by kernel_rfl
set_option maxHeartbeats 4000000 in
theorem walk (a0 : Option Addr) (len0 cap0 : Nat) (z0 : List Int) (w : World) (w0 : IsRow .u8 w a0 len0 cap0 z0) :
    Calls Try.prog 4 #[.slice a0 len0 cap0] w fun e w' => e = .returned (.bool true) ∧ Below w.heap.size w w' := by
  by_cases hlen : len0 ≤ 1048576
  · go_enter Try.func4, Try.ntmps4
    go_wp2_with fail
    refine (drawCleanTime_any w a0 len0 cap0 z0 w0 hlen).mono ?_
    rintro e w1 ⟨ev, la, b, h, rfl, e0, e1, l0, l1, b0, b1, h0, h1, hb1⟩
    have hw1 := hb1.size
    have B1 : Below w1.heap.size w1 ((w1.alloc (.cells #[.int .i64 ev, .int .i64 la] 30)).alloc (.cells #[.int .i64 b, .int .i64 h] 24)) := by go_grown
    by_cases hv : trgV ev la ∧ winV b h
    · obtain ⟨hv1, hv2⟩ := hv
      have hv0 : trgV ev 0 := by unfold trgV at hv1 ⊢; omega
      have hw := hv2
      unfold winV at hw
      have hv3 := hv1
      unfold trgV at hv3
      go_wp2_with fail
      refine (cleanI_pos _ _ _ _ _ hv1 hv2).mono ?_
      rintro e w2 ⟨rfl, hb2⟩
      obtain ⟨hc2, hf2⟩ := bcell hb2
      have hz2 : w1.heap.size + 1 < w2.heap.size := by have := hb2.size; (try simp at this); omega
      have hy2 : w1.heap.size < w2.heap.size := by omega
      have B2 : Below w1.heap.size w1 w2 := B1.trans (hb2.mono (by (try simp); omega))
      go_wp2_with fail
      refine (cleanS_pos _ _ _ _ _ hv1 hv2).mono ?_
      rintro e w3 ⟨rfl, hb3⟩
      obtain ⟨hc3, hf3⟩ := bcell hb3
      have hz3 : w1.heap.size + 1 < w3.heap.size := by have := hb3.size; (try simp at this); omega
      have hy3 : w1.heap.size < w3.heap.size := by omega
      have B3 : Below w1.heap.size w1 w3 := B2.trans (hb3.mono (by (try simp); omega))
      go_wp2_with fail
      refine (hasI_start _ _ _ hv2).mono ?_
      rintro e w4 ⟨rfl, hb4⟩
      obtain ⟨hc4, hf4⟩ := bcell hb4
      have hz4 : w1.heap.size + 1 < w4.heap.size := by have := hb4.size; (try simp at this); omega
      have hy4 : w1.heap.size < w4.heap.size := by omega
      have B4 : Below w1.heap.size w1 w4 := B3.trans (hb4.mono (by (try simp); omega))
      have B4d := B4.drew
      by_cases hm : h - 1 + la = -1
      · have hm' : (h - 1 + la == -1) = true := by simp [hm]
        go_wp2_with (first | (go_at_call 17; refine (cleanS_pos _ _ _ _ _ hv1 hv2).mono ?_; rintro e w5 ⟨rfl, hb5⟩) | go_in)
        all_goals go_returns
        all_goals exact ⟨by simp, (hb1.trans (B4.mono hw1)).trans (hb5.mono (by have := B4.size; omega))⟩
      · have hm' : (h - 1 + la == -1) = false := by simp [hm]
        have Hm := Lib.hid hm
        clear hm
        have q1 : IntKind.i64.wrap (h - 1) = h - 1 := IntWalk.i64_in _ (by omega)
        have q2 : IntKind.i64.wrap (h - 1 + la) = h - 1 + la := IntWalk.i64_in _ (by omega)
        have hb := hb4
        have hB0 := B4d
        have hz : w1.heap.size + 2 ≤ w4.heap.size := by omega
        have k0 : w4.cell? ⟨w1.heap.size, 0, none⟩ = some (.int .i64 ev) := by rw [hc4 _ _ (by omega), hc3 _ _ (by omega), hc2 _ _ (by first | (simp; done) | (simp; omega))]; simp [go_sem]
        have k1 : w4.cell? ⟨w1.heap.size, 1, none⟩ = some (.int .i64 la) := by rw [hc4 _ _ (by omega), hc3 _ _ (by omega), hc2 _ _ (by first | (simp; done) | (simp; omega))]; simp [go_sem]
        have k2 : w4.cell? ⟨w1.heap.size + 1, 0, none⟩ = some (.int .i64 b) := by rw [hc4 _ _ (by omega), hc3 _ _ (by omega), hc2 _ _ (by first | (simp; done) | (simp; omega))]; simp [go_sem]
        have k3 : w4.cell? ⟨w1.heap.size + 1, 1, none⟩ = some (.int .i64 h) := by rw [hc4 _ _ (by omega), hc3 _ _ (by omega), hc2 _ _ (by first | (simp; done) | (simp; omega))]; simp [go_sem]
        clear hb4
        go_wp2_with fail
        go_region_held3 (fun w' => w'.cell? ⟨w1.heap.size, 0, none⟩ = some (.int .i64 ev) ∧ w'.cell? ⟨w1.heap.size, 1, none⟩ = some (.int .i64 la) ∧ w'.cell? ⟨w1.heap.size + 1, 0, none⟩ = some (.int .i64 b) ∧ w'.cell? ⟨w1.heap.size + 1, 1, none⟩ = some (.int .i64 h) ∧ w1.heap.size + 2 ≤ w'.heap.size ∧ Below w1.heap.size w1 w') (first | (refine ⟨?_, ?_, ?_, ?_, ?_, ?_⟩ <;> first | assumption | (simp only [World.cell?_drew]; assumption) | (simp only [World.size_drew]; omega) | omega | (go_keep; done)) | go_keep | (go_split_ands; have hz := hb.size; refine ⟨?_, ?_, ?_, ?_, ?_, ?_⟩ <;> first | omega | assumption | (refine (hb.cell (by first | omega | (simp; done) | (simp; omega))).trans ?_; assumption) | (refine Below.trans ?_ (hb.mono (by first | omega | (simp; done) | (simp; omega))); assumption))) (first | (go_at_call 16; refine (cleanI_zero _ _ _ _ hv0 hv2).mono ?_; rintro e w1 ⟨rfl, hb⟩))
        rename_i hS
        obtain ⟨s0, s1, s2, s3, s4, s5⟩ := hS
        go_wp2
        all_goals go_returns
        all_goals exact ⟨by simp, hb1.trans (s5.mono hw1)⟩
    · have BB := hb1.trans (B1.mono hw1)
      clear B1
      go_wp2_with (first | (go_at_call 17; refine (cleanS_neg _ _ _ _ _ hv).mono ?_; rintro e wn ⟨rfl, hb⟩; obtain ⟨hc, hf⟩ := bcell hb; have hz : w1.heap.size + 1 < wn.heap.size := (by have := hb.size; (try simp at this); omega); have hy : w1.heap.size < wn.heap.size := (by omega); replace BB := BB.trans (hb.mono BB.size)) | (go_at_call 16; refine (cleanI_neg _ _ _ _ _ hv).mono ?_; rintro e wn ⟨rfl, hb⟩; obtain ⟨hc, hf⟩ := bcell hb; have hz : w1.heap.size + 1 < wn.heap.size := (by have := hb.size; (try simp at this); omega); have hy : w1.heap.size < wn.heap.size := (by omega); replace BB := BB.trans (hb.mono BB.size)) | (go_at_call 13; refine (hasI_any _ _ _ _).mono ?_; rintro e wn ⟨rfl, hb⟩; obtain ⟨hc, hf⟩ := bcell hb; have hz : w1.heap.size + 1 < wn.heap.size := (by have := hb.size; (try simp at this); omega); have hy : w1.heap.size < wn.heap.size := (by omega); replace BB := BB.trans (hb.mono BB.size)) | go_in)
      all_goals go_returns
      all_goals exact ⟨by simp, BB⟩
  · go_enter Try.func4, Try.ntmps4
    go_wp2
    all_goals go_returns
    all_goals exact ⟨rfl, Below.refl _ _⟩
set_option maxRecDepth 100000 in
theorem lifted (os : Os) (started : os.Started) (H : Type) (enc : TypeId × Value → H) :
    ReturnsInHanded {} Try.checked os 4 .any (Rows.fnCleanTimeSpec.pre6 enc Try.prog Try.f4 Rows.fnCleanTimeRow.domain false) (Rows.fnCleanTimeSpec.post enc Try.prog Try.f4 false true false false) := by
  refine returnsInHanded_of_change (C := Try.checked) own started (by kernel_rfl) Try.func4
    (ChangeSpec.witness6 (enc := enc) (C := Try.checked) false ⟨#[], #[.slice none 0 0], []⟩ 8 (by kernel_rfl) (by kernel_rfl) (by kernel_rfl) (by kernel_rfl)) ?_
  intro W base args ds gs before hval0 hW hcnd _
  have hval : ∀ (j : Nat) t v, Try.f4.params[j]? = some t → args[j]? = some v → Value.okWide Try.prog W .any base t v := hval0
  have hW' := hW
  obtain ⟨p, q, hA0, hV, rfl, hfz, hnd⟩ := hW
  have hA : DataW.TrodAll enc Try.prog W 0 (fun _ => true) true Try.f4.params.toList args.toList ds p := hA0
  rw [Try.params4] at hA hval
  obtain ⟨v0, vs0, d0, ds0, p0, q0, hargs, rfl, rfl, h0, r0⟩ := trodAll_cons hA
  obtain ⟨rfl, rfl, rfl⟩ := trodAll_nil r0
  obtain rfl : args = #[v0] := by cases args; simp_all
  obtain ⟨rfl, rfl⟩ := trodVars_none hV
  have k0 := h0
  have lt0 : ∀ x ∈ p0, x.block < W.heap.size := by obtain ⟨m, hm⟩ := k0; exact DataW.trod_lt m _ _ _ hm
  obtain ⟨a0, len0, cap0, rfl⟩ := okWide_slice Try.underlying22 (hval 0 22 v0 rfl rfl)
  obtain ⟨z0, w0⟩ : ∃ zs, IsRow .u8 W a0 len0 cap0 zs := by
    obtain ⟨fuel, hf⟩ := h0
    rcases open_ints Try.underlying22 Try.underlying5 (by kernel_rfl) hf with ⟨hcs, _⟩ | ⟨x, l, c, zs, hcs, _, hl, hm, hz, hx, hcell, hwz⟩
    · simp [Value.cells] at hcs
      obtain ⟨rfl, rfl, rfl⟩ := hcs
      exact ⟨[], .inl ⟨rfl, rfl, rfl, rfl⟩⟩
    · simp [Value.cells] at hcs
      obtain ⟨rfl, rfl, rfl⟩ := hcs
      exact ⟨zs, .inr ⟨_, rfl, hl, hm, by simpa using hz, hcell, hwz⟩⟩
  clear hA0 hval0
  refine (walk a0 len0 cap0 z0 W w0).mono fun e W' ⟨he, bel⟩ => ?_
  subst he
  exact ⟨_, rfl, _, _, _, [], _, [], hW', trodAll_mk1 (shut_bool Try.underlying4 _), (trodAll_cons_mk (Below.trod laidOut (by kernel_rfl) (of_decide_eq_true (by kernel_rfl)) k0 bel lt0) trodAll_mk0), rfl, bel.frame _, fun h => by cases h⟩

theorem over : Rows.fnCleanTimeRow.holds Try.pinned (OpenSpec.ofChange Rows.fnCleanTimeSpec) :=
  OpenClaim.holds_of_wide 4 Try.f4 rfl rfl rfl rfl rfl rfl rfl ⟨rfl, rfl, rfl, rfl, rfl⟩ rfl rfl rfl rfl rfl (by kernel_rfl) Try.func4 (by kernel_rfl)
    (of_decide_eq_true (by kernel_rfl)) (by unfold Func.isWrapper; first | (rw [if_pos (by decide +kernel)]; kernel_rfl) | (rw [if_neg (by decide +kernel)]; exact ⟨rfl, rfl⟩))
    (fun os started H enc _ => lifted os started H enc)

theorem proved : Rows.FnCleanTimeSaid := over
#print axioms proved
end Go.Proofs.Ytpfcmejcgkfjmab.fnCleanTime
