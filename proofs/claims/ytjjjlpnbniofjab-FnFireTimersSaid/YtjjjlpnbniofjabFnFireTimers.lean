/- The law FnFireTimers answers true at every input and leaves its arguments as they were; no condition. -/
import Derived.Test.YtjjjlpnbniofjabRows
import Derived.WalkKit
import Derived.WalkSpells
import Derived.WalkLawsBesides
import Derived.ProofKit
import Derived.OpenShut
import Derived.ShutString
import Derived.ChangeOld
import Derived.Below
import Derived.Lib.SmallJoins
import Derived.Handy
import Derived.Test.YtjjjlpnbniofjabMay
import Derived.Test.YtjjjlpnbniofjabTmP
import Derived.Test.YtjjjlpnbniofjabApp
namespace Go.Proofs.Ytjjjlpnbniofjab.fnFireTimers
open Go.ChangeShapes Go.WideShapes Go.ChangeAt Go.RowKit Go.Joins
open Go.ChangeMaps (open_string shut_string)
set_option linter.unusedVariables false

theorem own : ownKnob Try.prog.godebug = none := by kernel_rfl
theorem laidOut : laidOutB Try.prog = true := by kernel_rfl
set_option maxRecDepth 100000 in
set_option maxHeartbeats 1000000 in
theorem walk (a0 : Option Addr) (len0 cap0 : Nat) (z0 : List Int) (w : World) (w0 : IsRow .u8 w a0 len0 cap0 z0) :
    Calls Try.prog 6 #[.slice a0 len0 cap0] w fun e w' => e = .returned (.bool true) ∧ Below w.heap.size w w' := by
  by_cases hlen : len0 ≤ 1048576
  · go_enter Try.func6, Try.ntmps6
    go_wp2_with fail
    refine (drawFireTimers_any w a0 len0 cap0 z0 w0 hlen).mono ?_
    rintro e u0 ⟨A, c, l, n, rfl, ol_0, l20, n0, n1, B0⟩
    obtain ⟨LA, hLA⟩ : ∃ L, L = fireA l n := ⟨_, rfl⟩
    obtain ⟨LB, hLB⟩ : ∃ L, L = fireB l n := ⟨_, rfl⟩
    have hI := fun W hr hc => implFire_any A c l n W hr hc
    have hS := fun W hr => specFire_any A c l n W hr
    rw [← hLA, ← hLB] at hI hS
    have hl40 : l.length ≤ 1048576 := by omega
    have hcase : (LA = [] ∧ LB = []) ∨ (0 < LA.length + LB.length ∧ LA ++ LB = l ∧ fireA LB n = [] ∧ fireB LB n = LB) := by
      rcases Bool.eq_false_or_eq_true (vTims l) with hv | hv
      · obtain ⟨f1, f2, f3⟩ := fire_again hv n
        rw [← hLA, ← hLB] at f3
        rw [← hLB] at f1 f2
        by_cases hz : LA.length + LB.length = 0
        · exact .inl ⟨List.eq_nil_of_length_eq_zero (by omega), List.eq_nil_of_length_eq_zero (by omega)⟩
        · exact .inr ⟨by omega, f3, f1, f2⟩
      · exact .inl ⟨by rw [hLA]; unfold fireA; rw [hv]; rfl, by rw [hLB]; unfold fireB; rw [hv]; rfl⟩
    have hla : LA.length ≤ 20 := by rw [hLA]; unfold fireA; split; exact Nat.le_trans (List.length_filter_le _ _) l20; simp
    have hlb : LB.length ≤ 20 := by rw [hLB]; unfold fireB; split; exact Nat.le_trans (List.length_filter_le _ _) l20; simp
    clear hLA hLB
    go_wp2_with fail
    refine (hI _ (ol_0.row TimerR.enc_len) ol_0.lenCap).mono ?_
    rintro e u1 ⟨A1, c1, A2, c2, rfl, q1, q2, -, b⟩
    have B1 := B0.trans (b.mono B0.size)
    have z1 := b.size
    have ol_1 := ol_0.keep b
    clear ol_0 b
    have oa_1 := q1
    clear q1
    have ob_1 := q2
    clear q2
    go_wp2_with fail
    refine (hS _ (ol_1.row TimerR.enc_len)).mono ?_
    rintro e u2 ⟨A3, c3, A4, c4, rfl, q1, q2, -, b⟩
    have B2 := B1.trans (b.mono B1.size)
    have z2 := b.size
    have ol_2 := ol_1.keep b
    have oa_2 := oa_1.keep b
    have ob_2 := ob_1.keep b
    clear ol_1 oa_1 ob_1 b
    have oc_2 := q1
    clear q1
    have od_2 := q2
    clear q2
    go_wp2_with fail
    refine (equalTimers_same A1 A3 c1 c3 LA _ (oa_2.row TimerR.enc_len) (oc_2.row TimerR.enc_len)).mono ?_
    rintro e u3 ⟨rfl, b⟩
    have B3 := B2.trans (b.mono B2.size)
    have z3 := b.size
    have ol_3 := ol_2.keep b
    have oa_3 := oa_2.keep b
    have ob_3 := ob_2.keep b
    have oc_3 := oc_2.keep b
    have od_3 := od_2.keep b
    clear ol_2 oa_2 ob_2 oc_2 od_2 b
    go_wp2_with fail
    refine (equalTimers_same A2 A4 c2 c4 LB _ (ob_3.row TimerR.enc_len) (od_3.row TimerR.enc_len)).mono ?_
    rintro e u4 ⟨rfl, b⟩
    have B4 := B3.trans (b.mono B3.size)
    have z4 := b.size
    have ol_4 := ol_3.keep b
    have oa_4 := oa_3.keep b
    have ob_4 := ob_3.keep b
    have oc_4 := oc_3.keep b
    have od_4 := od_3.keep b
    clear ol_3 oa_3 ob_3 oc_3 od_3 b
    rcases hcase with ⟨h1, h2⟩ | ⟨hpos, happ, hf1, hf2⟩
    · have hz : ((LA.length : Int) + (LB.length : Int) == 0) = true := by rw [h1, h2]; rfl
      have H1 := Lib.hid h1
      have H2 := Lib.hid h2
      clear h1 h2
      go_wp2_with fail
      refine (equalTimers_same A1 A3 c1 c3 LA _ (oa_4.row TimerR.enc_len) (oc_4.row TimerR.enc_len)).mono ?_
      rintro e u5 ⟨rfl, b⟩
      have B5 := B4.trans (b.mono B4.size)
      have z5 := b.size
      have ol_5 := ol_4.keep b
      have oa_5 := oa_4.keep b
      have ob_5 := ob_4.keep b
      have oc_5 := oc_4.keep b
      have od_5 := od_4.keep b
      clear ol_4 oa_4 ob_4 oc_4 od_4 b
      go_wp2_with fail
      refine (equalTimers_same A2 A4 c2 c4 LB _ (ob_5.row TimerR.enc_len) (od_5.row TimerR.enc_len)).mono ?_
      rintro e u6 ⟨rfl, b⟩
      have B6 := B5.trans (b.mono B5.size)
      have z6 := b.size
      have ol_6 := ol_5.keep b
      have oa_6 := oa_5.keep b
      have ob_6 := ob_5.keep b
      have oc_6 := oc_5.keep b
      have od_6 := od_5.keep b
      clear ol_5 oa_5 ob_5 oc_5 od_5 b
      go_wp2
      all_goals go_returns
      all_goals exact ⟨ret_bool (by first | rfl | simp), B6⟩
    · have hz : ((LA.length : Int) + (LB.length : Int) == 0) = false := by simp; omega
      have hJ := fun W hr hc => implFire_any A2 c2 LB n W hr hc
      rw [hf1, hf2] at hJ
      have Happ := Lib.hid happ
      clear hf1 hf2 happ
      go_wp2_with fail
      refine (hJ _ (ob_4.row TimerR.enc_len) ob_4.lenCap).mono ?_
      rintro e u5 ⟨A5, c5, A6, c6, rfl, q1, q2, -, b⟩
      have B5 := B4.trans (b.mono B4.size)
      have z5 := b.size
      have ol_5 := ol_4.keep b
      have oa_5 := oa_4.keep b
      have ob_5 := ob_4.keep b
      have oc_5 := oc_4.keep b
      have od_5 := od_4.keep b
      clear ol_4 oa_4 ob_4 oc_4 od_4 b
      have oe_5 := q1
      clear q1
      have of_5 := q2
      clear q2
      obtain ⟨i0, hi0, hz0, hz1, hz2⟩ := info_parts TimerR.zero_info
      have Hacc0 := Lib.hid (acc_made TimerR.enc 3 25 (Below.refl u5.heap.size u5))
      have ra := (oa_5.row TimerR.enc_len)
      have rb := (ob_5.row TimerR.enc_len)
      have bA0 : Below u5.heap.size u5 (u5.alloc (.cells #[] 25)) := (Below.refl _ _).alloc (Nat.le_refl _) _
      go_wp2_with (first | (at_builtin; (refine wpList_append_row rfl _ _ 23 rfl i0 _ 24 Try.underlying23 hi0 hz0 hz1 hz2 rfl (by decide) (by decide) _ ([]) rfl Hacc0.out A1 LA.length c1 LA rfl rfl (ra.keep bA0) TimerR.enc_len (by intro x u hu; simp [TimerR.enc] at hu; rcases hu with rfl | rfl | rfl <;> rfl) (by simp; omega) ?_; intro v1 y1 hacc1 _ _)) | (at_builtin; (refine wpList_append_row rfl _ _ 23 rfl i0 _ 24 Try.underlying23 hi0 hz0 hz1 hz2 rfl (by decide) (by decide) _ ([] ++ LA) rfl hacc1 A2 LB.length c2 LB rfl rfl (rb.keep hacc1.2) TimerR.enc_len (by intro x u hu; simp [TimerR.enc] at hu; rcases hu with rfl | rfl | rfl <;> rfl) (by simp; omega) ?_; intro v2 y2 hacc2 _ _)) | fail)
      rw [List.nil_append, Happ.out] at hacc2
      have b := hacc2.2
      have h9 : Own TimerR.enc 3 25 y2 u5.heap.size v2 l := ⟨hl40, hacc2.1⟩
      obtain ⟨A9, c9, rfl⟩ := h9.form
      clear hacc1 hacc2 Hacc0 bA0
      have yy : ∃ v, v = y2 := ⟨_, rfl⟩
      obtain ⟨u6, hu⟩ := yy
      rw [← hu] at b h9 ⊢
      clear hu
      have B6 := B5.trans (b.mono B5.size)
      have z6 := b.size
      have ol_6 := ol_5.keep b
      have oa_6 := oa_5.keep b
      have ob_6 := ob_5.keep b
      have oc_6 := oc_5.keep b
      have od_6 := od_5.keep b
      have oe_6 := oe_5.keep b
      have of_6 := of_5.keep b
      clear ol_5 oa_5 ob_5 oc_5 od_5 oe_5 of_5 b
      have og_6 := h9
      clear h9
      refine (equalTimers_same A9 A c9 c l _ (og_6.row TimerR.enc_len) (ol_6.row TimerR.enc_len)).mono ?_
      rintro e u7 ⟨rfl, b⟩
      have B7 := B6.trans (b.mono B6.size)
      have z7 := b.size
      have ol_7 := ol_6.keep b
      have oa_7 := oa_6.keep b
      have ob_7 := ob_6.keep b
      have oc_7 := oc_6.keep b
      have od_7 := od_6.keep b
      have oe_7 := oe_6.keep b
      have of_7 := of_6.keep b
      have og_7 := og_6.keep b
      clear ol_6 oa_6 ob_6 oc_6 od_6 oe_6 of_6 og_6 b
      go_wp2_with fail
      refine (equalTimers_same A6 A2 c6 c2 LB _ (of_7.row TimerR.enc_len) (ob_7.row TimerR.enc_len)).mono ?_
      rintro e u8 ⟨rfl, b⟩
      have B8 := B7.trans (b.mono B7.size)
      have z8 := b.size
      have ol_8 := ol_7.keep b
      have oa_8 := oa_7.keep b
      have ob_8 := ob_7.keep b
      have oc_8 := oc_7.keep b
      have od_8 := od_7.keep b
      have oe_8 := oe_7.keep b
      have of_8 := of_7.keep b
      have og_8 := og_7.keep b
      clear ol_7 oa_7 ob_7 oc_7 od_7 oe_7 of_7 og_7 b
      go_wp2
      all_goals go_returns
      all_goals exact ⟨ret_bool (by first | rfl | simp), B8⟩
  · go_enter Try.func6, Try.ntmps6
    go_wp2
    all_goals go_returns
    all_goals exact ⟨rfl, Below.refl _ _⟩
set_option maxRecDepth 100000 in
theorem lifted (os : Os) (started : os.Started) (H : Type) (enc : TypeId × Value → H) :
    ReturnsInHanded {} Try.checked os 6 .any (Rows.fnFireTimersSpec.pre6 enc Try.prog Try.f6 Rows.fnFireTimersRow.domain false) (Rows.fnFireTimersSpec.post enc Try.prog Try.f6 false true false false) := by
  refine returnsInHanded_of_change (C := Try.checked) own started (by kernel_rfl) Try.func6
    (ChangeSpec.witness6 (enc := enc) (C := Try.checked) false ⟨#[], #[.slice none 0 0], []⟩ 8 (by kernel_rfl) (by kernel_rfl) (by kernel_rfl) (by kernel_rfl)) ?_
  intro W base args ds gs before hval0 hW hcnd _
  have hval : ∀ (j : Nat) t v, Try.f6.params[j]? = some t → args[j]? = some v → Value.okWide Try.prog W .any base t v := hval0
  have hW' := hW
  obtain ⟨p, q, hA0, hV, rfl, hfz, hnd⟩ := hW
  have hA : DataW.TrodAll enc Try.prog W 0 (fun _ => true) true Try.f6.params.toList args.toList ds p := hA0
  rw [Try.params6] at hA hval
  obtain ⟨v0, vs0, d0, ds0, p0, q0, hargs, rfl, rfl, h0, r0⟩ := trodAll_cons hA
  obtain ⟨rfl, rfl, rfl⟩ := trodAll_nil r0
  obtain rfl : args = #[v0] := by cases args; simp_all
  obtain ⟨rfl, rfl⟩ := trodVars_none hV
  have k0 := h0
  have lt0 : ∀ x ∈ p0, x.block < W.heap.size := by obtain ⟨m, hm⟩ := k0; exact DataW.trod_lt m _ _ _ hm
  obtain ⟨a0, len0, cap0, rfl⟩ := okWide_slice Try.underlying22 (hval 0 22 v0 rfl rfl)
  obtain ⟨z0, w0⟩ : ∃ zs, IsRow .u8 W a0 len0 cap0 zs := by
    obtain ⟨fuel, hf⟩ := h0
    rcases open_ints Try.underlying22 Try.underlying5 (by kernel_rfl) hf with ⟨hcs, _⟩ | ⟨x, l, c, zs, hcs, _, hl, hm, hz, hx, hcell, hwz⟩
    · simp [Value.cells] at hcs
      obtain ⟨rfl, rfl, rfl⟩ := hcs
      exact ⟨[], .inl ⟨rfl, rfl, rfl, rfl⟩⟩
    · simp [Value.cells] at hcs
      obtain ⟨rfl, rfl, rfl⟩ := hcs
      exact ⟨zs, .inr ⟨_, rfl, hl, hm, by simpa using hz, hcell, hwz⟩⟩
  clear hA0 hval0
  refine (walk a0 len0 cap0 z0 W w0).mono fun e W' ⟨he, bel⟩ => ?_
  subst he
  exact ⟨_, rfl, _, _, _, [], _, [], hW', trodAll_mk1 (shut_bool Try.underlying4 _), (trodAll_cons_mk (Below.trod laidOut (by kernel_rfl) (of_decide_eq_true (by kernel_rfl)) k0 bel lt0) trodAll_mk0), rfl, bel.frame _, fun h => by cases h⟩

theorem closed : joinedFacts Try.checked.prog 6 Try.f6 Rows.fnFireTimersSpec Rows.fnFireTimersRow = true := by
  unfold joinedFacts
  rw [mayE, liftE, makeE]
  kernel_rfl

theorem over : Rows.fnFireTimersRow.holds Try.pinned (OpenSpec.ofChange Rows.fnFireTimersSpec) :=
  OpenClaim.holds_of_wide 6 Try.f6 rfl rfl rfl rfl rfl rfl rfl ⟨rfl, rfl, rfl, rfl, rfl⟩ rfl rfl rfl rfl rfl (by kernel_rfl) Try.func6 closed
    (of_decide_eq_true (by kernel_rfl)) (by unfold Func.isWrapper; first | (rw [if_pos (by decide +kernel)]; kernel_rfl) | (rw [if_neg (by decide +kernel)]; exact ⟨rfl, rfl⟩))
    (fun os started H enc _ => lifted os started H enc)

theorem proved : Rows.FnFireTimersSaid := over
#print axioms proved
end Go.Proofs.Ytjjjlpnbniofjab.fnFireTimers
