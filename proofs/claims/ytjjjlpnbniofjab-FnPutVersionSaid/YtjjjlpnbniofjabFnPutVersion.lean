/- The law FnPutVersion answers true at every input and leaves its arguments as they were; no condition. -/
import Derived.Test.YtjjjlpnbniofjabRows
import Derived.WalkKit
import Derived.WalkSpells
import Derived.WalkLawsBesides
import Derived.ProofKit
import Derived.OpenShut
import Derived.ShutString
import Derived.ChangeOld
import Derived.Below
import Derived.Lib.SmallJoins
import Derived.Handy
import Derived.Test.YtjjjlpnbniofjabMay
import Derived.Test.YtjjjlpnbniofjabVnP
namespace Go.Proofs.Ytjjjlpnbniofjab.fnPutVersion
open Go.ChangeShapes Go.WideShapes Go.ChangeAt Go.RowKit Go.Joins
open Go.ChangeMaps (open_string shut_string)
set_option linter.unusedVariables false

theorem own : ownKnob Try.prog.godebug = none := by kernel_rfl
theorem laidOut : laidOutB Try.prog = true := by kernel_rfl
set_option maxRecDepth 100000 in
set_option maxHeartbeats 4000000 in
theorem walk (a0 : Option Addr) (len0 cap0 : Nat) (z0 : List Int) (w : World) (w0 : IsRow .u8 w a0 len0 cap0 z0) :
    Calls Try.prog 8 #[.slice a0 len0 cap0] w fun e w' => e = .returned (.bool true) ∧ Below w.heap.size w w' := by
  by_cases hlen : len0 ≤ 1048576
  · go_enter Try.func8, Try.ntmps8
    go_wp2_with fail
    refine (drawPutVersion_any w a0 len0 cap0 z0 w0 hlen).mono ?_
    rintro e u0 ⟨A, c, l, x, rfl, ol_0, l40, B0⟩
    obtain ⟨U, hU⟩ : ∃ L, L = putF l x := ⟨_, rfl⟩
    have hI := fun W hr hc => implPut_any A c l x W hr hc
    have hS := fun W hr => specPut_any A c l x W hr
    rw [← hU] at hI hS
    have HU := Lib.hid hU
    clear hU
    have hl41 : l.length ≤ 1048576 := by omega
    have bv : Below u0.heap.size u0 (u0.alloc (.cells #[.int .i64 x.a0, .int .i64 x.a1, .int .i64 x.a2] 39)) := (Below.refl _ _).alloc (Nat.le_refl _) _
    have nb := Bo.made u0 #[.int .i64 x.a0, .int .i64 x.a1, .int .i64 x.a2] 39
    have zgC : u0.heap.size < (u0.alloc (.cells #[.int .i64 x.a0, .int .i64 x.a1, .int .i64 x.a2] 39)).heap.size := by simp
    have B1 := B0.trans (bv.mono B0.size)
    have z1 := bv.size
    have ol_1 := ol_0.keep bv
    clear ol_0 bv
    have C_1 := nb
    clear nb
    go_wp2_with fail
    generalize (u0.alloc (.cells #[.int .i64 x.a0, .int .i64 x.a1, .int .i64 x.a2] 39)) = u1 at *
    rcases Bool.eq_false_or_eq_true (putK l x) with hk | hk
    · have HK := Lib.hid hk
      rw [hk] at hI hS
      clear hk
      have pC0 := C_1.1 0 _ rfl
      have pC1 := C_1.1 1 _ rfl
      have pC2 := C_1.1 2 _ rfl
      have plC := C_1.2
      go_wp2_with fail
      clear pC0 pC1 pC2 plC
      refine (hI _ (ol_1.row VersionR.enc_len) ol_1.lenCap).mono ?_
      rintro e u2 ⟨A1, c1, rfl, q1, b⟩
      have B2 := B1.trans (b.mono B1.size)
      have z2 := b.size
      have C_2 := C_1.keep b
      have ol_2 := ol_1.keep b
      clear C_1 ol_1 b
      have oa_2 := q1
      clear q1
      have pC0 := C_2.1 0 _ rfl
      have pC1 := C_2.1 1 _ rfl
      have pC2 := C_2.1 2 _ rfl
      have plC := C_2.2
      go_wp2_with fail
      clear pC0 pC1 pC2 plC
      refine (hS _ (ol_2.row VersionR.enc_len)).mono ?_
      rintro e u3 ⟨A2, c2, rfl, q1, b⟩
      have B3 := B2.trans (b.mono B2.size)
      have z3 := b.size
      have C_3 := C_2.keep b
      have ol_3 := ol_2.keep b
      have oa_3 := oa_2.keep b
      clear C_2 ol_2 oa_2 b
      have ob_3 := q1
      clear q1
      go_wp2_with fail
      refine (equalVersions_same A1 A2 c1 c2 U _ (oa_3.row VersionR.enc_len) (ob_3.row VersionR.enc_len)).mono ?_
      rintro e u4 ⟨rfl, b⟩
      have B4 := B3.trans (b.mono B3.size)
      have z4 := b.size
      have C_4 := C_3.keep b
      have ol_4 := ol_3.keep b
      have oa_4 := oa_3.keep b
      have ob_4 := ob_3.keep b
      clear C_3 ol_3 oa_3 ob_3 b
      have hf := put_facts HK.out
      rw [← HU.out] at hf
      have hbd := ver_bd2 HK.out
      have hok := put_ok HK.out
      rw [← HU.out] at hok
      have hwn : IntKind.i64.wrap (x.a1 - 1) = x.a1 - 1 := IntWalk.i64_in _ (by omega)
      have hV := fun W hr => implVer_any A1 c1 U x.a0 x.a1 W hr
      rw [hf.1, hf.2.1] at hV
      have hX := fun W hr => implVer_any A c l x.a0 (x.a1 - 1) W hr
      have hY := fun W hr => implVer_any A1 c1 U x.a0 (x.a1 - 1) W hr
      rw [← hf.2.2.1, ← hf.2.2.2.1] at hY
      have hJ := fun W hr hc => implPut_any A1 c1 U x W hr hc
      rw [hok.2.2.2.1, hok.2.2.2.2] at hJ
      clear hf hok
      generalize verF l x.a0 (x.a1 - 1) = p1 at *
      generalize verK l x.a0 (x.a1 - 1) = p2 at *
      have pC0 := C_4.1 0 _ rfl
      have pC1 := C_4.1 1 _ rfl
      have pC2 := C_4.1 2 _ rfl
      have plC := C_4.2
      go_wp2_with fail
      clear pC0 pC1 pC2 plC
      refine (hV _ (oa_4.row VersionR.enc_len)).mono ?_
      rintro e u5 ⟨rfl, b⟩
      have B5 := B4.trans (b.mono B4.size)
      have z5 := b.size
      have C_5 := C_4.keep b
      have ol_5 := ol_4.keep b
      have oa_5 := oa_4.keep b
      have ob_5 := ob_4.keep b
      clear C_4 ol_4 oa_4 ob_4 b
      have pC0 := C_5.1 0 _ rfl
      have pC1 := C_5.1 1 _ rfl
      have pC2 := C_5.1 2 _ rfl
      have plC := C_5.2
      go_wp2_with fail
      clear pC0 pC1 pC2 plC
      refine (hX _ (ol_5.row VersionR.enc_len)).mono ?_
      rintro e u6 ⟨rfl, b⟩
      have B6 := B5.trans (b.mono B5.size)
      have z6 := b.size
      have C_6 := C_5.keep b
      have ol_6 := ol_5.keep b
      have oa_6 := oa_5.keep b
      have ob_6 := ob_5.keep b
      clear C_5 ol_5 oa_5 ob_5 b
      have pC0 := C_6.1 0 _ rfl
      have pC1 := C_6.1 1 _ rfl
      have pC2 := C_6.1 2 _ rfl
      have plC := C_6.2
      go_wp2_with fail
      clear pC0 pC1 pC2 plC
      refine (hY _ (oa_6.row VersionR.enc_len)).mono ?_
      rintro e u7 ⟨rfl, b⟩
      have B7 := B6.trans (b.mono B6.size)
      have z7 := b.size
      have C_7 := C_6.keep b
      have ol_7 := ol_6.keep b
      have oa_7 := oa_6.keep b
      have ob_7 := ob_6.keep b
      clear C_6 ol_6 oa_6 ob_6 b
      have pC0 := C_7.1 0 _ rfl
      have pC1 := C_7.1 1 _ rfl
      have pC2 := C_7.1 2 _ rfl
      have plC := C_7.2
      go_wp2_with fail
      clear pC0 pC1 pC2 plC
      refine (hJ _ (oa_7.row VersionR.enc_len) oa_7.lenCap).mono ?_
      rintro e u8 ⟨A3, c3, rfl, q1, b⟩
      have B8 := B7.trans (b.mono B7.size)
      have z8 := b.size
      have C_8 := C_7.keep b
      have ol_8 := ol_7.keep b
      have oa_8 := oa_7.keep b
      have ob_8 := ob_7.keep b
      clear C_7 ol_7 oa_7 ob_7 b
      have oc_8 := q1
      clear q1
      clear hV hX hY hJ
      have pC0 := C_8.1 0 _ rfl
      have pC1 := C_8.1 1 _ rfl
      have pC2 := C_8.1 2 _ rfl
      have plC := C_8.2
      go_wp2_with fail
      clear pC0 pC1 pC2 plC
      refine (equalVersions_same A3 A1 c3 c1 U _ (oc_8.row VersionR.enc_len) (oa_8.row VersionR.enc_len)).mono ?_
      rintro e u9 ⟨rfl, b⟩
      have B9 := B8.trans (b.mono B8.size)
      have z9 := b.size
      have C_9 := C_8.keep b
      have ol_9 := ol_8.keep b
      have oa_9 := oa_8.keep b
      have ob_9 := ob_8.keep b
      have oc_9 := oc_8.keep b
      clear C_8 ol_8 oa_8 ob_8 oc_8 b
      go_wp2
      all_goals go_returns
      all_goals exact ⟨ret_bool (by first | rfl | simp), B9⟩
    · have HK := Lib.hid hk
      rw [hk] at hI hS
      clear hk
      have pC0 := C_1.1 0 _ rfl
      have pC1 := C_1.1 1 _ rfl
      have pC2 := C_1.1 2 _ rfl
      have plC := C_1.2
      go_wp2_with fail
      clear pC0 pC1 pC2 plC
      refine (hI _ (ol_1.row VersionR.enc_len) ol_1.lenCap).mono ?_
      rintro e u2 ⟨A1, c1, rfl, q1, b⟩
      have B2 := B1.trans (b.mono B1.size)
      have z2 := b.size
      have C_2 := C_1.keep b
      have ol_2 := ol_1.keep b
      clear C_1 ol_1 b
      have oa_2 := q1
      clear q1
      have pC0 := C_2.1 0 _ rfl
      have pC1 := C_2.1 1 _ rfl
      have pC2 := C_2.1 2 _ rfl
      have plC := C_2.2
      go_wp2_with fail
      clear pC0 pC1 pC2 plC
      refine (hS _ (ol_2.row VersionR.enc_len)).mono ?_
      rintro e u3 ⟨A2, c2, rfl, q1, b⟩
      have B3 := B2.trans (b.mono B2.size)
      have z3 := b.size
      have C_3 := C_2.keep b
      have ol_3 := ol_2.keep b
      have oa_3 := oa_2.keep b
      clear C_2 ol_2 oa_2 b
      have ob_3 := q1
      clear q1
      go_wp2_with fail
      refine (equalVersions_same A1 A2 c1 c2 U _ (oa_3.row VersionR.enc_len) (ob_3.row VersionR.enc_len)).mono ?_
      rintro e u4 ⟨rfl, b⟩
      have B4 := B3.trans (b.mono B3.size)
      have z4 := b.size
      have C_4 := C_3.keep b
      have ol_4 := ol_3.keep b
      have oa_4 := oa_3.keep b
      have ob_4 := ob_3.keep b
      clear C_3 ol_3 oa_3 ob_3 b
      go_wp2_with fail
      refine (equalVersions_same A1 A2 c1 c2 U _ (oa_4.row VersionR.enc_len) (ob_4.row VersionR.enc_len)).mono ?_
      rintro e u5 ⟨rfl, b⟩
      have B5 := B4.trans (b.mono B4.size)
      have z5 := b.size
      have C_5 := C_4.keep b
      have ol_5 := ol_4.keep b
      have oa_5 := oa_4.keep b
      have ob_5 := ob_4.keep b
      clear C_4 ol_4 oa_4 ob_4 b
      go_wp2
      all_goals go_returns
      all_goals exact ⟨ret_bool (by first | rfl | simp), B5⟩
  · go_enter Try.func8, Try.ntmps8
    go_wp2
    all_goals go_returns
    all_goals exact ⟨rfl, Below.refl _ _⟩
set_option maxRecDepth 100000 in
theorem lifted (os : Os) (started : os.Started) (H : Type) (enc : TypeId × Value → H) :
    ReturnsInHanded {} Try.checked os 8 .any (Rows.fnPutVersionSpec.pre6 enc Try.prog Try.f8 Rows.fnPutVersionRow.domain false) (Rows.fnPutVersionSpec.post enc Try.prog Try.f8 false true false false) := by
  refine returnsInHanded_of_change (C := Try.checked) own started (by kernel_rfl) Try.func8
    (ChangeSpec.witness6 (enc := enc) (C := Try.checked) false ⟨#[], #[.slice none 0 0], []⟩ 8 (by kernel_rfl) (by kernel_rfl) (by kernel_rfl) (by kernel_rfl)) ?_
  intro W base args ds gs before hval0 hW hcnd _
  have hval : ∀ (j : Nat) t v, Try.f8.params[j]? = some t → args[j]? = some v → Value.okWide Try.prog W .any base t v := hval0
  have hW' := hW
  obtain ⟨p, q, hA0, hV, rfl, hfz, hnd⟩ := hW
  have hA : DataW.TrodAll enc Try.prog W 0 (fun _ => true) true Try.f8.params.toList args.toList ds p := hA0
  rw [Try.params8] at hA hval
  obtain ⟨v0, vs0, d0, ds0, p0, q0, hargs, rfl, rfl, h0, r0⟩ := trodAll_cons hA
  obtain ⟨rfl, rfl, rfl⟩ := trodAll_nil r0
  obtain rfl : args = #[v0] := by cases args; simp_all
  obtain ⟨rfl, rfl⟩ := trodVars_none hV
  have k0 := h0
  have lt0 : ∀ x ∈ p0, x.block < W.heap.size := by obtain ⟨m, hm⟩ := k0; exact DataW.trod_lt m _ _ _ hm
  obtain ⟨a0, len0, cap0, rfl⟩ := okWide_slice Try.underlying22 (hval 0 22 v0 rfl rfl)
  obtain ⟨z0, w0⟩ : ∃ zs, IsRow .u8 W a0 len0 cap0 zs := by
    obtain ⟨fuel, hf⟩ := h0
    rcases open_ints Try.underlying22 Try.underlying5 (by kernel_rfl) hf with ⟨hcs, _⟩ | ⟨x, l, c, zs, hcs, _, hl, hm, hz, hx, hcell, hwz⟩
    · simp [Value.cells] at hcs
      obtain ⟨rfl, rfl, rfl⟩ := hcs
      exact ⟨[], .inl ⟨rfl, rfl, rfl, rfl⟩⟩
    · simp [Value.cells] at hcs
      obtain ⟨rfl, rfl, rfl⟩ := hcs
      exact ⟨zs, .inr ⟨_, rfl, hl, hm, by simpa using hz, hcell, hwz⟩⟩
  clear hA0 hval0
  refine (walk a0 len0 cap0 z0 W w0).mono fun e W' ⟨he, bel⟩ => ?_
  subst he
  exact ⟨_, rfl, _, _, _, [], _, [], hW', trodAll_mk1 (shut_bool Try.underlying4 _), (trodAll_cons_mk (Below.trod laidOut (by kernel_rfl) (of_decide_eq_true (by kernel_rfl)) k0 bel lt0) trodAll_mk0), rfl, bel.frame _, fun h => by cases h⟩

theorem closed : joinedFacts Try.checked.prog 8 Try.f8 Rows.fnPutVersionSpec Rows.fnPutVersionRow = true := by
  unfold joinedFacts
  rw [mayE, liftE, makeE]
  kernel_rfl

theorem over : Rows.fnPutVersionRow.holds Try.pinned (OpenSpec.ofChange Rows.fnPutVersionSpec) :=
  OpenClaim.holds_of_wide 8 Try.f8 rfl rfl rfl rfl rfl rfl rfl ⟨rfl, rfl, rfl, rfl, rfl⟩ rfl rfl rfl rfl rfl (by kernel_rfl) Try.func8 closed
    (of_decide_eq_true (by kernel_rfl)) (by unfold Func.isWrapper; first | (rw [if_pos (by decide +kernel)]; kernel_rfl) | (rw [if_neg (by decide +kernel)]; exact ⟨rfl, rfl⟩))
    (fun os started H enc _ => lifted os started H enc)

theorem proved : Rows.FnPutVersionSaid := over
#print axioms proved
end Go.Proofs.Ytjjjlpnbniofjab.fnPutVersion
