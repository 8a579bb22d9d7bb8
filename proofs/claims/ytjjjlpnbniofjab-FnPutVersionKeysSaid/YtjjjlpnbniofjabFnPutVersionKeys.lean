/- The law FnPutVersionKeys answers true at every input and leaves its arguments as they were; no condition. -/
import Derived.Test.YtjjjlpnbniofjabRows
import Derived.WalkKit
import Derived.WalkSpells
import Derived.WalkLawsBesides
import Derived.ProofKit
import Derived.OpenShut
import Derived.ShutString
import Derived.ChangeOld
import Derived.Below
import Derived.Lib.SmallJoins
import Derived.Handy
import Derived.Test.YtjjjlpnbniofjabMay
import Derived.Test.YtjjjlpnbniofjabVnP
namespace Go.Proofs.Ytjjjlpnbniofjab.fnPutVersionKeys
open Go.ChangeShapes Go.WideShapes Go.ChangeAt Go.RowKit Go.Joins
open Go.ChangeMaps (open_string shut_string)
set_option linter.unusedVariables false

theorem own : ownKnob Try.prog.godebug = none := by kernel_rfl
theorem laidOut : laidOutB Try.prog = true := by kernel_rfl
set_option maxRecDepth 100000 in
set_option maxHeartbeats 4000000 in
theorem walk (a0 : Option Addr) (len0 cap0 : Nat) (z0 : List Int) (w : World) (w0 : IsRow .u8 w a0 len0 cap0 z0) :
    Calls Try.prog 9 #[.slice a0 len0 cap0] w fun e w' => e = .returned (.bool true) ∧ Below w.heap.size w w' := by
  by_cases hlen : len0 ≤ 1048576
  · go_enter Try.func9, Try.ntmps9
    go_wp2_with fail
    refine (drawPutVersion_any w a0 len0 cap0 z0 w0 hlen).mono ?_
    rintro e u0 ⟨A, c, l, x, rfl, ol_0, l40, B0⟩
    obtain ⟨U, hU⟩ : ∃ L, L = putF l x := ⟨_, rfl⟩
    have hI := fun W hr hc => implPut_any A c l x W hr hc
    have hS := fun W hr => specPut_any A c l x W hr
    rw [← hU] at hI hS
    have HU := Lib.hid hU
    clear hU
    have hl41 : l.length ≤ 1048576 := by omega
    have bv : Below u0.heap.size u0 (u0.alloc (.cells #[.int .i64 x.a0, .int .i64 x.a1, .int .i64 x.a2] 39)) := (Below.refl _ _).alloc (Nat.le_refl _) _
    have nb := Bo.made u0 #[.int .i64 x.a0, .int .i64 x.a1, .int .i64 x.a2] 39
    have zgC : u0.heap.size < (u0.alloc (.cells #[.int .i64 x.a0, .int .i64 x.a1, .int .i64 x.a2] 39)).heap.size := by simp
    have B1 := B0.trans (bv.mono B0.size)
    have z1 := bv.size
    have ol_1 := ol_0.keep bv
    clear ol_0 bv
    have C_1 := nb
    clear nb
    go_wp2_with fail
    generalize (u0.alloc (.cells #[.int .i64 x.a0, .int .i64 x.a1, .int .i64 x.a2] 39)) = u1 at *
    rcases Bool.eq_false_or_eq_true (putK l x) with hk | hk
    · have HK := Lib.hid hk
      rw [hk] at hI hS
      clear hk
      have pC0 := C_1.1 0 _ rfl
      have pC1 := C_1.1 1 _ rfl
      have pC2 := C_1.1 2 _ rfl
      have plC := C_1.2
      go_wp2_with fail
      clear pC0 pC1 pC2 plC
      refine (hI _ (ol_1.row VersionR.enc_len) ol_1.lenCap).mono ?_
      rintro e u2 ⟨A1, c1, rfl, q1, b⟩
      have B2 := B1.trans (b.mono B1.size)
      have z2 := b.size
      have C_2 := C_1.keep b
      have ol_2 := ol_1.keep b
      clear C_1 ol_1 b
      have oa_2 := q1
      clear q1
      have pC0 := C_2.1 0 _ rfl
      have pC1 := C_2.1 1 _ rfl
      have pC2 := C_2.1 2 _ rfl
      have plC := C_2.2
      go_wp2_with fail
      clear pC0 pC1 pC2 plC
      refine (hS _ (ol_2.row VersionR.enc_len)).mono ?_
      rintro e u3 ⟨A2, c2, rfl, q1, b⟩
      have B3 := B2.trans (b.mono B2.size)
      have z3 := b.size
      have C_3 := C_2.keep b
      have ol_3 := ol_2.keep b
      have oa_3 := oa_2.keep b
      clear C_2 ol_2 oa_2 b
      have ob_3 := q1
      clear q1
      go_wp2_with fail
      refine (equalVersions_same A1 A2 c1 c2 U _ (oa_3.row VersionR.enc_len) (ob_3.row VersionR.enc_len)).mono ?_
      rintro e u4 ⟨rfl, b⟩
      have B4 := B3.trans (b.mono B3.size)
      have z4 := b.size
      have C_4 := C_3.keep b
      have ol_4 := ol_3.keep b
      have oa_4 := oa_3.keep b
      have ob_4 := ob_3.keep b
      clear C_3 ol_3 oa_3 ob_3 b
      have hf := put_facts HK.out
      rw [← HU.out] at hf
      have hbd := ver_bd2 HK.out
      go_wp2_with fail
      go_loopw [9] (fun i wr => ∃ k : Nat, k ≤ 6 ∧ i = .int .i64 k ∧ Below u4.heap.size u4 wr) (fun i _ => 6 - (intOf i).toNat)
      case atStart => exact ⟨0, Nat.zero_le _, rfl, Below.refl _ _⟩
      case round =>
        obtain ⟨k, hk, rfl, hbw⟩ := hrel
        by_cases hlt : k < 6
        · have RL := (ol_4.row VersionR.enc_len).keep hbw
          have RO := (oa_4.row VersionR.enc_len).keep hbw
          have C2 := C_4.keep hbw
          have hX := fun W hr => implVer_any A c l k 30 W hr
          have hY := fun W hr => implVer_any A1 c1 U k 30 W hr
          by_cases hke : (k : Int) = x.a0
          · have hne : ((k : Int) != x.a0) = false := by simp [hke]
            generalize verF l (k : Int) 30 = p1 at *
            generalize verK l (k : Int) 30 = p2 at *
            generalize verF U (k : Int) 30 = p3 at *
            generalize verK U (k : Int) 30 = p4 at *
            clear hke hf
            go_wp2_with fail
            refine (hX _ RL).mono ?_
            rintro e y1 ⟨rfl, b1⟩
            go_wp2_with fail
            refine (hY _ (RO.keep b1)).mono ?_
            rintro e y2 ⟨rfl, b2⟩
            have b12 := b1.trans (b2.mono b1.size)
            have C3 := C2.keep b12
            have hbw1 := hbw.trans (b12.mono hbw.size)
            have pC0 := C3.1 0 _ rfl
            clear b1 b2 b12 C2 RL RO hX hY
            go_wp2
            go_roundw
            case rel => exact ⟨k + 1, by omega, by go_num, hbw1⟩
            case measure => simp [intOf]; omega
          · have hne : ((k : Int) != x.a0) = true := by simp [hke]
            have he := hf.2.2.2.2 (k : Int) 30 hke
            rw [← he.1, ← he.2] at hY
            generalize verF l (k : Int) 30 = p1 at *
            generalize verK l (k : Int) 30 = p2 at *
            clear he hke hf
            go_wp2_with fail
            refine (hX _ RL).mono ?_
            rintro e y1 ⟨rfl, b1⟩
            go_wp2_with fail
            refine (hY _ (RO.keep b1)).mono ?_
            rintro e y2 ⟨rfl, b2⟩
            have b12 := b1.trans (b2.mono b1.size)
            have C3 := C2.keep b12
            have hbw1 := hbw.trans (b12.mono hbw.size)
            have pC0 := C3.1 0 _ rfl
            clear b1 b2 b12 C2 RL RO hX hY
            go_wp2
            go_roundw
            case rel => exact ⟨k + 1, by omega, by go_num, hbw1⟩
            case measure => simp [intOf]; omega
        · have bl := hbw
          have wr_eq : ∃ v, v = wr := ⟨_, rfl⟩
          obtain ⟨u5, hu⟩ := wr_eq
          rw [← hu] at bl ⊢
          clear hu hbw
          have B5 := B4.trans (bl.mono B4.size)
          have z5 := bl.size
          have C_5 := C_4.keep bl
          have ol_5 := ol_4.keep bl
          have oa_5 := oa_4.keep bl
          have ob_5 := ob_4.keep bl
          clear C_4 ol_4 oa_4 ob_4 bl
          go_wp2
          all_goals go_returns
          all_goals exact ⟨ret_bool (by first | rfl | simp), B5⟩
    · have HK := Lib.hid hk
      rw [hk] at hI hS
      clear hk
      have pC0 := C_1.1 0 _ rfl
      have pC1 := C_1.1 1 _ rfl
      have pC2 := C_1.1 2 _ rfl
      have plC := C_1.2
      go_wp2_with fail
      clear pC0 pC1 pC2 plC
      refine (hI _ (ol_1.row VersionR.enc_len) ol_1.lenCap).mono ?_
      rintro e u2 ⟨A1, c1, rfl, q1, b⟩
      have B2 := B1.trans (b.mono B1.size)
      have z2 := b.size
      have C_2 := C_1.keep b
      have ol_2 := ol_1.keep b
      clear C_1 ol_1 b
      have oa_2 := q1
      clear q1
      have pC0 := C_2.1 0 _ rfl
      have pC1 := C_2.1 1 _ rfl
      have pC2 := C_2.1 2 _ rfl
      have plC := C_2.2
      go_wp2_with fail
      clear pC0 pC1 pC2 plC
      refine (hS _ (ol_2.row VersionR.enc_len)).mono ?_
      rintro e u3 ⟨A2, c2, rfl, q1, b⟩
      have B3 := B2.trans (b.mono B2.size)
      have z3 := b.size
      have C_3 := C_2.keep b
      have ol_3 := ol_2.keep b
      have oa_3 := oa_2.keep b
      clear C_2 ol_2 oa_2 b
      have ob_3 := q1
      clear q1
      go_wp2_with fail
      refine (equalVersions_same A1 A2 c1 c2 U _ (oa_3.row VersionR.enc_len) (ob_3.row VersionR.enc_len)).mono ?_
      rintro e u4 ⟨rfl, b⟩
      have B4 := B3.trans (b.mono B3.size)
      have z4 := b.size
      have C_4 := C_3.keep b
      have ol_4 := ol_3.keep b
      have oa_4 := oa_3.keep b
      have ob_4 := ob_3.keep b
      clear C_3 ol_3 oa_3 ob_3 b
      go_wp2_with fail
      refine (equalVersions_same A1 A2 c1 c2 U _ (oa_4.row VersionR.enc_len) (ob_4.row VersionR.enc_len)).mono ?_
      rintro e u5 ⟨rfl, b⟩
      have B5 := B4.trans (b.mono B4.size)
      have z5 := b.size
      have C_5 := C_4.keep b
      have ol_5 := ol_4.keep b
      have oa_5 := oa_4.keep b
      have ob_5 := ob_4.keep b
      clear C_4 ol_4 oa_4 ob_4 b
      go_wp2
      all_goals go_returns
      all_goals exact ⟨ret_bool (by first | rfl | simp), B5⟩
  · go_enter Try.func9, Try.ntmps9
    go_wp2
    all_goals go_returns
    all_goals exact ⟨rfl, Below.refl _ _⟩
set_option maxRecDepth 100000 in
theorem lifted (os : Os) (started : os.Started) (H : Type) (enc : TypeId × Value → H) :
    ReturnsInHanded {} Try.checked os 9 .any (Rows.fnPutVersionKeysSpec.pre6 enc Try.prog Try.f9 Rows.fnPutVersionKeysRow.domain false) (Rows.fnPutVersionKeysSpec.post enc Try.prog Try.f9 false true false false) := by
  refine returnsInHanded_of_change (C := Try.checked) own started (by kernel_rfl) Try.func9
    (ChangeSpec.witness6 (enc := enc) (C := Try.checked) false ⟨#[], #[.slice none 0 0], []⟩ 8 (by kernel_rfl) (by kernel_rfl) (by kernel_rfl) (by kernel_rfl)) ?_
  intro W base args ds gs before hval0 hW hcnd _
  have hval : ∀ (j : Nat) t v, Try.f9.params[j]? = some t → args[j]? = some v → Value.okWide Try.prog W .any base t v := hval0
  have hW' := hW
  obtain ⟨p, q, hA0, hV, rfl, hfz, hnd⟩ := hW
  have hA : DataW.TrodAll enc Try.prog W 0 (fun _ => true) true Try.f9.params.toList args.toList ds p := hA0
  rw [Try.params9] at hA hval
  obtain ⟨v0, vs0, d0, ds0, p0, q0, hargs, rfl, rfl, h0, r0⟩ := trodAll_cons hA
  obtain ⟨rfl, rfl, rfl⟩ := trodAll_nil r0
  obtain rfl : args = #[v0] := by cases args; simp_all
  obtain ⟨rfl, rfl⟩ := trodVars_none hV
  have k0 := h0
  have lt0 : ∀ x ∈ p0, x.block < W.heap.size := by obtain ⟨m, hm⟩ := k0; exact DataW.trod_lt m _ _ _ hm
  obtain ⟨a0, len0, cap0, rfl⟩ := okWide_slice Try.underlying22 (hval 0 22 v0 rfl rfl)
  obtain ⟨z0, w0⟩ : ∃ zs, IsRow .u8 W a0 len0 cap0 zs := by
    obtain ⟨fuel, hf⟩ := h0
    rcases open_ints Try.underlying22 Try.underlying5 (by kernel_rfl) hf with ⟨hcs, _⟩ | ⟨x, l, c, zs, hcs, _, hl, hm, hz, hx, hcell, hwz⟩
    · simp [Value.cells] at hcs
      obtain ⟨rfl, rfl, rfl⟩ := hcs
      exact ⟨[], .inl ⟨rfl, rfl, rfl, rfl⟩⟩
    · simp [Value.cells] at hcs
      obtain ⟨rfl, rfl, rfl⟩ := hcs
      exact ⟨zs, .inr ⟨_, rfl, hl, hm, by simpa using hz, hcell, hwz⟩⟩
  clear hA0 hval0
  refine (walk a0 len0 cap0 z0 W w0).mono fun e W' ⟨he, bel⟩ => ?_
  subst he
  exact ⟨_, rfl, _, _, _, [], _, [], hW', trodAll_mk1 (shut_bool Try.underlying4 _), (trodAll_cons_mk (Below.trod laidOut (by kernel_rfl) (of_decide_eq_true (by kernel_rfl)) k0 bel lt0) trodAll_mk0), rfl, bel.frame _, fun h => by cases h⟩

theorem closed : joinedFacts Try.checked.prog 9 Try.f9 Rows.fnPutVersionKeysSpec Rows.fnPutVersionKeysRow = true := by
  unfold joinedFacts
  rw [mayE, liftE, makeE]
  kernel_rfl

theorem over : Rows.fnPutVersionKeysRow.holds Try.pinned (OpenSpec.ofChange Rows.fnPutVersionKeysSpec) :=
  OpenClaim.holds_of_wide 9 Try.f9 rfl rfl rfl rfl rfl rfl rfl ⟨rfl, rfl, rfl, rfl, rfl⟩ rfl rfl rfl rfl rfl (by kernel_rfl) Try.func9 closed
    (of_decide_eq_true (by kernel_rfl)) (by unfold Func.isWrapper; first | (rw [if_pos (by decide +kernel)]; kernel_rfl) | (rw [if_neg (by decide +kernel)]; exact ⟨rfl, rfl⟩))
    (fun os started H enc _ => lifted os started H enc)

theorem proved : Rows.FnPutVersionKeysSaid := over
#print axioms proved
end Go.Proofs.Ytjjjlpnbniofjab.fnPutVersionKeys
