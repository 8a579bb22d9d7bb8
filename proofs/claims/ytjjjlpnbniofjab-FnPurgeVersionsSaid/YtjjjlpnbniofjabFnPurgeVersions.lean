/- The law FnPurgeVersions answers true at every input and leaves its arguments as they were; no condition. -/
import Derived.Test.YtjjjlpnbniofjabRows
import Derived.WalkKit
import Derived.WalkSpells
import Derived.WalkLawsBesides
import Derived.ProofKit
import Derived.OpenShut
import Derived.ShutString
import Derived.ChangeOld
import Derived.Below
import Derived.Lib.SmallJoins
import Derived.Handy
import Derived.Test.YtjjjlpnbniofjabMay
import Derived.Test.YtjjjlpnbniofjabVnP
namespace Go.Proofs.Ytjjjlpnbniofjab.fnPurgeVersions
open Go.ChangeShapes Go.WideShapes Go.ChangeAt Go.RowKit Go.Joins
open Go.ChangeMaps (open_string shut_string)
set_option linter.unusedVariables false

theorem own : ownKnob Try.prog.godebug = none := by kernel_rfl
theorem laidOut : laidOutB Try.prog = true := by kernel_rfl
set_option maxRecDepth 100000 in
set_option maxHeartbeats 4000000 in
theorem walk (a0 : Option Addr) (len0 cap0 : Nat) (z0 : List Int) (w : World) (w0 : IsRow .u8 w a0 len0 cap0 z0) :
    Calls Try.prog 12 #[.slice a0 len0 cap0] w fun e w' => e = .returned (.bool true) ∧ Below w.heap.size w w' := by
  by_cases hlen : len0 ≤ 1048576
  · go_enter Try.func12, Try.ntmps12
    go_wp2_with fail
    refine (drawPurgeVersions_any w a0 len0 cap0 z0 w0 hlen).mono ?_
    rintro e u0 ⟨A, c, l, m, rfl, ol_0, l40, m0, m1, B0⟩
    obtain ⟨U, hU⟩ : ∃ L, L = purF l m := ⟨_, rfl⟩
    have hI := fun W hr => implPur_any A c l m W hr
    have hS := fun W hr => specPur_any A c l m W hr
    rw [← hU] at hI hS
    have HU := Lib.hid hU
    clear hU
    have hl41 : l.length ≤ 1048576 := by omega
    go_wp2_with fail
    refine (hI _ (ol_0.row VersionR.enc_len)).mono ?_
    rintro e u1 ⟨A1, c1, rfl, q1, b⟩
    have B1 := B0.trans (b.mono B0.size)
    have z1 := b.size
    have ol_1 := ol_0.keep b
    clear ol_0 b
    have oa_1 := q1
    clear q1
    go_wp2_with fail
    refine (hS _ (ol_1.row VersionR.enc_len)).mono ?_
    rintro e u2 ⟨A2, c2, rfl, q1, b⟩
    have B2 := B1.trans (b.mono B1.size)
    have z2 := b.size
    have ol_2 := ol_1.keep b
    have oa_2 := oa_1.keep b
    clear ol_1 oa_1 b
    have ob_2 := q1
    clear q1
    go_wp2_with fail
    refine (equalVersions_same A1 A2 c1 c2 U _ (oa_2.row VersionR.enc_len) (ob_2.row VersionR.enc_len)).mono ?_
    rintro e u3 ⟨rfl, b⟩
    have B3 := B2.trans (b.mono B2.size)
    have z3 := b.size
    have ol_3 := ol_2.keep b
    have oa_3 := oa_2.keep b
    have ob_3 := ob_2.keep b
    clear ol_2 oa_2 ob_2 b
    have hu41 := oa_3.1
    by_cases hz : U.length = 0
    · have hd : ((U.length : Int) == 0) = true := by rw [hz]; rfl
      have HZ := Lib.hid hz
      clear hz
      go_wp2_with fail
      refine (hS _ (ol_3.row VersionR.enc_len)).mono ?_
      rintro e u4 ⟨A4, c4, rfl, q1, b⟩
      have B4 := B3.trans (b.mono B3.size)
      have z4 := b.size
      have ol_4 := ol_3.keep b
      have oa_4 := oa_3.keep b
      have ob_4 := ob_3.keep b
      clear ol_3 oa_3 ob_3 b
      have oc_4 := q1
      clear q1
      go_wp2_with fail
      refine (equalVersions_same A1 A4 c1 c4 U _ (oa_4.row VersionR.enc_len) (oc_4.row VersionR.enc_len)).mono ?_
      rintro e u5 ⟨rfl, b⟩
      have B5 := B4.trans (b.mono B4.size)
      have z5 := b.size
      have ol_5 := ol_4.keep b
      have oa_5 := oa_4.keep b
      have ob_5 := ob_4.keep b
      have oc_5 := oc_4.keep b
      clear ol_4 oa_4 ob_4 oc_4 b
      go_wp2
      all_goals go_returns
      all_goals exact ⟨ret_bool (by first | rfl | simp), B5⟩
    · have hd : ((U.length : Int) == 0) = false := by rw [beq_eq_false_iff_ne]; omega
      have hf := pur_facts (l := l) (m := m) (by rw [← HU.out]; omega)
      rw [← HU.out] at hf
      clear hz
      go_wp2_with fail
      go_loopw [6] (fun i wr => ∃ k : Nat, k ≤ 24 ∧ i = .int .i64 k ∧ Below u3.heap.size u3 wr) (fun i _ => 24 - (intOf i).toNat)
      case atStart => exact ⟨0, Nat.zero_le _, rfl, Below.refl _ _⟩
      case round =>
        obtain ⟨k, hk, rfl, hbw⟩ := hrel
        by_cases hlt : k < 24
        · have RL := (ol_3.row VersionR.enc_len).keep hbw
          have RO := (oa_3.row VersionR.enc_len).keep hbw
          have hkm : IntKind.i64.wrap (Int.tmod (k : Int) 4) = ((k % 4 : Nat) : Int) := by rw [Int.tmod_eq_emod_of_nonneg (by omega)]; exact (IntWalk.i64_in _ (by omega)).trans (by omega)
          obtain ⟨t, ht⟩ : ∃ t : Int, t = m + 1 + ((k / 4 : Nat) : Int) * 5 := ⟨_, rfl⟩
          have hX := fun W hr => implVer_any A c l ((k % 4 : Nat) : Int) (m + 1 + ((k / 4 : Nat) : Int) * 5) W hr
          have hY := fun W hr => implVer_any A1 c1 U ((k % 4 : Nat) : Int) (m + 1 + ((k / 4 : Nat) : Int) * 5) W hr
          have he := hf.1 ((k % 4 : Nat) : Int) (m + 1 + ((k / 4 : Nat) : Int) * 5) (by omega)
          rw [← he.1, ← he.2] at hY
          generalize verF l ((k % 4 : Nat) : Int) (m + 1 + ((k / 4 : Nat) : Int) * 5) = p1 at *
          generalize verK l ((k % 4 : Nat) : Int) (m + 1 + ((k / 4 : Nat) : Int) * 5) = p2 at *
          clear he hf
          go_wp2_with fail
          refine (hX _ RL).mono ?_
          rintro e y1 ⟨rfl, b1⟩
          go_wp2_with fail
          refine (hY _ (RO.keep b1)).mono ?_
          rintro e y2 ⟨rfl, b2⟩
          have b12 := b1.trans (b2.mono b1.size)
          have hbw1 := hbw.trans (b12.mono hbw.size)
          clear b1 b2 b12 RL RO hX hY
          go_wp2
          go_roundw
          case rel => exact ⟨k + 1, by omega, by go_num, hbw1⟩
          case measure => simp [intOf]; omega
        · have bl := hbw
          have wr_eq : ∃ v, v = wr := ⟨_, rfl⟩
          obtain ⟨u4, hu⟩ := wr_eq
          rw [← hu] at bl ⊢
          clear hu hbw
          have B4 := B3.trans (bl.mono B3.size)
          have z4 := bl.size
          have ol_4 := ol_3.keep bl
          have oa_4 := oa_3.keep bl
          have ob_4 := ob_3.keep bl
          clear ol_3 oa_3 ob_3 bl
          have hJ := fun W hr => implPur_any A1 c1 U m W hr
          rw [hf.2] at hJ
          go_wp2_with fail
          refine (hJ _ (oa_4.row VersionR.enc_len)).mono ?_
          rintro e u5 ⟨A3, c3, rfl, q1, b⟩
          have B5 := B4.trans (b.mono B4.size)
          have z5 := b.size
          have ol_5 := ol_4.keep b
          have oa_5 := oa_4.keep b
          have ob_5 := ob_4.keep b
          clear ol_4 oa_4 ob_4 b
          have oc_5 := q1
          clear q1
          go_wp2_with fail
          refine (equalVersions_same A3 A1 c3 c1 U _ (oc_5.row VersionR.enc_len) (oa_5.row VersionR.enc_len)).mono ?_
          rintro e u6 ⟨rfl, b⟩
          have B6 := B5.trans (b.mono B5.size)
          have z6 := b.size
          have ol_6 := ol_5.keep b
          have oa_6 := oa_5.keep b
          have ob_6 := ob_5.keep b
          have oc_6 := oc_5.keep b
          clear ol_5 oa_5 ob_5 oc_5 b
          go_wp2
          all_goals go_returns
          all_goals exact ⟨ret_bool (by first | rfl | simp), B6⟩
  · go_enter Try.func12, Try.ntmps12
    go_wp2
    all_goals go_returns
    all_goals exact ⟨rfl, Below.refl _ _⟩
set_option maxRecDepth 100000 in
theorem lifted (os : Os) (started : os.Started) (H : Type) (enc : TypeId × Value → H) :
    ReturnsInHanded {} Try.checked os 12 .any (Rows.fnPurgeVersionsSpec.pre6 enc Try.prog Try.f12 Rows.fnPurgeVersionsRow.domain false) (Rows.fnPurgeVersionsSpec.post enc Try.prog Try.f12 false true false false) := by
  refine returnsInHanded_of_change (C := Try.checked) own started (by kernel_rfl) Try.func12
    (ChangeSpec.witness6 (enc := enc) (C := Try.checked) false ⟨#[], #[.slice none 0 0], []⟩ 8 (by kernel_rfl) (by kernel_rfl) (by kernel_rfl) (by kernel_rfl)) ?_
  intro W base args ds gs before hval0 hW hcnd _
  have hval : ∀ (j : Nat) t v, Try.f12.params[j]? = some t → args[j]? = some v → Value.okWide Try.prog W .any base t v := hval0
  have hW' := hW
  obtain ⟨p, q, hA0, hV, rfl, hfz, hnd⟩ := hW
  have hA : DataW.TrodAll enc Try.prog W 0 (fun _ => true) true Try.f12.params.toList args.toList ds p := hA0
  rw [Try.params12] at hA hval
  obtain ⟨v0, vs0, d0, ds0, p0, q0, hargs, rfl, rfl, h0, r0⟩ := trodAll_cons hA
  obtain ⟨rfl, rfl, rfl⟩ := trodAll_nil r0
  obtain rfl : args = #[v0] := by cases args; simp_all
  obtain ⟨rfl, rfl⟩ := trodVars_none hV
  have k0 := h0
  have lt0 : ∀ x ∈ p0, x.block < W.heap.size := by obtain ⟨m, hm⟩ := k0; exact DataW.trod_lt m _ _ _ hm
  obtain ⟨a0, len0, cap0, rfl⟩ := okWide_slice Try.underlying22 (hval 0 22 v0 rfl rfl)
  obtain ⟨z0, w0⟩ : ∃ zs, IsRow .u8 W a0 len0 cap0 zs := by
    obtain ⟨fuel, hf⟩ := h0
    rcases open_ints Try.underlying22 Try.underlying5 (by kernel_rfl) hf with ⟨hcs, _⟩ | ⟨x, l, c, zs, hcs, _, hl, hm, hz, hx, hcell, hwz⟩
    · simp [Value.cells] at hcs
      obtain ⟨rfl, rfl, rfl⟩ := hcs
      exact ⟨[], .inl ⟨rfl, rfl, rfl, rfl⟩⟩
    · simp [Value.cells] at hcs
      obtain ⟨rfl, rfl, rfl⟩ := hcs
      exact ⟨zs, .inr ⟨_, rfl, hl, hm, by simpa using hz, hcell, hwz⟩⟩
  clear hA0 hval0
  refine (walk a0 len0 cap0 z0 W w0).mono fun e W' ⟨he, bel⟩ => ?_
  subst he
  exact ⟨_, rfl, _, _, _, [], _, [], hW', trodAll_mk1 (shut_bool Try.underlying4 _), (trodAll_cons_mk (Below.trod laidOut (by kernel_rfl) (of_decide_eq_true (by kernel_rfl)) k0 bel lt0) trodAll_mk0), rfl, bel.frame _, fun h => by cases h⟩

theorem closed : joinedFacts Try.checked.prog 12 Try.f12 Rows.fnPurgeVersionsSpec Rows.fnPurgeVersionsRow = true := by
  unfold joinedFacts
  rw [mayE, liftE, makeE]
  kernel_rfl

theorem over : Rows.fnPurgeVersionsRow.holds Try.pinned (OpenSpec.ofChange Rows.fnPurgeVersionsSpec) :=
  OpenClaim.holds_of_wide 12 Try.f12 rfl rfl rfl rfl rfl rfl rfl ⟨rfl, rfl, rfl, rfl, rfl⟩ rfl rfl rfl rfl rfl (by kernel_rfl) Try.func12 closed
    (of_decide_eq_true (by kernel_rfl)) (by unfold Func.isWrapper; first | (rw [if_pos (by decide +kernel)]; kernel_rfl) | (rw [if_neg (by decide +kernel)]; exact ⟨rfl, rfl⟩))
    (fun os started H enc _ => lifted os started H enc)

theorem proved : Rows.FnPurgeVersionsSaid := over
#print axioms proved
end Go.Proofs.Ytjjjlpnbniofjab.fnPurgeVersions
