/- The law FnVersionAt answers true at every input and leaves its arguments as they were; no condition. -/
import Derived.Test.YtjjjlpnbniofjabRows
import Derived.WalkKit
import Derived.WalkSpells
import Derived.WalkLawsBesides
import Derived.ProofKit
import Derived.OpenShut
import Derived.ShutString
import Derived.ChangeOld
import Derived.Below
import Derived.Lib.SmallJoins
import Derived.Handy
import Derived.Test.YtjjjlpnbniofjabMay
import Derived.Test.YtjjjlpnbniofjabVnB
import Derived.Test.YtjjjlpnbniofjabMay
namespace Go.Proofs.Ytjjjlpnbniofjab.fnVersionAt
open Go.ChangeShapes Go.WideShapes Go.ChangeAt Go.RowKit Go.Joins
open Go.ChangeMaps (open_string shut_string)
set_option linter.unusedVariables false

theorem own : ownKnob Try.prog.godebug = none := by kernel_rfl
theorem laidOut : laidOutB Try.prog = true := by kernel_rfl
set_option maxRecDepth 100000 in
set_option maxHeartbeats 1000000 in
theorem walk (a0 : Option Addr) (len0 cap0 : Nat) (z0 : List Int) (w : World) (w0 : IsRow .u8 w a0 len0 cap0 z0) :
    Calls Try.prog 10 #[.slice a0 len0 cap0] w fun e w' => e = .returned (.bool true) ∧ Below w.heap.size w w' := by
  by_cases hlen : len0 ≤ 1048576
  · go_enter Try.func10, Try.ntmps10
    go_wp2_with fail
    refine (drawVersionAt_any w a0 len0 cap0 z0 w0 hlen).mono ?_
    rintro e u0 ⟨A, c, l, key, time, rfl, ol_0, l40, k0, k1, t0, t1, B0⟩
    have hI := fun W hr => implVer_any A c l key time W hr
    have hS := fun W hr => specVer_any A c l key time W hr
    have hl41 : l.length ≤ 1048576 := by omega
    obtain ⟨V, hV⟩ : ∃ V, V = verF l key time := ⟨_, rfl⟩
    rw [← hV] at hI hS
    have HV := Lib.hid hV
    clear hV
    rcases Bool.eq_false_or_eq_true (verK l key time) with hk | hk
    · have HK := Lib.hid hk
      rw [hk] at hI hS
      clear hk
      go_wp2_with fail
      refine (hI _ (ol_0.row VersionR.enc_len)).mono ?_
      rintro e u1 ⟨rfl, b⟩
      have B1 := B0.trans (b.mono B0.size)
      have z1 := b.size
      have ol_1 := ol_0.keep b
      clear ol_0 b
      go_wp2_with fail
      refine (hS _ (ol_1.row VersionR.enc_len)).mono ?_
      rintro e u2 ⟨rfl, b⟩
      have B2 := B1.trans (b.mono B1.size)
      have z2 := b.size
      have ol_2 := ol_1.keep b
      clear ol_1 b
      have C0 := Bx.made u2 (.int .i64 0) (.int .i64 (-1)) (.int .i64 0) 39
      have bA : Below u2.heap.size u2 (u2.alloc (.cells #[.int .i64 0, .int .i64 (-1), .int .i64 0] 39)) := (Below.refl _ _).alloc (Nat.le_refl _) _
      go_wp2_with fail
      generalize (u2.alloc (.cells #[.int .i64 0, .int .i64 (-1), .int .i64 0] 39)) = y0 at *
      have HV0 := Lib.hid (show _ ∧ _ from ⟨C0, bA⟩)
      clear C0 bA
      go_loopw [11] (fun i wr => ∃ (k : Nat) (b0 b1 b2 : Int), k ≤ l.length ∧ i = .int .i64 k ∧ LastV l key time k b0 b1 b2 ∧ Bx wr u2.heap.size (.int .i64 b0) (.int .i64 b1) (.int .i64 b2) ∧ Below u2.heap.size u2 wr) (fun i _ => l.length - (intOf i).toNat)
      case atStart => exact ⟨0, 0, -1, 0, Nat.zero_le _, rfl, lv_start _ _ _, HV0.out.1, HV0.out.2⟩
      case round =>
        obtain ⟨k, b0, b1, b2, hk, rfl, hlv, C, hbw⟩ := hrel
        by_cases hlt : k < l.length
        · obtain ⟨b, off, hAe, hblt, q0, q1, q2⟩ := ((ol_2.row VersionR.enc_len).keep hbw).atVersion hlt
          have hx : l[k]? = some l[k] := List.getElem?_eq_getElem hlt
          generalize l[k] = x at *
          have hC := C
          obtain ⟨p0, p1, p2, pf, pl⟩ := hC
          have R0 := Bw.cellOf pl p0
          have R1 := Bw.cellOf pl p1
          have R2 := Bw.cellOf pl p2
          have Q0 := Bw.cellOf hblt q0
          have Q1 := Bw.cellOf hblt q1
          have Q2 := Bw.cellOf hblt q2
          have i0 : (0 : Int) ≤ (k : Int) := by omega
          have i1 : (k : Int) < (l.length : Int) := by omega
          have i5 : ((k : Int)).toNat = k := by omega
          subst hAe
          by_cases hyes : x.a0 = key ∧ x.a1 ≤ time ∧ b1 < x.a1
          · have Hnx := Lib.hid (lv_t hlv hx hyes.1 hyes.2.1 hyes.2.2)
            have e0 : (x.a0 == key) = true := by simp [hyes.1]
            have e1 : decide (x.a1 ≤ time) = true := decide_eq_true hyes.2.1
            have e2 : decide (b1 < x.a1) = true := decide_eq_true hyes.2.2
            clear hyes hlv hx p0 p1 p2
            go_wp2_with fail
            refine wp_region_quiet_below (by kernel_rfl) (by kernel_rfl) ?_
            repeat (any_goals (go_big_quiet_step (fail)))
            refine wpQuiet_nil ?_
            intro wq hbq
            have Cq := C.keep hbq
            have Bq := hbw.trans (hbq.mono hbw.size)
            have r0 := (hbq.cell (p := ⟨b, _, none⟩) hblt).trans q0
            have r1 := (hbq.cell (p := ⟨b, _, none⟩) hblt).trans q1
            have r2 := (hbq.cell (p := ⟨b, _, none⟩) hblt).trans q2
            have Cn := ((Cq.set0 (.int .i64 x.a0)).set1 (.int .i64 x.a1)).set2 (.int .i64 x.a2)
            have Bn := ((Bq.setCell (p := ⟨u2.heap.size, 0, none⟩) (Nat.le_refl _) (.int .i64 x.a0)).setCell (p := ⟨u2.heap.size, 1, none⟩) (Nat.le_refl _) (.int .i64 x.a1)).setCell (p := ⟨u2.heap.size, 2, none⟩) (Nat.le_refl _) (.int .i64 x.a2)
            have Hn := Lib.hid (show _ ∧ _ from ⟨Cn, Bn⟩)
            obtain ⟨p0, p1, p2, pf2, pl2⟩ := Cq
            clear Q0 Q1 Q2 R0 R1 R2 Cn Bn C Bq hbq
            go_wp2
            go_roundw
            case rel => exact ⟨k + 1, x.a0, x.a1, x.a2, by omega, by go_num, Hnx.out, Hn.out.1, Hn.out.2⟩
            case measure => simp [intOf]; omega
          · have Hnx := Lib.hid (lv_f (verK_v HK.out) hlv hx hyes)
            have hor : x.a0 ≠ key ∨ (x.a0 = key ∧ ¬ x.a1 ≤ time) ∨ (x.a0 = key ∧ x.a1 ≤ time ∧ ¬ b1 < x.a1) := by omega
            clear hyes hlv hx p0 p1 p2 pf
            rcases hor with h0 | ⟨h0, h1⟩ | ⟨h0, h1, h2⟩
            · have e0 : (x.a0 == key) = false := by simp [h0]
              clear h0
              go_wp2_with fail
              refine wp_region_quiet_below (by kernel_rfl) (by kernel_rfl) ?_
              repeat (any_goals (go_big_quiet_step (fail)))
              refine wpQuiet_nil ?_
              intro wq hbq
              have Cq := C.keep hbq
              have Bq := hbw.trans (hbq.mono hbw.size)
              go_wp2
              go_roundw
              case rel => exact ⟨k + 1, b0, b1, b2, by omega, by go_num, Hnx.out, Cq, Bq⟩
              case measure => simp [intOf]; omega
            · have e0 : (x.a0 == key) = true := by simp [h0]
              have e1 : decide (x.a1 ≤ time) = false := decide_eq_false h1
              clear h0 h1
              go_wp2_with fail
              refine wp_region_quiet_below (by kernel_rfl) (by kernel_rfl) ?_
              repeat (any_goals (go_big_quiet_step (fail)))
              refine wpQuiet_nil ?_
              intro wq hbq
              have Cq := C.keep hbq
              have Bq := hbw.trans (hbq.mono hbw.size)
              go_wp2
              go_roundw
              case rel => exact ⟨k + 1, b0, b1, b2, by omega, by go_num, Hnx.out, Cq, Bq⟩
              case measure => simp [intOf]; omega
            · have e0 : (x.a0 == key) = true := by simp [h0]
              have e1 : decide (x.a1 ≤ time) = true := decide_eq_true h1
              have e2 : decide (b1 < x.a1) = false := decide_eq_false h2
              clear h0 h1 h2
              go_wp2_with fail
              refine wp_region_quiet_below (by kernel_rfl) (by kernel_rfl) ?_
              repeat (any_goals (go_big_quiet_step (fail)))
              refine wpQuiet_nil ?_
              intro wq hbq
              have Cq := C.keep hbq
              have Bq := hbw.trans (hbq.mono hbw.size)
              go_wp2
              go_roundw
              case rel => exact ⟨k + 1, b0, b1, b2, by omega, by go_num, Hnx.out, Cq, Bq⟩
              case measure => simp [intOf]; omega
        · obtain rfl : k = l.length := by omega
          obtain ⟨g1, g2⟩ := lv_end HK.out hlv
          rw [← HV.out] at g2
          have e1 : decide (0 ≤ b1) = true := decide_eq_true g1
          have BF := B2.trans (hbw.mono B2.size)
          obtain ⟨p0, p1, p2, pf, pl⟩ := C
          subst g2
          clear hlv hbw HV0
          go_wp2
          all_goals go_returns
          all_goals exact ⟨ret_bool (by first | rfl | simp | (simp; omega)), BF⟩
    · have HK := Lib.hid hk
      rw [hk] at hI hS
      clear hk
      go_wp2_with fail
      refine (hI _ (ol_0.row VersionR.enc_len)).mono ?_
      rintro e u1 ⟨rfl, b⟩
      have B1 := B0.trans (b.mono B0.size)
      have z1 := b.size
      have ol_1 := ol_0.keep b
      clear ol_0 b
      go_wp2_with fail
      refine (hS _ (ol_1.row VersionR.enc_len)).mono ?_
      rintro e u2 ⟨rfl, b⟩
      have B2 := B1.trans (b.mono B1.size)
      have z2 := b.size
      have ol_2 := ol_1.keep b
      clear ol_1 b
      go_wp2
      all_goals go_returns
      all_goals exact ⟨ret_bool (by first | rfl | simp), B2⟩
  · go_enter Try.func10, Try.ntmps10
    go_wp2
    all_goals go_returns
    all_goals exact ⟨rfl, Below.refl _ _⟩
set_option maxRecDepth 100000 in
theorem lifted (os : Os) (started : os.Started) (H : Type) (enc : TypeId × Value → H) :
    ReturnsInHanded {} Try.checked os 10 .any (Rows.fnVersionAtSpec.pre6 enc Try.prog Try.f10 Rows.fnVersionAtRow.domain false) (Rows.fnVersionAtSpec.post enc Try.prog Try.f10 false true false false) := by
  refine returnsInHanded_of_change (C := Try.checked) own started (by kernel_rfl) Try.func10
    (ChangeSpec.witness6 (enc := enc) (C := Try.checked) false ⟨#[], #[.slice none 0 0], []⟩ 8 (by kernel_rfl) (by kernel_rfl) (by kernel_rfl) (by kernel_rfl)) ?_
  intro W base args ds gs before hval0 hW hcnd _
  have hval : ∀ (j : Nat) t v, Try.f10.params[j]? = some t → args[j]? = some v → Value.okWide Try.prog W .any base t v := hval0
  have hW' := hW
  obtain ⟨p, q, hA0, hV, rfl, hfz, hnd⟩ := hW
  have hA : DataW.TrodAll enc Try.prog W 0 (fun _ => true) true Try.f10.params.toList args.toList ds p := hA0
  rw [Try.params10] at hA hval
  obtain ⟨v0, vs0, d0, ds0, p0, q0, hargs, rfl, rfl, h0, r0⟩ := trodAll_cons hA
  obtain ⟨rfl, rfl, rfl⟩ := trodAll_nil r0
  obtain rfl : args = #[v0] := by cases args; simp_all
  obtain ⟨rfl, rfl⟩ := trodVars_none hV
  have k0 := h0
  have lt0 : ∀ x ∈ p0, x.block < W.heap.size := by obtain ⟨m, hm⟩ := k0; exact DataW.trod_lt m _ _ _ hm
  obtain ⟨a0, len0, cap0, rfl⟩ := okWide_slice Try.underlying22 (hval 0 22 v0 rfl rfl)
  obtain ⟨z0, w0⟩ : ∃ zs, IsRow .u8 W a0 len0 cap0 zs := by
    obtain ⟨fuel, hf⟩ := h0
    rcases open_ints Try.underlying22 Try.underlying5 (by kernel_rfl) hf with ⟨hcs, _⟩ | ⟨x, l, c, zs, hcs, _, hl, hm, hz, hx, hcell, hwz⟩
    · simp [Value.cells] at hcs
      obtain ⟨rfl, rfl, rfl⟩ := hcs
      exact ⟨[], .inl ⟨rfl, rfl, rfl, rfl⟩⟩
    · simp [Value.cells] at hcs
      obtain ⟨rfl, rfl, rfl⟩ := hcs
      exact ⟨zs, .inr ⟨_, rfl, hl, hm, by simpa using hz, hcell, hwz⟩⟩
  clear hA0 hval0
  refine (walk a0 len0 cap0 z0 W w0).mono fun e W' ⟨he, bel⟩ => ?_
  subst he
  exact ⟨_, rfl, _, _, _, [], _, [], hW', trodAll_mk1 (shut_bool Try.underlying4 _), (trodAll_cons_mk (Below.trod laidOut (by kernel_rfl) (of_decide_eq_true (by kernel_rfl)) k0 bel lt0) trodAll_mk0), rfl, bel.frame _, fun h => by cases h⟩

theorem closed : joinedFacts Try.checked.prog 10 Try.f10 Rows.fnVersionAtSpec Rows.fnVersionAtRow = true := by
  unfold joinedFacts
  rw [mayE, liftE, makeE]
  kernel_rfl

theorem over : Rows.fnVersionAtRow.holds Try.pinned (OpenSpec.ofChange Rows.fnVersionAtSpec) :=
  OpenClaim.holds_of_wide 10 Try.f10 rfl rfl rfl rfl rfl rfl rfl ⟨rfl, rfl, rfl, rfl, rfl⟩ rfl rfl rfl rfl rfl (by kernel_rfl) Try.func10 closed
    (of_decide_eq_true (by kernel_rfl)) (by unfold Func.isWrapper; first | (rw [if_pos (by decide +kernel)]; kernel_rfl) | (rw [if_neg (by decide +kernel)]; exact ⟨rfl, rfl⟩))
    (fun os started H enc _ => lifted os started H enc)

theorem proved : Rows.FnVersionAtSaid := over
#print axioms proved
end Go.Proofs.Ytjjjlpnbniofjab.fnVersionAt
