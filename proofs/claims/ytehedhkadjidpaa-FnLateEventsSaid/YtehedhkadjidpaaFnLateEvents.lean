/- The law FnLateEvents answers true at every input and leaves its arguments as they were; no condition. -/
import Derived.Test.YtehedhkadjidpaaRows
import Derived.WalkKit
import Derived.WalkSpells
import Derived.WalkLawsBesides
import Derived.ProofKit
import Derived.OpenShut
import Derived.ShutString
import Derived.ChangeOld
import Derived.Below
import Derived.Lib.SmallJoins
import Derived.Handy
import Derived.Test.YtehedhkadjidpaaMay
import Derived.Test.YtehedhkadjidpaaLtP
namespace Go.Proofs.Ytehedhkadjidpaa.fnLateEvents
open Go.ChangeShapes Go.WideShapes Go.ChangeAt Go.RowKit Go.Joins
open Go.ChangeMaps (open_string shut_string)
set_option linter.unusedVariables false

theorem own : ownKnob Try.prog.godebug = none := by kernel_rfl
theorem laidOut : laidOutB Try.prog = true := by kernel_rfl
set_option maxRecDepth 100000 in
set_option maxHeartbeats 1000000 in
theorem walk (a0 : Option Addr) (len0 cap0 : Nat) (z0 : List Int) (w : World) (w0 : IsRow .u8 w a0 len0 cap0 z0) :
    Calls Try.prog 11 #[.slice a0 len0 cap0] w fun e w' => e = .returned (.bool true) ∧ Below w.heap.size w w' := by
  by_cases hlen : len0 ≤ 1048576
  · go_enter Try.func11, Try.ntmps11
    go_wp2_with fail
    refine (drawLateEvents_any w a0 len0 cap0 z0 w0 hlen).mono ?_
    rintro e u0 ⟨A, c, l, n, rfl, ol_0, l41, n0, n1, B0⟩
    obtain ⟨M, hM⟩ : ∃ L, L = lateF l n := ⟨_, rfl⟩
    have hI := fun W hr => implLate_any A c l n W hr
    have hS := fun W hr => specLate_any A c l n W hr
    rw [← hM] at hI hS
    have HM := Lib.hid hM
    clear hM
    go_wp2_with fail
    refine (hI _ (ol_0.row EventR.enc_len)).mono ?_
    rintro e u1 ⟨A1, c1, rfl, q1, b⟩
    have B1 := B0.trans (b.mono B0.size)
    have z1 := b.size
    have ol_1 := ol_0.keep b
    clear ol_0 b
    have oa_1 := q1
    clear q1
    go_wp2_with fail
    refine (hS _ (ol_1.row EventR.enc_len)).mono ?_
    rintro e u2 ⟨A2, c2, rfl, q1, b⟩
    have B2 := B1.trans (b.mono B1.size)
    have z2 := b.size
    have ol_2 := ol_1.keep b
    have oa_2 := oa_1.keep b
    clear ol_1 oa_1 b
    have ob_2 := q1
    clear q1
    have hm41 := oa_2.1
    go_wp2_with fail
    refine (equalInts_same A1 A2 c1 c2 M _ (oa_2.row IntR.enc_len) (ob_2.row IntR.enc_len)).mono ?_
    rintro e u3 ⟨rfl, b⟩
    have B3 := B2.trans (b.mono B2.size)
    have z3 := b.size
    have ol_3 := ol_2.keep b
    have oa_3 := oa_2.keep b
    have ob_3 := ob_2.keep b
    clear ol_2 oa_2 ob_2 b
    by_cases hn0 : n < 0
    · go_wp2_with fail
      refine (hS _ (ol_3.row EventR.enc_len)).mono ?_
      rintro e u4 ⟨A7, c7, rfl, q1, b⟩
      have B4 := B3.trans (b.mono B3.size)
      have z4 := b.size
      have ol_4 := ol_3.keep b
      have oa_4 := oa_3.keep b
      have ob_4 := ob_3.keep b
      clear ol_3 oa_3 ob_3 b
      have oz_4 := q1
      clear q1
      go_wp2_with fail
      refine (equalInts_same A1 A7 c1 c7 M _ (oa_4.row IntR.enc_len) (oz_4.row IntR.enc_len)).mono ?_
      rintro e u5 ⟨rfl, b⟩
      have B5 := B4.trans (b.mono B4.size)
      have z5 := b.size
      have ol_5 := ol_4.keep b
      have oa_5 := oa_4.keep b
      have ob_5 := ob_4.keep b
      have oz_5 := oz_4.keep b
      clear ol_4 oa_4 ob_4 oz_4 b
      go_wp2
      all_goals go_returns
      all_goals exact ⟨ret_bool (by first | rfl | simp), B5⟩
    by_cases hn9 : 999 ≤ n
    · go_wp2_with fail
      refine (hS _ (ol_3.row EventR.enc_len)).mono ?_
      rintro e u4 ⟨A7, c7, rfl, q1, b⟩
      have B4 := B3.trans (b.mono B3.size)
      have z4 := b.size
      have ol_4 := ol_3.keep b
      have oa_4 := oa_3.keep b
      have ob_4 := ob_3.keep b
      clear ol_3 oa_3 ob_3 b
      have oz_4 := q1
      clear q1
      go_wp2_with fail
      refine (equalInts_same A1 A7 c1 c7 M _ (oa_4.row IntR.enc_len) (oz_4.row IntR.enc_len)).mono ?_
      rintro e u5 ⟨rfl, b⟩
      have B5 := B4.trans (b.mono B4.size)
      have z5 := b.size
      have ol_5 := ol_4.keep b
      have oa_5 := oa_4.keep b
      have ob_5 := ob_4.keep b
      have oz_5 := oz_4.keep b
      clear ol_4 oa_4 ob_4 oz_4 b
      go_wp2
      all_goals go_returns
      all_goals exact ⟨ret_bool (by first | rfl | simp), B5⟩
    obtain ⟨G, hG⟩ : ∃ L, L = lateF l (n + 1) := ⟨_, rfl⟩
    have hJ := fun W hr => implLate_any A c l (n + 1) W hr
    rw [← hG] at hJ
    have Hsub := Lib.hid (fun x (hx : x ∈ G) => show x ∈ M by rw [hG] at hx; rw [HM.out]; exact lateF_sub (by omega) (by omega) hx)
    clear hG
    obtain ⟨Z, hZ⟩ : ∃ L, L = soF l := ⟨_, rfl⟩
    have hO := fun W hr => implSort_any A c l W hr
    rw [← hZ] at hO
    have hK := fun A c W hr => implLate_any A c Z n W hr
    rw [show lateF Z n = [] by rw [hZ]; exact late_sorted l n (by omega)] at hK
    clear hZ
    go_wp2_with fail
    refine (hJ _ (ol_3.row EventR.enc_len)).mono ?_
    rintro e u4 ⟨A3, c3, rfl, q1, b⟩
    have B4 := B3.trans (b.mono B3.size)
    have z4 := b.size
    have ol_4 := ol_3.keep b
    have oa_4 := oa_3.keep b
    have ob_4 := ob_3.keep b
    clear ol_3 oa_3 ob_3 b
    have oc_4 := q1
    clear q1
    have hg41 := oc_4.1
    have RM := oa_4.row IntR.enc_len
    have RG := oc_4.row IntR.enc_len
    go_wp2_with fail
    go_loopw [7] (fun i wr => ∃ k : Nat, k ≤ G.length ∧ i = .int .i64 k ∧ Below u4.heap.size u4 wr) (fun i _ => G.length - (intOf i).toNat)
    case atStart => exact ⟨0, Nat.zero_le _, rfl, Below.refl _ _⟩
    case round =>
      obtain ⟨k, hk, rfl, hbw⟩ := hrel
      by_cases hlt : k < G.length
      · obtain ⟨b, off, hA, hblt, q0⟩ := (RG.keep hbw).atInt hlt
        have hx := Hsub.out G[k] (List.getElem_mem hlt)
        generalize G[k] = x at *
        have Hd := Lib.hid (decide_eq_true hx)
        have i0 : (0 : Int) ≤ (k : Int) := by omega
        have i1 : (k : Int) < (G.length : Int) := by omega
        have i5 : ((k : Int)).toNat = k := by omega
        clear hx
        subst hA
        go_wp2_with fail
        refine (lawIsIn_b A1 c1 M x true Hd.out _ (RM.keep hbw)).mono ?_
        rintro e w5 ⟨rfl, rfl⟩
        go_wp2
        go_roundw
        case rel => exact ⟨k + 1, by omega, by go_num, hbw⟩
        case measure => simp [intOf]; omega
      · clear hI hS
        have bl := hbw
        have wr_eq : ∃ v, v = wr := ⟨_, rfl⟩
        obtain ⟨u5, hu⟩ := wr_eq
        rw [← hu] at bl ⊢
        clear hu hbw
        have B5 := B4.trans (bl.mono B4.size)
        have z5 := bl.size
        have ol_5 := ol_4.keep bl
        have oa_5 := oa_4.keep bl
        have ob_5 := ob_4.keep bl
        have oc_5 := oc_4.keep bl
        clear ol_4 oa_4 ob_4 oc_4 bl
        go_wp2_with fail
        refine (hO _ (ol_5.row EventR.enc_len)).mono ?_
        rintro e u6 ⟨A4, c4, rfl, q1, b⟩
        have B6 := B5.trans (b.mono B5.size)
        have z6 := b.size
        have ol_6 := ol_5.keep b
        have oa_6 := oa_5.keep b
        have ob_6 := ob_5.keep b
        have oc_6 := oc_5.keep b
        clear ol_5 oa_5 ob_5 oc_5 b
        have od_6 := q1
        clear q1
        go_wp2_with fail
        refine (hK A4 c4 _ (od_6.row EventR.enc_len)).mono ?_
        rintro e u7 ⟨A5, c5, rfl, q1, b⟩
        have B7 := B6.trans (b.mono B6.size)
        have z7 := b.size
        have ol_7 := ol_6.keep b
        have oa_7 := oa_6.keep b
        have ob_7 := ob_6.keep b
        have oc_7 := oc_6.keep b
        have od_7 := od_6.keep b
        clear ol_6 oa_6 ob_6 oc_6 od_6 b
        have oe_7 := q1
        clear q1
        go_wp2
        all_goals go_returns
        all_goals exact ⟨ret_bool (by first | rfl | simp), B7⟩
  · go_enter Try.func11, Try.ntmps11
    go_wp2
    all_goals go_returns
    all_goals exact ⟨rfl, Below.refl _ _⟩
set_option maxRecDepth 100000 in
theorem lifted (os : Os) (started : os.Started) (H : Type) (enc : TypeId × Value → H) :
    ReturnsInHanded {} Try.checked os 11 .any (Rows.fnLateEventsSpec.pre6 enc Try.prog Try.f11 Rows.fnLateEventsRow.domain false) (Rows.fnLateEventsSpec.post enc Try.prog Try.f11 false true false false) := by
  refine returnsInHanded_of_change (C := Try.checked) own started (by kernel_rfl) Try.func11
    (ChangeSpec.witness6 (enc := enc) (C := Try.checked) false ⟨#[], #[.slice none 0 0], []⟩ 8 (by kernel_rfl) (by kernel_rfl) (by kernel_rfl) (by kernel_rfl)) ?_
  intro W base args ds gs before hval0 hW hcnd _
  have hval : ∀ (j : Nat) t v, Try.f11.params[j]? = some t → args[j]? = some v → Value.okWide Try.prog W .any base t v := hval0
  have hW' := hW
  obtain ⟨p, q, hA0, hV, rfl, hfz, hnd⟩ := hW
  have hA : DataW.TrodAll enc Try.prog W 0 (fun _ => true) true Try.f11.params.toList args.toList ds p := hA0
  rw [Try.params11] at hA hval
  obtain ⟨v0, vs0, d0, ds0, p0, q0, hargs, rfl, rfl, h0, r0⟩ := trodAll_cons hA
  obtain ⟨rfl, rfl, rfl⟩ := trodAll_nil r0
  obtain rfl : args = #[v0] := by cases args; simp_all
  obtain ⟨rfl, rfl⟩ := trodVars_none hV
  have k0 := h0
  have lt0 : ∀ x ∈ p0, x.block < W.heap.size := by obtain ⟨m, hm⟩ := k0; exact DataW.trod_lt m _ _ _ hm
  obtain ⟨a0, len0, cap0, rfl⟩ := okWide_slice Try.underlying30 (hval 0 30 v0 rfl rfl)
  obtain ⟨z0, w0⟩ : ∃ zs, IsRow .u8 W a0 len0 cap0 zs := by
    obtain ⟨fuel, hf⟩ := h0
    rcases open_ints Try.underlying30 Try.underlying5 (by kernel_rfl) hf with ⟨hcs, _⟩ | ⟨x, l, c, zs, hcs, _, hl, hm, hz, hx, hcell, hwz⟩
    · simp [Value.cells] at hcs
      obtain ⟨rfl, rfl, rfl⟩ := hcs
      exact ⟨[], .inl ⟨rfl, rfl, rfl, rfl⟩⟩
    · simp [Value.cells] at hcs
      obtain ⟨rfl, rfl, rfl⟩ := hcs
      exact ⟨zs, .inr ⟨_, rfl, hl, hm, by simpa using hz, hcell, hwz⟩⟩
  clear hA0 hval0
  refine (walk a0 len0 cap0 z0 W w0).mono fun e W' ⟨he, bel⟩ => ?_
  subst he
  exact ⟨_, rfl, _, _, _, [], _, [], hW', trodAll_mk1 (shut_bool Try.underlying4 _), (trodAll_cons_mk (Below.trod laidOut (by kernel_rfl) (of_decide_eq_true (by kernel_rfl)) k0 bel lt0) trodAll_mk0), rfl, bel.frame _, fun h => by cases h⟩

theorem closed : joinedFacts Try.checked.prog 11 Try.f11 Rows.fnLateEventsSpec Rows.fnLateEventsRow = true := by
  unfold joinedFacts
  rw [mayE, liftE, makeE]
  kernel_rfl

theorem over : Rows.fnLateEventsRow.holds Try.pinned (OpenSpec.ofChange Rows.fnLateEventsSpec) :=
  OpenClaim.holds_of_wide 11 Try.f11 rfl rfl rfl rfl rfl rfl rfl ⟨rfl, rfl, rfl, rfl, rfl⟩ rfl rfl rfl rfl rfl (by kernel_rfl) Try.func11 closed
    (of_decide_eq_true (by kernel_rfl)) (by unfold Func.isWrapper; first | (rw [if_pos (by decide +kernel)]; kernel_rfl) | (rw [if_neg (by decide +kernel)]; exact ⟨rfl, rfl⟩))
    (fun os started H enc _ => lifted os started H enc)

theorem proved : Rows.FnLateEventsSaid := over
#print axioms proved
end Go.Proofs.Ytehedhkadjidpaa.fnLateEvents
