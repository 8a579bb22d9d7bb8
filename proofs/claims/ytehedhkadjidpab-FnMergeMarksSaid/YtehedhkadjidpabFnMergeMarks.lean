/- The law FnMergeMarks answers true at every input and leaves its arguments as they were; no condition. -/
import Derived.Test.YtehedhkadjidpabRows
import Derived.WalkKit
import Derived.WalkSpells
import Derived.WalkLawsBesides
import Derived.ProofKit
import Derived.OpenShut
import Derived.ShutString
import Derived.ChangeOld
import Derived.Below
import Derived.Lib.SmallJoins
import Derived.Handy
import Derived.Test.YtehedhkadjidpabMay
import Derived.Test.YtehedhkadjidpabMmN
namespace Go.Proofs.Ytehedhkadjidpab.fnMergeMarks
open Go.ChangeShapes Go.WideShapes Go.ChangeAt Go.RowKit Go.Joins
open Go.ChangeMaps (open_string shut_string)
set_option linter.unusedVariables false

theorem own : ownKnob Try.prog.godebug = none := by kernel_rfl
theorem laidOut : laidOutB Try.prog = true := by kernel_rfl
set_option maxRecDepth 100000 in
set_option maxHeartbeats 1000000 in
theorem walk (a0 : Option Addr) (len0 cap0 : Nat) (z0 : List Int) (w : World) (w0 : IsRow .u8 w a0 len0 cap0 z0) :
    Calls Try.prog 4 #[.slice a0 len0 cap0] w fun e w' => e = .returned (.bool true) ∧ Below w.heap.size w w' := by
  by_cases hlen : len0 ≤ 1048576
  · go_enter Try.func4, Try.ntmps4
    go_wp2_with fail
    refine (drawMergeMarks_any w a0 len0 cap0 z0 w0 hlen).mono ?_
    rintro e u0 ⟨A, c, l, now, idle, rfl, ol_0, l5, n0, n1, m0, m1, B0⟩
    have hcap := ol_0.lenCap
    obtain ⟨N, hN⟩ : ∃ L, L = mmF l now idle := ⟨_, rfl⟩
    have hI := fun W hr => implMM_any A c l now idle W hr hcap
    have hS := fun W hr => specMM_any A c l now idle W hr
    rw [← hN] at hI hS
    rcases mmF_cases l now idle with ⟨hv, hc, hF⟩ | ⟨hn, hF⟩
    · have hmm := mmV_spec (now := now) (idle := idle) hv
      have hbd := mmV_bounds (now := now) (idle := idle) hv
      rw [← hF, ← hN] at hmm hbd
      unfold clk at hc
      obtain ⟨y0, y1, y2, y3⟩ := hc
      have hJ := fun W hr => implMM_any A c l now 9999 W hr hcap
      rw [mmF_all hv y0 y1] at hJ
      obtain ⟨L, hL⟩ : ∃ L, L = foldA mn 999 l := ⟨_, rfl⟩
      rw [← hL] at hJ hmm
      obtain ⟨hs, hle⟩ := hmm
      have hany : l.any (fun x => x.a0 == N) = true := by rw [List.any_eq_true]; obtain ⟨x, hx, e⟩ := hs; exact ⟨x, hx, by simp [e]⟩
      have Hany := Lib.hid hany
      have HL := Lib.hid hL
      have Hv := Lib.hid hv
      have hN2 : (N == -2) = false := by rw [beq_eq_false_iff_ne]; omega
      have hl41 : l.length ≤ 1048576 := by omega
      clear hN hF hv hs hany hL
      go_wp2_with fail
      refine (hI _ (ol_0.row InputR.enc_len)).mono ?_
      rintro e u1 ⟨rfl, b⟩
      have B1 := B0.trans (b.mono B0.size)
      have z1 := b.size
      have ol_1 := ol_0.keep b
      clear ol_0 b
      go_wp2_with fail
      refine (hS _ (ol_1.row InputR.enc_len)).mono ?_
      rintro e u2 ⟨rfl, b⟩
      have B2 := B1.trans (b.mono B1.size)
      have z2 := b.size
      have ol_2 := ol_1.keep b
      clear ol_1 b
      have RL := ol_2.row InputR.enc_len
      clear hI hS
      go_wp2_with fail
      go_loopw [7, 8, 9] (fun sm ls i wr => ∃ k : Nat, k ≤ l.length ∧ i = .int .i64 k ∧ sm = .bool ((l.take k).any (fun x => x.a0 == N)) ∧ ls = .int .i64 (foldA mn 999 (l.take k)) ∧ Below u2.heap.size u2 wr) (fun _ _ i _ => l.length - (intOf i).toNat)
      case atStart => exact ⟨0, Nat.zero_le _, rfl, rfl, rfl, Below.refl _ _⟩
      case round =>
        obtain ⟨k, hk, rfl, rfl, rfl, hbw⟩ := hrel
        by_cases hlt : k < l.length
        · obtain ⟨b, off, hA, hblt, q0, q1⟩ := (RL.keep hbw).atInput hlt
          have hx : l[k]? = some l[k] := List.getElem?_eq_getElem hlt
          have hmn := foldA_next mn 999 hx
          have han : (l.take (k + 1)).any (fun x => x.a0 == N) = ((l.take k).any (fun x => x.a0 == N) || (l[k].a0 == N)) := by rw [List.take_add_one, hx, List.any_append]; simp
          generalize l[k] = x at *
          generalize foldA mn 999 (l.take k) = T at *
          generalize (l.take k).any (fun x => x.a0 == N) = s at *
          have Hmn := Lib.hid hmn
          have Han := Lib.hid han
          subst hA
          clear hx hmn han
          rcases s with _ | _
          all_goals
            by_cases hxn : x.a0 = N
            all_goals
              first | have hd : (x.a0 == N) = true := by simp [hxn]
                    | have hd : (x.a0 == N) = false := by simp [hxn]
              have Hd := Lib.hid hd
              have Hxn := Lib.hid hxn
              clear hxn
              by_cases hm : x.a0 < T
              all_goals
                go_wp2
                go_roundw
                case rel => exact ⟨k + 1, by omega, by go_num, by rw [Han.out, Hd.out]; rfl, by rw [Hmn.out]; unfold mn; first | rw [if_pos hm] | rw [if_neg (by omega)], hbw⟩
                case measure => simp [intOf]; omega
        · have hkl : l.take k = l := List.take_of_length_le (by omega)
          rw [hkl, Hany.out, ← HL.out]
          clear hkl
          have bl := hbw
          have wr_eq : ∃ v, v = wr := ⟨_, rfl⟩
          obtain ⟨u3, hu⟩ := wr_eq
          rw [← hu] at bl ⊢
          clear hu hbw
          have B3 := B2.trans (bl.mono B2.size)
          have z3 := bl.size
          have ol_3 := ol_2.keep bl
          clear ol_2 bl
          go_wp2_with fail
          refine (hJ _ (ol_3.row InputR.enc_len)).mono ?_
          rintro e u4 ⟨rfl, b⟩
          have B4 := B3.trans (b.mono B3.size)
          have z4 := b.size
          have ol_4 := ol_3.keep b
          clear ol_3 b
          go_wp2
          all_goals go_returns
          all_goals exact ⟨ret_bool (by first | rfl | simp), B4⟩
    · obtain rfl : N = -2 := by rw [hN, hF]
      clear hN hF hn
      go_wp2_with fail
      refine (hI _ (ol_0.row InputR.enc_len)).mono ?_
      rintro e u1 ⟨rfl, b⟩
      have B1 := B0.trans (b.mono B0.size)
      have z1 := b.size
      have ol_1 := ol_0.keep b
      clear ol_0 b
      go_wp2_with fail
      refine (hS _ (ol_1.row InputR.enc_len)).mono ?_
      rintro e u2 ⟨rfl, b⟩
      have B2 := B1.trans (b.mono B1.size)
      have z2 := b.size
      have ol_2 := ol_1.keep b
      clear ol_1 b
      go_wp2_with fail
      refine (hS _ (ol_2.row InputR.enc_len)).mono ?_
      rintro e u3 ⟨rfl, b⟩
      have B3 := B2.trans (b.mono B2.size)
      have z3 := b.size
      have ol_3 := ol_2.keep b
      clear ol_2 b
      go_wp2
      all_goals go_returns
      all_goals exact ⟨ret_bool (by first | rfl | simp), B3⟩
  · go_enter Try.func4, Try.ntmps4
    go_wp2
    all_goals go_returns
    all_goals exact ⟨rfl, Below.refl _ _⟩
set_option maxRecDepth 100000 in
theorem lifted (os : Os) (started : os.Started) (H : Type) (enc : TypeId × Value → H) :
    ReturnsInHanded {} Try.checked os 4 .any (Rows.fnMergeMarksSpec.pre6 enc Try.prog Try.f4 Rows.fnMergeMarksRow.domain false) (Rows.fnMergeMarksSpec.post enc Try.prog Try.f4 false true false false) := by
  refine returnsInHanded_of_change (C := Try.checked) own started (by kernel_rfl) Try.func4
    (ChangeSpec.witness6 (enc := enc) (C := Try.checked) false ⟨#[], #[.slice none 0 0], []⟩ 8 (by kernel_rfl) (by kernel_rfl) (by kernel_rfl) (by kernel_rfl)) ?_
  intro W base args ds gs before hval0 hW hcnd _
  have hval : ∀ (j : Nat) t v, Try.f4.params[j]? = some t → args[j]? = some v → Value.okWide Try.prog W .any base t v := hval0
  have hW' := hW
  obtain ⟨p, q, hA0, hV, rfl, hfz, hnd⟩ := hW
  have hA : DataW.TrodAll enc Try.prog W 0 (fun _ => true) true Try.f4.params.toList args.toList ds p := hA0
  rw [Try.params4] at hA hval
  obtain ⟨v0, vs0, d0, ds0, p0, q0, hargs, rfl, rfl, h0, r0⟩ := trodAll_cons hA
  obtain ⟨rfl, rfl, rfl⟩ := trodAll_nil r0
  obtain rfl : args = #[v0] := by cases args; simp_all
  obtain ⟨rfl, rfl⟩ := trodVars_none hV
  have k0 := h0
  have lt0 : ∀ x ∈ p0, x.block < W.heap.size := by obtain ⟨m, hm⟩ := k0; exact DataW.trod_lt m _ _ _ hm
  obtain ⟨a0, len0, cap0, rfl⟩ := okWide_slice Try.underlying22 (hval 0 22 v0 rfl rfl)
  obtain ⟨z0, w0⟩ : ∃ zs, IsRow .u8 W a0 len0 cap0 zs := by
    obtain ⟨fuel, hf⟩ := h0
    rcases open_ints Try.underlying22 Try.underlying5 (by kernel_rfl) hf with ⟨hcs, _⟩ | ⟨x, l, c, zs, hcs, _, hl, hm, hz, hx, hcell, hwz⟩
    · simp [Value.cells] at hcs
      obtain ⟨rfl, rfl, rfl⟩ := hcs
      exact ⟨[], .inl ⟨rfl, rfl, rfl, rfl⟩⟩
    · simp [Value.cells] at hcs
      obtain ⟨rfl, rfl, rfl⟩ := hcs
      exact ⟨zs, .inr ⟨_, rfl, hl, hm, by simpa using hz, hcell, hwz⟩⟩
  clear hA0 hval0
  refine (walk a0 len0 cap0 z0 W w0).mono fun e W' ⟨he, bel⟩ => ?_
  subst he
  exact ⟨_, rfl, _, _, _, [], _, [], hW', trodAll_mk1 (shut_bool Try.underlying4 _), (trodAll_cons_mk (Below.trod laidOut (by kernel_rfl) (of_decide_eq_true (by kernel_rfl)) k0 bel lt0) trodAll_mk0), rfl, bel.frame _, fun h => by cases h⟩

theorem closed : joinedFacts Try.checked.prog 4 Try.f4 Rows.fnMergeMarksSpec Rows.fnMergeMarksRow = true := by
  unfold joinedFacts
  rw [mayE, liftE, makeE]
  kernel_rfl

theorem over : Rows.fnMergeMarksRow.holds Try.pinned (OpenSpec.ofChange Rows.fnMergeMarksSpec) :=
  OpenClaim.holds_of_wide 4 Try.f4 rfl rfl rfl rfl rfl rfl rfl ⟨rfl, rfl, rfl, rfl, rfl⟩ rfl rfl rfl rfl rfl (by kernel_rfl) Try.func4 closed
    (of_decide_eq_true (by kernel_rfl)) (by unfold Func.isWrapper; first | (rw [if_pos (by decide +kernel)]; kernel_rfl) | (rw [if_neg (by decide +kernel)]; exact ⟨rfl, rfl⟩))
    (fun os started H enc _ => lifted os started H enc)

theorem proved : Rows.FnMergeMarksSaid := over
#print axioms proved
end Go.Proofs.Ytehedhkadjidpab.fnMergeMarks
