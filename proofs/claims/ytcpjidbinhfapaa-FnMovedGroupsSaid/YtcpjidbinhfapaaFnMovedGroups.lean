/- The law FnMovedGroups answers true at every input and leaves its arguments as they were; no condition. -/
import Derived.Test.YtcpjidbinhfapaaRows
import Derived.WalkKit
import Derived.WalkSpells
import Derived.WalkLawsBesides
import Derived.ProofKit
import Derived.OpenShut
import Derived.ShutString
import Derived.ChangeOld
import Derived.Below
import Derived.Lib.SmallJoins
import Derived.Handy
import Derived.Test.YtcpjidbinhfapaaMv
import Derived.Test.YtcpjidbinhfapaaEqi
import Derived.Test.YtcpjidbinhfapaaKgD
import Derived.Test.YtcpjidbinhfapaaQb
namespace Go.Proofs.Ytcpjidbinhfapaa.fnMovedGroups
open Go.ChangeShapes Go.WideShapes Go.ChangeAt Go.RowKit Go.Joins
open Go.ChangeMaps (open_string shut_string)
set_option linter.unusedVariables false

theorem own : ownKnob Try.prog.godebug = none := by kernel_rfl
theorem laidOut : laidOutB Try.prog = true := by kernel_rfl
set_option maxHeartbeats 1000000 in
theorem walk (a0 : Option Addr) (len0 cap0 : Nat) (z0 : List Int) (w : World) (w0 : IsRow .u8 w a0 len0 cap0 z0) :
    Calls Try.prog 10 #[.slice a0 len0 cap0] w fun e w' => e = .returned (.bool true) ∧ Below w.heap.size w w' := by
  by_cases hlen : len0 ≤ 1048576
  · go_enter Try.func10, Try.ntmps10
    go_wp2_with fail
    refine (drawMovedGroups_any w a0 len0 cap0 z0 w0 hlen).mono ?_
    rintro e w1 ⟨a, b, rfl, a0', a1, b0, b1, hb1⟩
    have hS := mvF_symm b a
    have hl := mvF_len a b
    go_wp2_with fail
    refine (mvI_any a b w1).mono ?_
    rintro e w2 ⟨A1, c1, rfl, o1, bb⟩
    have B2 := hb1.trans (bb.mono hb1.size)
    clear bb
    go_wp2_with fail
    refine (mvS_any a b w2).mono ?_
    rintro e w3 ⟨A2, c2, rfl, o2, bb⟩
    have B3 := B2.trans (bb.mono B2.size)
    have o1b := o1.keep bb
    clear bb
    go_wp2_with fail
    refine (equalInts_same A1 A2 c1 c2 _ w3 (o1b.row IntR.enc_len) (o2.row IntR.enc_len)).mono ?_
    rintro e w4 ⟨rfl, bb⟩
    have B4 := B3.trans (bb.mono B3.size)
    have o1c := o1b.keep bb
    clear bb o2 o1b o1
    go_wp2_with fail
    refine (mvI_any b a w4).mono ?_
    rintro e w5 ⟨A3, c3, rfl, o3, bb⟩
    have B5 := B4.trans (bb.mono B4.size)
    have o1d := o1c.keep bb
    clear bb o1c
    rw [hS] at o3 ⊢
    have HS := Lib.hid hS
    clear hS
    go_wp2_with fail
    refine (equalInts_same A3 A1 c3 c1 _ w5 (o3.row IntR.enc_len) (o1d.row IntR.enc_len)).mono ?_
    rintro e w6 ⟨rfl, bb⟩
    have B6 := B5.trans (bb.mono B5.size)
    have ha := (o1d.keep bb).row IntR.enc_len
    clear bb o1d o3
    go_wp2
    go_loopw [6] (fun i wr => ∃ k : Nat, k ≤ (mvF a b).length ∧ i = .int .i64 k ∧ Below w6.heap.size w6 wr) (fun i _ => (mvF a b).length - (intOf i).toNat)
    case atStart => exact ⟨0, Nat.zero_le _, rfl, Below.refl _ _⟩
    case round =>
      obtain ⟨k, hk, rfl, hbw⟩ := hrel
      by_cases hlt : k < (mvF a b).length
      · obtain ⟨bk, off, rfl, hbk, q0⟩ := (ha.keep hbw).atInt hlt
        have hm := mvF_mem (List.getElem_mem hlt)
        generalize (mvF a b)[k] = x at *
        obtain ⟨x0, x1, hne⟩ := hm
        have s1 := stF_bd x a
        have s2 := stF_bd x b
        have hne' : (stF x a == stF x b) = false := by simp [hne]
        have i0 : (0 : Int) ≤ (k : Int) := by omega
        have i1 : (k : Int) < ((mvF a b).length : Int) := by omega
        have i5 : ((k : Int)).toNat = k := by omega
        have Q0 := Bw.cellOf hbk q0
        have Hne := Lib.hid hne
        clear hne
        go_wp2_with fail
        refine wp_region_quiet_below (by kernel_rfl) (by kernel_rfl) ?_
        repeat (any_goals (go_big_quiet_step ((go_at_call 20; refine Calls.below_same (stI_any _ _ _)))))
        refine wpQuiet_nil ?_
        intro w7 hb7
        have hbw2 := hbw.trans (hb7.mono hbw.size)
        go_wp2
        go_roundw
        case rel => exact ⟨k + 1, by omega, by go_num, hbw2⟩
        case measure => simp [intOf]; omega
      · have BE := B6.trans (hbw.mono B6.size)
        by_cases hab : a = b
        · subst hab
          have h0 : (mvF a a).length = 0 := by rw [mvF_self]; rfl
          go_wp2
          all_goals go_returns
          all_goals exact ⟨ret_bool (by simp [h0]), BE⟩
        · have hn : (a != b) = true := by simp [hab]
          clear hab
          go_wp2
          all_goals go_returns
          all_goals exact ⟨ret_bool (by simp), BE⟩
  · go_enter Try.func10, Try.ntmps10
    go_wp2
    all_goals go_returns
    all_goals exact ⟨rfl, Below.refl _ _⟩
set_option maxRecDepth 100000 in
theorem lifted (os : Os) (started : os.Started) (H : Type) (enc : TypeId × Value → H) :
    ReturnsInHanded {} Try.checked os 10 .any (Rows.fnMovedGroupsSpec.pre6 enc Try.prog Try.f10 Rows.fnMovedGroupsRow.domain false) (Rows.fnMovedGroupsSpec.post enc Try.prog Try.f10 false true false false) := by
  refine returnsInHanded_of_change (C := Try.checked) own started (by kernel_rfl) Try.func10
    (ChangeSpec.witness6 (enc := enc) (C := Try.checked) false ⟨#[], #[.slice none 0 0], []⟩ 8 (by kernel_rfl) (by kernel_rfl) (by kernel_rfl) (by kernel_rfl)) ?_
  intro W base args ds gs before hval0 hW hcnd _
  have hval : ∀ (j : Nat) t v, Try.f10.params[j]? = some t → args[j]? = some v → Value.okWide Try.prog W .any base t v := hval0
  have hW' := hW
  obtain ⟨p, q, hA0, hV, rfl, hfz, hnd⟩ := hW
  have hA : DataW.TrodAll enc Try.prog W 0 (fun _ => true) true Try.f10.params.toList args.toList ds p := hA0
  rw [Try.params10] at hA hval
  obtain ⟨v0, vs0, d0, ds0, p0, q0, hargs, rfl, rfl, h0, r0⟩ := trodAll_cons hA
  obtain ⟨rfl, rfl, rfl⟩ := trodAll_nil r0
  obtain rfl : args = #[v0] := by cases args; simp_all
  obtain ⟨rfl, rfl⟩ := trodVars_none hV
  have k0 := h0
  have lt0 : ∀ x ∈ p0, x.block < W.heap.size := by obtain ⟨m, hm⟩ := k0; exact DataW.trod_lt m _ _ _ hm
  obtain ⟨a0, len0, cap0, rfl⟩ := okWide_slice Try.underlying32 (hval 0 32 v0 rfl rfl)
  obtain ⟨z0, w0⟩ : ∃ zs, IsRow .u8 W a0 len0 cap0 zs := by
    obtain ⟨fuel, hf⟩ := h0
    rcases open_ints Try.underlying32 Try.underlying5 (by kernel_rfl) hf with ⟨hcs, _⟩ | ⟨x, l, c, zs, hcs, _, hl, hm, hz, hx, hcell, hwz⟩
    · simp [Value.cells] at hcs
      obtain ⟨rfl, rfl, rfl⟩ := hcs
      exact ⟨[], .inl ⟨rfl, rfl, rfl, rfl⟩⟩
    · simp [Value.cells] at hcs
      obtain ⟨rfl, rfl, rfl⟩ := hcs
      exact ⟨zs, .inr ⟨_, rfl, hl, hm, by simpa using hz, hcell, hwz⟩⟩
  clear hA0 hval0
  refine (walk a0 len0 cap0 z0 W w0).mono fun e W' ⟨he, bel⟩ => ?_
  subst he
  exact ⟨_, rfl, _, _, _, [], _, [], hW', trodAll_mk1 (shut_bool Try.underlying4 _), (trodAll_cons_mk (Below.trod laidOut (by kernel_rfl) (of_decide_eq_true (by kernel_rfl)) k0 bel lt0) trodAll_mk0), rfl, bel.frame _, fun h => by cases h⟩

theorem over : Rows.fnMovedGroupsRow.holds Try.pinned (OpenSpec.ofChange Rows.fnMovedGroupsSpec) :=
  OpenClaim.holds_of_wide 10 Try.f10 rfl rfl rfl rfl rfl rfl rfl ⟨rfl, rfl, rfl, rfl, rfl⟩ rfl rfl rfl rfl rfl (by kernel_rfl) Try.func10 (by kernel_rfl)
    (of_decide_eq_true (by kernel_rfl)) (by unfold Func.isWrapper; first | (rw [if_pos (by decide +kernel)]; kernel_rfl) | (rw [if_neg (by decide +kernel)]; exact ⟨rfl, rfl⟩))
    (fun os started H enc _ => lifted os started H enc)

theorem proved : Rows.FnMovedGroupsSaid := over
#print axioms proved
end Go.Proofs.Ytcpjidbinhfapaa.fnMovedGroups
