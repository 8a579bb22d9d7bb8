/- The law FnChannelNew answers true at every input and leaves its arguments as they were; no condition. -/
import Derived.Test.YtcpjidbinhfapabRows
import Derived.WalkKit
import Derived.WalkSpells
import Derived.WalkLawsBesides
import Derived.ProofKit
import Derived.OpenShut
import Derived.ShutString
import Derived.ChangeOld
import Derived.Below
import Derived.Lib.SmallJoins
import Derived.Handy
import Derived.Test.YtcpjidbinhfapabChM
import Derived.Test.YtcpjidbinhfapabChD0
import Derived.Deep.RegionHeld3
namespace Go.Proofs.Ytcpjidbinhfapab.fnChannelNew
open Go.ChangeShapes Go.WideShapes Go.ChangeAt Go.RowKit Go.Joins
open Go.ChangeMaps (open_string shut_string)
set_option linter.unusedVariables false

theorem own : ownKnob Try.prog.godebug = none := by kernel_rfl
theorem laidOut : laidOutB Try.prog = true := by kernel_rfl
set_option maxHeartbeats 1000000 in
theorem walk (a0 : Option Addr) (len0 cap0 : Nat) (z0 : List Int) (w : World) (w0 : IsRow .u8 w a0 len0 cap0 z0) :
    Calls Try.prog 3 #[.slice a0 len0 cap0] w fun e w' => e = .returned (.bool true) ∧ Below w.heap.size w w' := by
  by_cases hlen : len0 ≤ 1048576
  · go_enter Try.func3, Try.ntmps3
    go_wp2_with fail
    refine (drawChannelNew_any w a0 len0 cap0 z0 w0 hlen).mono ?_
    rintro e w1 ⟨n, rfl, n0, n1, B1⟩
    obtain ⟨L0, hL0⟩ : ∃ L : List ItemR, L = [] := ⟨_, rfl⟩
    have HL0 := Lib.hid hL0
    clear hL0
    by_cases hv : 1 ≤ n ∧ n ≤ 8
    · obtain ⟨nv1, nv2⟩ := hv
      have HF := Lib.hid (show cnF n = n by unfold cnF; rw [if_pos ⟨nv1, nv2⟩])
      have hn0 : (n == 0) = false := by simp; omega
      go_wp2_with fail
      refine (newI_M L0 HL0.out n n HF.out w1).mono ?_
      rintro e w2 ⟨A1, c1, rfl, o1, b⟩
      have B2 := B1.trans (b.mono B1.size)
      have X0 := Bx.made w2 (.int .i64 n) (.int .i64 n) (.slice A1 L0.length c1) 26
      have hN : Below w2.heap.size w2 (w2.alloc (.cells #[.int .i64 n, .int .i64 n, .slice A1 L0.length c1] 26)) := (Below.refl _ _).alloc (Nat.le_refl _) _
      have B3 := B2.trans (hN.mono B2.size)
      have o3 := own_rebase (B := w.heap.size) (o1.keep hN) B1.size
      have q3 : ∀ g, Value.ownBlock (.slice A1 L0.length c1) = some g → g ≠ w2.heap.size := fun g hg => by have := (o1.lt g hg).2; omega
      have zG : w.heap.size ≤ w2.heap.size := B2.size
      have hX := X0
      obtain ⟨p0, p1, p2, pf, pl⟩ := hX
      go_wp2_with fail
      clear o1 b hN B2 B1
      generalize (w2.alloc (.cells #[.int .i64 n, .int .i64 n, .slice A1 L0.length c1] 26)) = w3 at *
      have yy : w3.heap.size ≤ w3.heap.size := Nat.le_refl _
      have K0 : Below w3.heap.size w3 w3 := Below.refl _ _
      go_region_held3 (fun w' => w'.cell? ⟨w2.heap.size, 0, none⟩ = some (.int .i64 n) ∧ w'.cell? ⟨w2.heap.size, 1, none⟩ = some (.int .i64 n) ∧ w'.cell? ⟨w2.heap.size, 2, none⟩ = some (.slice A1 L0.length c1) ∧ w3.heap.size ≤ w'.heap.size ∧ Below w3.heap.size w3 w') (((repeat' apply And.intro) <;> first | (with_reducible assumption) | (simp only [World.cell?_drew]; with_reducible assumption) | (simp only [World.size_drew]; with_reducible assumption) | (exact Below.drew (by with_reducible assumption)) | (go_keep; done))) (first | (go_at_call 12; go_split_ands; refine (newS_M L0 HL0.out n n HF.out _).mono ?_; rintro e v1 ⟨A2, c2, rfl, o2, b1_r⟩; have z1_r : w3.heap.size ≤ v1.heap.size := Nat.le_trans (by with_reducible assumption) b1_r.size; have K1_r : Below w3.heap.size w3 v1 := Below.trans (by with_reducible assumption) (b1_r.mono (by with_reducible assumption)); have s0_1 := (K1_r.cell pl).trans p0; have s1_1 := (K1_r.cell pl).trans p1; have s2_1 := (K1_r.cell pl).trans p2) | (go_at_call 11; go_split_ands; refine (equalChannel_same n n A1 c1 A2 c2 L0 _ ((o3.row ItemR.enc_len).keep K1_r) (o2.row ItemR.enc_len)).mono ?_; rintro e v2 ⟨rfl, b2_r⟩; have z2_r : w3.heap.size ≤ v2.heap.size := Nat.le_trans (by with_reducible assumption) b2_r.size; have K2_r : Below w3.heap.size w3 v2 := Below.trans (by with_reducible assumption) (b2_r.mono (by with_reducible assumption)); have s0_2 := (K2_r.cell pl).trans p0; have s1_2 := (K2_r.cell pl).trans p1; have s2_2 := (K2_r.cell pl).trans p2))
      have b2 : Below w3.heap.size w3 v2 := K2_r
      have X1 := X0.keep b2
      have o4 := o3.keep b2
      have B4 := B3.trans (b2.mono B3.size)
      rename_i hHeld
      clear hHeld s0_1 s1_1 s2_1 s0_2 s1_2 s2_2 b2_r b1_r K1_r K2_r z1_r z2_r yy K0 b2 o3 X0 B3 o2 p0 p1 p2 pf pl
      obtain ⟨N, rfl⟩ := Int.eq_ofNat_of_zero_le (show 0 ≤ n by omega)
      have N1 : 1 ≤ N := by omega
      have N8 : N ≤ 8 := by omega
      have hst : ∃ A c, Bx v2 w2.heap.size (.int .i64 N) (.int .i64 ((N : Int) - ((0 : Nat) : Int))) (.slice A (lstN 0).length c) ∧ Own ItemR.enc 2 32 v2 w.heap.size (.slice A (lstN 0).length c) (lstN 0) ∧ (∀ g, Value.ownBlock (.slice A (lstN 0).length c) = some g → g ≠ w2.heap.size) ∧ Below w.heap.size w v2 := by
        have e : lstN 0 = L0 := by rw [HL0.out]; rfl
        rw [e]
        have e2 : (N : Int) - ((0 : Nat) : Int) = N := by omega
        rw [e2]
        exact ⟨A1, c1, X1, o4, q3, B4⟩
      have Hst := Lib.hid hst
      clear hst X1 o4 q3 B4
      go_wp2
      go_loopw [5] (fun i wr => ∃ k : Nat, k ≤ N ∧ i = .int .i64 k ∧ ∃ A c, Bx wr w2.heap.size (.int .i64 N) (.int .i64 ((N : Int) - (k : Int))) (.slice A (lstN k).length c) ∧ Own ItemR.enc 2 32 wr w.heap.size (.slice A (lstN k).length c) (lstN k) ∧ (∀ g, Value.ownBlock (.slice A (lstN k).length c) = some g → g ≠ w2.heap.size) ∧ Below w.heap.size w wr) (fun i _ => N - (intOf i).toNat)
      case atStart => exact ⟨0, Nat.zero_le _, rfl, Hst.out⟩
      case round =>
        obtain ⟨k, hk, rfl, A, c, X, o, q, B⟩ := hrel
        clear Hst
        obtain ⟨M, hM⟩ : ∃ M : Int, M = (N : Int) - (k : Int) := ⟨_, rfl⟩
        rw [← hM] at X
        have HM := Lib.hid hM
        clear hM
        have hX := X
        obtain ⟨p0, p1, p2, pf, pl⟩ := hX
        by_cases hlt : k < N
        · have hsd := sd_lst N1 N8 hlt HM.out
          have hC := implSd_any (N : Int) M A c (lstN k) ⟨0, (k : Int)⟩ wr (o.row ItemR.enc_len)
          rw [hsd] at hC
          clear hsd
          go_wp2_with fail
          refine hC.mono ?_
          rintro e w6 ⟨A2, c2, rfl, o2, b⟩
          clear hC p0 p1 p2 pf pl
          have hA : Below w6.heap.size w6 (w6.alloc (.cells #[.int .i64 N, .int .i64 (M - 1), .slice A2 (lstN (k + 1)).length c2] 26)) := (Below.refl _ _).alloc (Nat.le_refl _) _
          have XG := X.2.2.2.2
          have X2 := (X.keep b).keep hA
          have q2 : ∀ g, Value.ownBlock (.slice A2 (lstN (k + 1)).length c2) = some g → g ≠ w2.heap.size := fun g hg => by have := (o2.lt g hg).1; omega
          have zw := B.size
          have o3 := own_rebase (B := w.heap.size) (o2.keep hA) zw
          have B2 := (B.trans (b.mono B.size)).trans (hA.mono (B.trans (b.mono B.size)).size)
          have X3 := ((X2.set0 (.int .i64 N)).set1 (.int .i64 (M - 1))).set2 (.slice A2 (lstN (k + 1)).length c2)
          have o4 := ((o3.set (p := ⟨w2.heap.size, 0, none⟩) q2 (.int .i64 N)).set (p := ⟨w2.heap.size, 1, none⟩) q2 (.int .i64 (M - 1))).set (p := ⟨w2.heap.size, 2, none⟩) q2 (.slice A2 (lstN (k + 1)).length c2)
          have B3 := ((B2.setCell (p := ⟨w2.heap.size, 0, none⟩) zG (.int .i64 N)).setCell (p := ⟨w2.heap.size, 1, none⟩) zG (.int .i64 (M - 1))).setCell (p := ⟨w2.heap.size, 2, none⟩) zG (.slice A2 (lstN (k + 1)).length c2)
          have e1 : M - 1 = (N : Int) - ((k + 1 : Nat) : Int) := by have := HM.out; omega
          have Hn := Lib.hid (show _ ∧ _ ∧ _ ∧ _ from ⟨X3.cast1 (val_int e1), o4, q2, B3⟩)
          clear e1
          have z6 := b.size
          clear X3 o4 B3 o3 B2 o2 b hA X o
          obtain ⟨r0, r1, r2, rf, rl⟩ := X2
          go_wp2
          go_roundw
          case rel => exact ⟨k + 1, by omega, by go_num, A2, c2, Hn.out.1, Hn.out.2.1, Hn.out.2.2.1, Hn.out.2.2.2⟩
          case measure => simp [intOf]; omega
        · have hsd := sd_full N1 N8 (show k = N by omega) HM.out
          have hC := implSd_any (N : Int) M A c (lstN k) ⟨0, 1⟩ wr (o.row ItemR.enc_len)
          rw [hsd] at hC
          clear hsd
          go_wp2_with fail
          refine hC.mono ?_
          rintro e w6 ⟨A2, c2, rfl, o2, b⟩
          clear hC p0 p1 p2 pf pl
          have hA : Below w6.heap.size w6 (w6.alloc (.cells #[.int .i64 N, .int .i64 M, .slice A2 (lstN k).length c2] 26)) := (Below.refl _ _).alloc (Nat.le_refl _) _
          have X2 := (X.keep b).keep hA
          have B2 := (B.trans (b.mono B.size)).trans (hA.mono (B.trans (b.mono B.size)).size)
          have hll : (((lstN k).length : Int) == (N : Int)) = true := by rw [lstN_len]; simp; omega
          clear X o o2 b hA
          obtain ⟨r0, r1, r2, rf, rl⟩ := X2
          go_wp2
          all_goals go_returns
          all_goals exact ⟨by first | rfl | (rw [hll]) | simp [hll], B2⟩
    · have HF := Lib.hid (show cnF n = 0 by unfold cnF; rw [if_neg hv])
      clear hv
      go_wp2_with fail
      refine (newI_M L0 HL0.out 0 n HF.out w1).mono ?_
      rintro e w2 ⟨A1, c1, rfl, o1, b⟩
      have B2 := B1.trans (b.mono B1.size)
      have X0 := Bx.made w2 (.int .i64 0) (.int .i64 0) (.slice A1 L0.length c1) 26
      have hN : Below w2.heap.size w2 (w2.alloc (.cells #[.int .i64 0, .int .i64 0, .slice A1 L0.length c1] 26)) := (Below.refl _ _).alloc (Nat.le_refl _) _
      have B3 := B2.trans (hN.mono B2.size)
      have o3 := o1.keep hN
      have hX := X0
      obtain ⟨p0, p1, p2, pf, pl⟩ := hX
      go_wp2_with fail
      clear o1 b hN B2 B1
      generalize (w2.alloc (.cells #[.int .i64 0, .int .i64 0, .slice A1 L0.length c1] 26)) = w3 at *
      have yy : w3.heap.size ≤ w3.heap.size := Nat.le_refl _
      have K0 : Below w3.heap.size w3 w3 := Below.refl _ _
      go_region_held3 (fun w' => w'.cell? ⟨w2.heap.size, 0, none⟩ = some (.int .i64 0) ∧ w'.cell? ⟨w2.heap.size, 1, none⟩ = some (.int .i64 0) ∧ w'.cell? ⟨w2.heap.size, 2, none⟩ = some (.slice A1 L0.length c1) ∧ w3.heap.size ≤ w'.heap.size ∧ Below w3.heap.size w3 w') (((repeat' apply And.intro) <;> first | (with_reducible assumption) | (simp only [World.cell?_drew]; with_reducible assumption) | (simp only [World.size_drew]; with_reducible assumption) | (exact Below.drew (by with_reducible assumption)) | (go_keep; done))) (first | (go_at_call 12; go_split_ands; refine (newS_M L0 HL0.out 0 n HF.out _).mono ?_; rintro e v1 ⟨A2, c2, rfl, o2, b1_r⟩; have z1_r : w3.heap.size ≤ v1.heap.size := Nat.le_trans (by with_reducible assumption) b1_r.size; have K1_r : Below w3.heap.size w3 v1 := Below.trans (by with_reducible assumption) (b1_r.mono (by with_reducible assumption)); have s0_1 := (K1_r.cell pl).trans p0; have s1_1 := (K1_r.cell pl).trans p1; have s2_1 := (K1_r.cell pl).trans p2) | (go_at_call 11; go_split_ands; refine (equalChannel_same 0 0 A1 c1 A2 c2 L0 _ ((o3.row ItemR.enc_len).keep K1_r) (o2.row ItemR.enc_len)).mono ?_; rintro e v2 ⟨rfl, b2_r⟩; have z2_r : w3.heap.size ≤ v2.heap.size := Nat.le_trans (by with_reducible assumption) b2_r.size; have K2_r : Below w3.heap.size w3 v2 := Below.trans (by with_reducible assumption) (b2_r.mono (by with_reducible assumption)); have s0_2 := (K2_r.cell pl).trans p0; have s1_2 := (K2_r.cell pl).trans p1; have s2_2 := (K2_r.cell pl).trans p2))
      have b2 : Below w3.heap.size w3 v2 := K2_r
      have X1 := X0.keep b2
      have o4 := o3.keep b2
      have B4 := B3.trans (b2.mono B3.size)
      rename_i hHeld
      clear hHeld s0_1 s1_1 s2_1 s0_2 s1_2 s2_2 b2_r b1_r K1_r K2_r z1_r z2_r yy K0 b2 o3 X0 B3 o2 p0 p1 p2 pf pl
      have hX := X1
      obtain ⟨p0, p1, p2, pf, pl⟩ := hX
      go_wp2_with fail
      have yy : v2.heap.size ≤ v2.heap.size := Nat.le_refl _
      have K0 : Below v2.heap.size v2 v2 := Below.refl _ _
      go_region_held3 (fun w' => w'.cell? ⟨w2.heap.size, 0, none⟩ = some (.int .i64 0) ∧ w'.cell? ⟨w2.heap.size, 1, none⟩ = some (.int .i64 0) ∧ w'.cell? ⟨w2.heap.size, 2, none⟩ = some (.slice A1 L0.length c1) ∧ v2.heap.size ≤ w'.heap.size ∧ Below v2.heap.size v2 w') (((repeat' apply And.intro) <;> first | (with_reducible assumption) | (simp only [World.cell?_drew]; with_reducible assumption) | (simp only [World.size_drew]; with_reducible assumption) | (exact Below.drew (by with_reducible assumption)) | (go_keep; done))) (first | (go_at_call 12; go_split_ands; refine (newS_M L0 HL0.out 0 n HF.out _).mono ?_; rintro e v3 ⟨A2, c2, rfl, o2, b1_r⟩; have z1_r : v2.heap.size ≤ v3.heap.size := Nat.le_trans (by with_reducible assumption) b1_r.size; have K1_r : Below v2.heap.size v2 v3 := Below.trans (by with_reducible assumption) (b1_r.mono (by with_reducible assumption)); have s0_1 := (K1_r.cell pl).trans p0; have s1_1 := (K1_r.cell pl).trans p1; have s2_1 := (K1_r.cell pl).trans p2) | (go_at_call 11; go_split_ands; refine (equalChannel_same 0 0 A1 c1 A2 c2 L0 _ ((o4.row ItemR.enc_len).keep K1_r) (o2.row ItemR.enc_len)).mono ?_; rintro e v4 ⟨rfl, b2_r⟩; have z2_r : v2.heap.size ≤ v4.heap.size := Nat.le_trans (by with_reducible assumption) b2_r.size; have K2_r : Below v2.heap.size v2 v4 := Below.trans (by with_reducible assumption) (b2_r.mono (by with_reducible assumption)); have s0_2 := (K2_r.cell pl).trans p0; have s1_2 := (K2_r.cell pl).trans p1; have s2_2 := (K2_r.cell pl).trans p2))
      have B5 : Below w.heap.size w v4 := B4.trans (K2_r.mono B4.size)
      rename_i hHeld
      clear hHeld s0_1 s1_1 s2_1 s0_2 s1_2 s2_2 b2_r b1_r K1_r K2_r z1_r z2_r yy K0
      go_wp2
      all_goals go_returns
      all_goals exact ⟨rfl, B5⟩
  · go_enter Try.func3, Try.ntmps3
    go_wp2
    all_goals go_returns
    all_goals exact ⟨rfl, Below.refl _ _⟩
set_option maxRecDepth 100000 in
theorem lifted (os : Os) (started : os.Started) (H : Type) (enc : TypeId × Value → H) :
    ReturnsInHanded {} Try.checked os 3 .any (Rows.fnChannelNewSpec.pre6 enc Try.prog Try.f3 Rows.fnChannelNewRow.domain false) (Rows.fnChannelNewSpec.post enc Try.prog Try.f3 false true false false) := by
  refine returnsInHanded_of_change (C := Try.checked) own started (by kernel_rfl) Try.func3
    (ChangeSpec.witness6 (enc := enc) (C := Try.checked) false ⟨#[], #[.slice none 0 0], []⟩ 8 (by kernel_rfl) (by kernel_rfl) (by kernel_rfl) (by kernel_rfl)) ?_
  intro W base args ds gs before hval0 hW hcnd _
  have hval : ∀ (j : Nat) t v, Try.f3.params[j]? = some t → args[j]? = some v → Value.okWide Try.prog W .any base t v := hval0
  have hW' := hW
  obtain ⟨p, q, hA0, hV, rfl, hfz, hnd⟩ := hW
  have hA : DataW.TrodAll enc Try.prog W 0 (fun _ => true) true Try.f3.params.toList args.toList ds p := hA0
  rw [Try.params3] at hA hval
  obtain ⟨v0, vs0, d0, ds0, p0, q0, hargs, rfl, rfl, h0, r0⟩ := trodAll_cons hA
  obtain ⟨rfl, rfl, rfl⟩ := trodAll_nil r0
  obtain rfl : args = #[v0] := by cases args; simp_all
  obtain ⟨rfl, rfl⟩ := trodVars_none hV
  have k0 := h0
  have lt0 : ∀ x ∈ p0, x.block < W.heap.size := by obtain ⟨m, hm⟩ := k0; exact DataW.trod_lt m _ _ _ hm
  obtain ⟨a0, len0, cap0, rfl⟩ := okWide_slice Try.underlying22 (hval 0 22 v0 rfl rfl)
  obtain ⟨z0, w0⟩ : ∃ zs, IsRow .u8 W a0 len0 cap0 zs := by
    obtain ⟨fuel, hf⟩ := h0
    rcases open_ints Try.underlying22 Try.underlying5 (by kernel_rfl) hf with ⟨hcs, _⟩ | ⟨x, l, c, zs, hcs, _, hl, hm, hz, hx, hcell, hwz⟩
    · simp [Value.cells] at hcs
      obtain ⟨rfl, rfl, rfl⟩ := hcs
      exact ⟨[], .inl ⟨rfl, rfl, rfl, rfl⟩⟩
    · simp [Value.cells] at hcs
      obtain ⟨rfl, rfl, rfl⟩ := hcs
      exact ⟨zs, .inr ⟨_, rfl, hl, hm, by simpa using hz, hcell, hwz⟩⟩
  clear hA0 hval0
  refine (walk a0 len0 cap0 z0 W w0).mono fun e W' ⟨he, bel⟩ => ?_
  subst he
  exact ⟨_, rfl, _, _, _, [], _, [], hW', trodAll_mk1 (shut_bool Try.underlying4 _), (trodAll_cons_mk (Below.trod laidOut (by kernel_rfl) (of_decide_eq_true (by kernel_rfl)) k0 bel lt0) trodAll_mk0), rfl, bel.frame _, fun h => by cases h⟩

theorem over : Rows.fnChannelNewRow.holds Try.pinned (OpenSpec.ofChange Rows.fnChannelNewSpec) :=
  OpenClaim.holds_of_wide 3 Try.f3 rfl rfl rfl rfl rfl rfl rfl ⟨rfl, rfl, rfl, rfl, rfl⟩ rfl rfl rfl rfl rfl (by kernel_rfl) Try.func3 (by kernel_rfl)
    (of_decide_eq_true (by kernel_rfl)) (by unfold Func.isWrapper; first | (rw [if_pos (by decide +kernel)]; kernel_rfl) | (rw [if_neg (by decide +kernel)]; exact ⟨rfl, rfl⟩))
    (fun os started H enc _ => lifted os started H enc)

theorem proved : Rows.FnChannelNewSaid := over
#print axioms proved
end Go.Proofs.Ytcpjidbinhfapab.fnChannelNew
