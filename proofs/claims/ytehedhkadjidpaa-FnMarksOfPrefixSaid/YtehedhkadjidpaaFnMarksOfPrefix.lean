/- The law FnMarksOfPrefix answers true at every input and leaves its arguments as they were; no condition. -/
import Derived.Test.YtehedhkadjidpaaRows
import Derived.WalkKit
import Derived.WalkSpells
import Derived.WalkLawsBesides
import Derived.ProofKit
import Derived.OpenShut
import Derived.ShutString
import Derived.ChangeOld
import Derived.Below
import Derived.Lib.SmallJoins
import Derived.Handy
import Derived.Test.YtehedhkadjidpaaMay
import Derived.Test.YtehedhkadjidpaaLtP
namespace Go.Proofs.Ytehedhkadjidpaa.fnMarksOfPrefix
open Go.ChangeShapes Go.WideShapes Go.ChangeAt Go.RowKit Go.Joins
open Go.ChangeMaps (open_string shut_string)
set_option linter.unusedVariables false

theorem own : ownKnob Try.prog.godebug = none := by kernel_rfl
theorem laidOut : laidOutB Try.prog = true := by kernel_rfl
set_option maxRecDepth 100000 in
set_option maxHeartbeats 1000000 in
theorem walk (a0 : Option Addr) (len0 cap0 : Nat) (z0 : List Int) (w : World) (w0 : IsRow .u8 w a0 len0 cap0 z0) :
    Calls Try.prog 10 #[.slice a0 len0 cap0] w fun e w' => e = .returned (.bool true) ∧ Below w.heap.size w w' := by
  by_cases hlen : len0 ≤ 1048576
  · go_enter Try.func10, Try.ntmps10
    go_wp2_with fail
    refine (drawMarksOf_any w a0 len0 cap0 z0 w0 hlen).mono ?_
    rintro e u0 ⟨A, c, l, n, rfl, ol_0, l41, n0, n1, B0⟩
    obtain ⟨M, hM⟩ : ∃ L, L = marksF l n := ⟨_, rfl⟩
    have hI := fun W hr => implMarksOf_any A c l n W hr
    have hS := fun W hr => specMarksOf_any A c l n W hr
    rw [← hM] at hI hS
    have HM := Lib.hid hM
    clear hM
    have hc41 := ol_0.lenCap
    go_wp2_with fail
    refine (hI _ (ol_0.row EventR.enc_len)).mono ?_
    rintro e u1 ⟨A1, c1, rfl, q1, b⟩
    have B1 := B0.trans (b.mono B0.size)
    have z1 := b.size
    have ol_1 := ol_0.keep b
    clear ol_0 b
    have oa_1 := q1
    clear q1
    go_wp2_with fail
    refine (hS _ (ol_1.row EventR.enc_len)).mono ?_
    rintro e u2 ⟨A2, c2, rfl, q1, b⟩
    have B2 := B1.trans (b.mono B1.size)
    have z2 := b.size
    have ol_2 := ol_1.keep b
    have oa_2 := oa_1.keep b
    clear ol_1 oa_1 b
    have ob_2 := q1
    clear q1
    have hm41 := oa_2.1
    have hcm := oa_2.lenCap
    go_wp2_with fail
    refine (equalInts_same A1 A2 c1 c2 M _ (oa_2.row IntR.enc_len) (ob_2.row IntR.enc_len)).mono ?_
    rintro e u3 ⟨rfl, b⟩
    have B3 := B2.trans (b.mono B2.size)
    have z3 := b.size
    have ol_3 := ol_2.keep b
    have oa_3 := oa_2.keep b
    have ob_3 := ob_2.keep b
    clear ol_2 oa_2 ob_2 b
    by_cases hz : M.length = 0
    · have hd : ((M.length : Int) == 0) = true := by rw [hz]; rfl
      have HZ := Lib.hid hz
      clear hz
      go_wp2_with fail
      refine (hS _ (ol_3.row EventR.enc_len)).mono ?_
      rintro e u4 ⟨A4, c4, rfl, q1, b⟩
      have B4 := B3.trans (b.mono B3.size)
      have z4 := b.size
      have ol_4 := ol_3.keep b
      have oa_4 := oa_3.keep b
      have ob_4 := ob_3.keep b
      clear ol_3 oa_3 ob_3 b
      have oc_4 := q1
      clear q1
      go_wp2_with fail
      refine (equalInts_same A1 A4 c1 c4 M _ (oa_4.row IntR.enc_len) (oc_4.row IntR.enc_len)).mono ?_
      rintro e u5 ⟨rfl, b⟩
      have B5 := B4.trans (b.mono B4.size)
      have z5 := b.size
      have ol_5 := ol_4.keep b
      have oa_5 := oa_4.keep b
      have ob_5 := ob_4.keep b
      have oc_5 := oc_4.keep b
      clear ol_4 oa_4 ob_4 oc_4 b
      go_wp2
      all_goals go_returns
      all_goals exact ⟨ret_bool (by first | rfl | simp), B5⟩
    · have hd : ((M.length : Int) == 0) = false := by rw [beq_eq_false_iff_ne]; omega
      have hML : M.length = l.length := by rw [HM.out]; exact marksF_len (by rw [← HM.out]; exact hz)
      have hMLa : M.length ≤ l.length := by omega
      have hMLb : l.length ≤ M.length := by omega
      have Htk := Lib.hid (fun k => show marksF (l.take k) n = M.take k by rw [HM.out]; exact marksF_take (by rw [← HM.out]; exact hz) k)
      clear hML hz hI hS
      have RL := ol_3.row EventR.enc_len
      have RM := oa_3.row IntR.enc_len
      go_wp2_with fail
      go_loopw [6] (fun i wr => ∃ k : Nat, k ≤ l.length ∧ i = .int .i64 k ∧ Below u3.heap.size u3 wr) (fun i _ => l.length + 1 - (intOf i).toNat)
      case atStart => exact ⟨0, Nat.zero_le _, rfl, Below.refl _ _⟩
      case round =>
        obtain ⟨k, hk, rfl, hbw⟩ := hrel
        by_cases hlt : k < l.length
        · have i0 : (0 : Int) ≤ (k : Int) := by omega
          have i1 : (k : Int) < (l.length : Int) := by omega
          have i2 : (k : Int) ≤ (c : Int) := by omega
          have i3 : (k : Int) ≤ (c1 : Int) := by omega
          have i5 : ((k : Int)).toNat = k := by omega
          have hJ := fun W hr => implMarksOf_n A c (l.take k) n k (by rw [List.length_take]; omega) W hr
          rw [Htk.out k] at hJ
          have HJ := Lib.hid hJ
          have RLk := (RL.keep hbw).take k
          have RMk := (RM.keep hbw).take k
          have hmk : k = (M.take k).length := by rw [List.length_take]; omega
          have Hmk := Lib.hid hmk
          clear hJ hmk
          go_wp2_with fail
          go_region_held3 (fun w' => wr.heap.size + 0 ≤ w'.heap.size ∧ Below wr.heap.size wr w') ((go_split_ands; (try have hz0 := b2.size); (try have hz1 := b1.size); (repeat' apply And.intro) <;> first | assumption | (simp only [World.cell?_drew]; assumption) | (simp only [World.size_drew]; omega) | omega | exact Below.drew (Below.refl _ _) | (refine (b2.cell (by first | omega | (simp; done) | (simp; omega))).trans ?_; first | assumption | (simp only [World.cell?_drew]; assumption)) | (refine Below.trans ?_ (b2.mono (by first | omega | (simp; done) | (simp; omega) | (exact Below.size (by assumption)))); first | assumption | exact Below.drew (Below.refl _ _)) | (refine (b1.cell (by first | omega | (simp; done) | (simp; omega))).trans ?_; first | assumption | (simp only [World.cell?_drew]; assumption)) | (refine Below.trans ?_ (b1.mono (by first | omega | (simp; done) | (simp; omega) | (exact Below.size (by assumption)))); first | assumption | exact Below.drew (Below.refl _ _)) | (go_grown; done) | (simp; done) | (simp; omega) | (go_keep; done))) (first | (have _t := o1; go_at_call 39; go_split_ands; refine (equalInts_n A1' A1 d1 c1 (M.take k) k k Hmk.out Hmk.out _ (by first | exact o1.row IntR.enc_len | exact (o1.row IntR.enc_len).keep (Below.drew (Below.refl _ _))) (RMk.keep (by assumption))).mono ?_; rintro e w5 ⟨rfl, b2⟩) | (go_at_call 38; go_split_ands; refine (HJ.out _ (RLk.keep (by assumption))).mono ?_; rintro e w4 ⟨A1', d1, rfl, o1, b1⟩; (rw [← Hmk.out] at o1 ⊢)))
          have hbw1 : Below u3.heap.size u3 w5 := hbw.trans ((‹_ ∧ Below wr.heap.size wr w5›).2.mono hbw.size)
          go_wp2
          go_roundw
          case rel => exact ⟨k + 1, by omega, by go_num, hbw1⟩
          case measure => simp [intOf]; omega
        · go_wp2
          all_goals go_returns
          all_goals exact ⟨ret_bool rfl, B3.trans (hbw.mono B3.size)⟩
  · go_enter Try.func10, Try.ntmps10
    go_wp2
    all_goals go_returns
    all_goals exact ⟨rfl, Below.refl _ _⟩
set_option maxRecDepth 100000 in
theorem lifted (os : Os) (started : os.Started) (H : Type) (enc : TypeId × Value → H) :
    ReturnsInHanded {} Try.checked os 10 .any (Rows.fnMarksOfPrefixSpec.pre6 enc Try.prog Try.f10 Rows.fnMarksOfPrefixRow.domain false) (Rows.fnMarksOfPrefixSpec.post enc Try.prog Try.f10 false true false false) := by
  refine returnsInHanded_of_change (C := Try.checked) own started (by kernel_rfl) Try.func10
    (ChangeSpec.witness6 (enc := enc) (C := Try.checked) false ⟨#[], #[.slice none 0 0], []⟩ 8 (by kernel_rfl) (by kernel_rfl) (by kernel_rfl) (by kernel_rfl)) ?_
  intro W base args ds gs before hval0 hW hcnd _
  have hval : ∀ (j : Nat) t v, Try.f10.params[j]? = some t → args[j]? = some v → Value.okWide Try.prog W .any base t v := hval0
  have hW' := hW
  obtain ⟨p, q, hA0, hV, rfl, hfz, hnd⟩ := hW
  have hA : DataW.TrodAll enc Try.prog W 0 (fun _ => true) true Try.f10.params.toList args.toList ds p := hA0
  rw [Try.params10] at hA hval
  obtain ⟨v0, vs0, d0, ds0, p0, q0, hargs, rfl, rfl, h0, r0⟩ := trodAll_cons hA
  obtain ⟨rfl, rfl, rfl⟩ := trodAll_nil r0
  obtain rfl : args = #[v0] := by cases args; simp_all
  obtain ⟨rfl, rfl⟩ := trodVars_none hV
  have k0 := h0
  have lt0 : ∀ x ∈ p0, x.block < W.heap.size := by obtain ⟨m, hm⟩ := k0; exact DataW.trod_lt m _ _ _ hm
  obtain ⟨a0, len0, cap0, rfl⟩ := okWide_slice Try.underlying30 (hval 0 30 v0 rfl rfl)
  obtain ⟨z0, w0⟩ : ∃ zs, IsRow .u8 W a0 len0 cap0 zs := by
    obtain ⟨fuel, hf⟩ := h0
    rcases open_ints Try.underlying30 Try.underlying5 (by kernel_rfl) hf with ⟨hcs, _⟩ | ⟨x, l, c, zs, hcs, _, hl, hm, hz, hx, hcell, hwz⟩
    · simp [Value.cells] at hcs
      obtain ⟨rfl, rfl, rfl⟩ := hcs
      exact ⟨[], .inl ⟨rfl, rfl, rfl, rfl⟩⟩
    · simp [Value.cells] at hcs
      obtain ⟨rfl, rfl, rfl⟩ := hcs
      exact ⟨zs, .inr ⟨_, rfl, hl, hm, by simpa using hz, hcell, hwz⟩⟩
  clear hA0 hval0
  refine (walk a0 len0 cap0 z0 W w0).mono fun e W' ⟨he, bel⟩ => ?_
  subst he
  exact ⟨_, rfl, _, _, _, [], _, [], hW', trodAll_mk1 (shut_bool Try.underlying4 _), (trodAll_cons_mk (Below.trod laidOut (by kernel_rfl) (of_decide_eq_true (by kernel_rfl)) k0 bel lt0) trodAll_mk0), rfl, bel.frame _, fun h => by cases h⟩

theorem closed : joinedFacts Try.checked.prog 10 Try.f10 Rows.fnMarksOfPrefixSpec Rows.fnMarksOfPrefixRow = true := by
  unfold joinedFacts
  rw [mayE, liftE, makeE]
  kernel_rfl

theorem over : Rows.fnMarksOfPrefixRow.holds Try.pinned (OpenSpec.ofChange Rows.fnMarksOfPrefixSpec) :=
  OpenClaim.holds_of_wide 10 Try.f10 rfl rfl rfl rfl rfl rfl rfl ⟨rfl, rfl, rfl, rfl, rfl⟩ rfl rfl rfl rfl rfl (by kernel_rfl) Try.func10 closed
    (of_decide_eq_true (by kernel_rfl)) (by unfold Func.isWrapper; first | (rw [if_pos (by decide +kernel)]; kernel_rfl) | (rw [if_neg (by decide +kernel)]; exact ⟨rfl, rfl⟩))
    (fun os started H enc _ => lifted os started H enc)

theorem proved : Rows.FnMarksOfPrefixSaid := over
#print axioms proved
end Go.Proofs.Ytehedhkadjidpaa.fnMarksOfPrefix
