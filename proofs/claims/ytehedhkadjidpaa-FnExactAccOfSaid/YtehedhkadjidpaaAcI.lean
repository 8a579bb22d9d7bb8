import Derived.Test.YtehedhkadjidpaaAcS
import Derived.Test.YtehedhkadjidpaaMgI0
import Derived.Test.YtehedhkadjidpaaBo
import Derived.Deep.RegionWith
namespace Go.Proofs.Ytehedhkadjidpaa
open Go.RowKit
set_option maxHeartbeats 1000000 in
theorem sgI1_any (v : Int) (w : World) : Calls Try.prog 77 #[.int .i64 v] w fun e w' => e = .returned (.agg #[.int .i64 1, .int .i64 v, .int .i64 v, .int .i64 v]) ∧ Below w.heap.size w w' := by
  go_enter Try.func77, Try.ntmps77
  go_wp2
  all_goals go_returns
  all_goals exact ⟨rfl, by go_grown⟩
set_option maxHeartbeats 1000000 in
theorem acC_any (x : EventR) (w : World) : Calls Try.prog 76 #[.agg #[.int .i64 x.a0, .int .i64 x.a1, .int .i64 x.a2]] w fun e w' => e = .returned (.agg #[.int .i64 1, .int .i64 x.a2, .int .i64 x.a2, .int .i64 x.a2]) ∧ Below w.heap.size w w' := by
  go_enter Try.func76, Try.ntmps76
  go_wp2
  all_goals go_returns
  all_goals exact ⟨rfl, by go_grown⟩
/-- One step by the method merge. -/
theorem mgStepI_any (a : A4) (n : Nat) (v : Int) (w : World) (h : A4ok a n) (hn : n ≤ 40) (v0 : 0 ≤ v) (v9 : v ≤ 99) :
    Calls Try.prog 81 #[.agg #[.int .i64 a.c, .int .i64 a.s, .int .i64 a.l, .int .i64 a.m], .agg #[.int .i64 1, .int .i64 v, .int .i64 v, .int .i64 v]] w
      fun e w' => e = .returned (.agg #[.int .i64 (accStep a v).c, .int .i64 (accStep a v).s, .int .i64 (accStep a v).l, .int .i64 (accStep a v).m]) ∧ Below w.heap.size w w' := by
  obtain ⟨h1, h2, h3, h4, h5⟩ := h
  by_cases h0 : a.c = 0
  · obtain ⟨e1, e2, e3⟩ := h4 (by omega)
    rw [h0, e1, e2, e3]
    have e : accStep a v = ⟨1, v, v, v⟩ := by unfold accStep; rw [if_pos h0]
    rw [e]
    exact mergeI_0 1 v v v w
  · have e : accStep a v = ⟨a.c + 1, a.s + v, mnI a.l v, mxI a.m v⟩ := by unfold accStep; rw [if_neg h0]
    rw [e]
    exact mergeI_2 a.c a.s a.l a.m 1 v v v w (by omega) (by omega) (by omega) (by omega) h2 (by omega) v0 (by omega)
set_option maxRecDepth 100000 in
set_option maxHeartbeats 4000000 in
theorem mergeAll_any (A : Option Addr) (c : Nat) (l : List EventR) (w : World) (ha : Row EventR.enc 3 w A l) (hv : vEvs l = true) :
    Calls Try.prog 75 #[.slice A l.length c, .func (.func 76) #[] #[]] w fun e w' => e = .returned (accGo l).V ∧ Below w.heap.size w w' := by
  have hal := ha.1
  have Hv := Lib.hid hv
  have hB0 : Below w.heap.size w ((w.alloc (.cells #[.int .i64 0, .int .i64 0, .int .i64 0, .int .i64 0] 53)).alloc (.cells #[.int .i64 0, .int .i64 0, .int .i64 0, .int .i64 0] 53)) := by go_grown
  have R0 := (B4.made w (.int .i64 0) (.int .i64 0) (.int .i64 0) (.int .i64 0) 53).keep ((Below.refl _ _).alloc (Nat.le_refl _) (.cells #[.int .i64 0, .int .i64 0, .int .i64 0, .int .i64 0] 53))
  have O0 := B4.made (w.alloc (.cells #[.int .i64 0, .int .i64 0, .int .i64 0, .int .i64 0] 53)) (.int .i64 0) (.int .i64 0) (.int .i64 0) (.int .i64 0) 53
  simp only [World.size_alloc] at O0
  have HR := Lib.hid R0
  have HO := Lib.hid O0
  have HB0 := Lib.hid hB0
  clear hv R0 O0 hB0
  go_enter Try.func75, Try.ntmps75
  go_wp2
  go_loopw [10] (fun i wr => ∃ k : Nat, k ≤ l.length ∧ i = .int .i64 k ∧ B4 wr (w.heap.size + 1) (.int .i64 (accGo (l.take k)).c) (.int .i64 (accGo (l.take k)).s) (.int .i64 (accGo (l.take k)).l) (.int .i64 (accGo (l.take k)).m) ∧ B4 wr w.heap.size (.int .i64 0) (.int .i64 0) (.int .i64 0) (.int .i64 0) ∧ Below w.heap.size w wr) (fun i _ => l.length - (intOf i).toNat)
  case atStart => exact ⟨0, Nat.zero_le _, rfl, HO.out, HR.out, HB0.out⟩
  case round =>
    obtain ⟨k, hk, rfl, hO, hR, hbw⟩ := hrel
    clear HR HO HB0
    have hok := acc_take_ok Hv.out hk
    have hl40 := vEvs_40 Hv.out
    by_cases hlt : k < l.length
    · obtain ⟨b, off, rfl, hblt, q0, q1, q2⟩ := (ha.keep hbw).atEvent hlt
      have hx : l[k]? = some l[k] := List.getElem?_eq_getElem hlt
      have hbd := vEvs_v2 Hv.out _ (List.getElem_mem hlt)
      have hn := accGo_next hx
      generalize l[k] = x at *
      generalize accGo (l.take k) = a at *
      have Hn := Lib.hid hn
      obtain ⟨x0, x9⟩ := hbd
      have bE : Below wr.heap.size wr (wr.alloc (.cells #[.int .i64 x.a0, .int .i64 x.a1, .int .i64 x.a2] 32)) := (Below.refl _ _).alloc (Nat.le_refl _) _
      have Ho := Lib.hid (hO.keep bE)
      have Hr := Lib.hid (hR.keep bE)
      have hE : Bo (wr.alloc (.cells #[.int .i64 x.a0, .int .i64 x.a1, .int .i64 x.a2] 32)) wr.heap.size [.int .i64 x.a0, .int .i64 x.a1, .int .i64 x.a2] := Bo.made wr #[.int .i64 x.a0, .int .i64 x.a1, .int .i64 x.a2] 32
      have hbE := hbw.trans (bE.mono hbw.size)
      clear hx hn ha hO hR hbw
      go_wp2_with fail
      generalize (wr.alloc (.cells #[.int .i64 x.a0, .int .i64 x.a1, .int .i64 x.a2] 32)) = wE at *
      obtain ⟨p0, p1, p2, p3, pf, pl⟩ := Ho.out
      have d0 := hE.1 0 _ rfl
      have d1 := hE.1 1 _ rfl
      have d2 := hE.1 2 _ rfl
      have dl := hE.2
      clear bE q0 q1 q2
      go_region_with ((first | (go_at_call 76; (with_reducible refine (acC_any x _).mono ?_); rintro e v1 ⟨rfl, b1_r⟩; have K1_r : Below wE.heap.size wE v1 := (by first | exact b1_r | exact Below.trans (Below.refl wE.heap.size wE).drew (b1_r.mono (by simp))); have z1_r := K1_r.size; have s0_r := (K1_r.cell pl).trans p0; have s1_r := (K1_r.cell pl).trans p1; have s2_r := (K1_r.cell pl).trans p2; have s3_r := (K1_r.cell pl).trans p3) | (go_at_call 81; refine (mgStepI_any a k x.a2 _ hok (by omega) (by omega) (by omega)).mono ?_; rintro e v2 ⟨rfl, b2_r⟩; have K2_r : Below wE.heap.size wE v2 := K1_r.trans (b2_r.mono K1_r.size); have z2_r := K2_r.size; have hR2 := Ho.out.keep K2_r; obtain ⟨r0, r1, r2, r3, rf, rl⟩ := hR2)))
      all_goals
        have hf := below_set4 (g := w.heap.size + 1) (hbE.trans (K2_r.mono hbE.size)) (by omega) (.int .i64 (accStep a x.a2).c) (.int .i64 (accStep a x.a2).s) (.int .i64 (accStep a x.a2).l) (.int .i64 (accStep a x.a2).m)
        have hs := (Ho.out.keep K2_r).set (.int .i64 (accStep a x.a2).c) (.int .i64 (accStep a x.a2).s) (.int .i64 (accStep a x.a2).l) (.int .i64 (accStep a x.a2).m)
        have hr2 := b4_far4 (Hr.out.keep K2_r) (g' := w.heap.size + 1) (by omega) (.int .i64 (accStep a x.a2).c) (.int .i64 (accStep a x.a2).s) (.int .i64 (accStep a x.a2).l) (.int .i64 (accStep a x.a2).m)
        have Hp := Lib.hid (show _ ∧ _ ∧ _ from ⟨hs, hr2, hf⟩)
        clear hs hr2 hf
        go_wp2
        go_roundw
        case rel => exact ⟨k + 1, by omega, by go_num, by rw [Hn.out]; exact Hp.out.1, Hp.out.2.1, Hp.out.2.2⟩
        case measure => simp [intOf]; omega
    · have hkl : l.take k = l := List.take_of_length_le (by omega)
      have Ho := Lib.hid hO
      have Hr := Lib.hid hR
      obtain ⟨p0, p1, p2, p3, pf, pl⟩ := hO
      rw [hkl] at Ho p0 p1 p2 p3
      generalize hG : accGo l = a at *
      have HG := Lib.hid hG
      clear hG
      have hrs := Hr.out.set (.int .i64 a.c) (.int .i64 a.s) (.int .i64 a.l) (.int .i64 a.m)
      obtain ⟨e0, e1, e2, e3, ef, el⟩ := hrs
      obtain ⟨r0, r1, r2, r3, rf, rl⟩ := Hr.out
      have HB := Lib.hid (below_set4 hbw (Nat.le_refl _) (.int .i64 a.c) (.int .i64 a.s) (.int .i64 a.l) (.int .i64 a.m))
      clear hok hkl hR
      go_wp2
      all_goals (try simp only [Exit.inBlock, Exit.then])
      all_goals refine bodyPost_ret (v := a.V) (by simp [results, Try.results75, go_sem, e0, e1, e2, e3, A4.V]) rfl ?_
      all_goals exact ⟨by rw [HG.out], HB.out⟩
set_option maxRecDepth 100000 in
set_option maxHeartbeats 2000000 in
theorem implAccOf_any (A : Option Addr) (c : Nat) (l : List EventR) (w : World) (ha : Row EventR.enc 3 w A l) :
    Calls Try.prog 47 #[.slice A l.length c] w fun e w' => e = .returned (accF l).V ∧ Below w.heap.size w w' := by
  have hal := ha.1
  have hB0 : Below w.heap.size w (w.alloc (.cells #[.int .i64 0, .int .i64 0, .int .i64 0, .int .i64 0] 53)) := by go_grown
  have R0 := B4.made w (.int .i64 0) (.int .i64 0) (.int .i64 0) (.int .i64 0) 53
  go_enter Try.func47, Try.ntmps47
  go_wp2_with fail
  generalize (w.alloc (.cells #[.int .i64 0, .int .i64 0, .int .i64 0, .int .i64 0] 53)) = wA at *
  refine (implValidEvents_any A c l wA (ha.keep hB0)).mono ?_
  rintro e w1 ⟨rfl, hb1⟩
  have hB1 := hB0.trans (hb1.mono hB0.size)
  have R1 := R0.keep hb1
  clear hb1 R0 hB0
  rcases Bool.eq_false_or_eq_true (vEvs l) with hv | hv
  · rw [hv]
    have HF := Lib.hid (show accF l = accGo l by unfold accF; rw [if_pos hv])
    have Hc := Lib.hid (mergeAll_any A c l w1 (ha.keep hB1) hv)
    clear hv
    go_wp2_with fail
    refine Hc.out.mono ?_
    rintro e w2 ⟨rfl, hb2⟩
    have hB2 := hB1.trans (hb2.mono hB1.size)
    have R2 := R1.keep hb2
    generalize accGo l = a at *
    have hrs := R2.set (.int .i64 a.c) (.int .i64 a.s) (.int .i64 a.l) (.int .i64 a.m)
    obtain ⟨e0, e1, e2, e3, ef, el⟩ := hrs
    obtain ⟨r0, r1, r2, r3, rf, rl⟩ := R2
    have HB := Lib.hid (below_set4 hB2 (Nat.le_refl _) (.int .i64 a.c) (.int .i64 a.s) (.int .i64 a.l) (.int .i64 a.m))
    clear hb2 R1
    simp only [A4.V]
    go_wp2
    all_goals (try simp only [Exit.inBlock, Exit.then])
    all_goals refine bodyPost_ret (v := a.V) (by simp [results, Try.results47, go_sem, e0, e1, e2, e3, A4.V]) rfl ?_
    all_goals exact ⟨by rw [HF.out], HB.out⟩
  · rw [hv]
    have HF := Lib.hid (show accF l = ⟨0, 0, 0, 0⟩ by unfold accF; rw [if_neg (by simp [hv])])
    have hrs := R1.set (.int .i64 0) (.int .i64 0) (.int .i64 0) (.int .i64 0)
    obtain ⟨e0, e1, e2, e3, ef, el⟩ := hrs
    obtain ⟨r0, r1, r2, r3, rf, rl⟩ := R1
    have HB := Lib.hid (below_set4 hB1 (Nat.le_refl _) (.int .i64 0) (.int .i64 0) (.int .i64 0) (.int .i64 0))
    clear hv
    go_wp2
    all_goals (try simp only [Exit.inBlock, Exit.then])
    all_goals refine bodyPost_ret (v := (⟨0, 0, 0, 0⟩ : A4).V) (by simp [results, Try.results47, go_sem, e0, e1, e2, e3, A4.V]) rfl ?_
    all_goals exact ⟨by rw [HF.out], HB.out⟩
end Go.Proofs.Ytehedhkadjidpaa
