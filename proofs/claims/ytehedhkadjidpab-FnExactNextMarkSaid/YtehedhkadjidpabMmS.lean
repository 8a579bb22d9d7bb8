import Derived.Test.YtehedhkadjidpabMmF
namespace Go.Proofs.Ytehedhkadjidpab
open Go.RowKit
set_option maxRecDepth 100000 in
set_option maxHeartbeats 2000000 in
theorem specMmIn_any (A : Option Addr) (c : Nat) (l : List InputR) (now idle : Int) (w : World) (ha : Row InputR.enc 2 w A l) (hv : vIns l = true) (n0 : 0 ≤ now) (n1 : now ≤ 9999) :
    Calls Try.prog 60 #[.slice A l.length c, .int .i64 now, .int .i64 idle] w fun e w' => e = .returned (.int .i64 (mmV l now idle)) ∧ Below w.heap.size w w' := by
  have hal := ha.1
  have hl4 := in_len hv
  have Hv := Lib.hid hv
  go_enter Try.func60, Try.ntmps60
  go_wp2_with fail
  refine (specIdleIn_any A c l now idle w ha hv n0 n1).mono ?_
  rintro e w1 ⟨A1, c1, rfl, o1, b1⟩
  have hsum := idxs_nid now idle l
  have hdec : ∀ (k : Nat) (x : InputR), l[k]? = some x → decide ((k : Int) ∈ idxs (idleB now idle) l 0) = idleB now idle x := fun k x hx => idle_dec hx
  obtain ⟨J, hJ⟩ : ∃ J, J = idxs (idleB now idle) l 0 := ⟨_, rfl⟩
  rw [← hJ] at o1 hsum hdec ⊢
  have Hdec := Lib.hid hdec
  have RJ := o1.row IntR.enc_len
  have hjl := o1.1
  clear hv hJ hdec o1
  go_wp2
  go_loopw [8, 9, 10] (fun ls ms i wr => ∃ k : Nat, k ≤ l.length ∧ i = .int .i64 k ∧ ls = .int .i64 (foldA mn 999 ((l.take k).filter (nidB now idle))) ∧ ms = .int .i64 (foldA mx (-1) (l.take k)) ∧ Below w1.heap.size w1 wr) (fun _ _ i _ => l.length - (intOf i).toNat)
  case atStart => exact ⟨0, Nat.zero_le _, rfl, rfl, rfl, Below.refl _ _⟩
  case round =>
    obtain ⟨k, hk, rfl, rfl, rfl, hbw⟩ := hrel
    have hB := b1.trans (hbw.mono b1.size)
    by_cases hlt : k < l.length
    · obtain ⟨b, off, rfl, hblt, q0, q1⟩ := (ha.keep hB).atInput hlt
      have hx : l[k]? = some l[k] := List.getElem?_eq_getElem hlt
      have hd := Hdec.out k _ hx
      have hm := foldA_next mx (-1) hx
      have hf := filter_take_next (nidB now idle) hx
      generalize l[k] = x at *
      generalize foldA mx (-1) (l.take k) = T at *
      generalize hS : foldA mn 999 ((l.take k).filter (nidB now idle)) = S at *
      have HS := Lib.hid hS
      have Hm := Lib.hid hm
      have Hf := Lib.hid hf
      have Hd := Lib.hid hd
      have RJw := RJ.keep hbw
      clear hx hd hm hf hS ha
      rcases Bool.eq_false_or_eq_true (idleB now idle x) with hin | hin
      · have Hn := Lib.hid (show foldA mn 999 ((l.take (k + 1)).filter (nidB now idle)) = S by rw [Hf.out, if_neg (by simp [nidB, hin]), List.append_nil]; exact HS.out)
        have hcall := fun W hr => specIsIn_any A1 c1 J k W hr
        rw [Hd.out, hin] at hcall
        clear hin
        by_cases hmx : T < x.a0
        all_goals
          go_wp2_with fail
          refine (hcall _ RJw).mono ?_
          rintro e w2 ⟨rfl, rfl⟩
          go_wp2
          go_roundw
          case rel => exact ⟨k + 1, by omega, by go_num, by rw [Hn.out], by rw [Hm.out]; unfold mx; first | rw [if_pos hmx] | rw [if_neg (by omega)], hbw⟩
          case measure => simp [intOf]; omega
      · have Hn := Lib.hid (show foldA mn 999 ((l.take (k + 1)).filter (nidB now idle)) = mn S x.a0 by rw [Hf.out, if_pos (by simp [nidB, hin]), foldA_app, HS.out])
        have hcall := fun W hr => specIsIn_any A1 c1 J k W hr
        rw [Hd.out, hin] at hcall
        clear hin
        by_cases hmx : T < x.a0
        all_goals
          by_cases hmn : x.a0 < S
          all_goals
            go_wp2_with fail
            refine (hcall _ RJw).mono ?_
            rintro e w2 ⟨rfl, rfl⟩
            go_wp2
            go_roundw
            case rel => exact ⟨k + 1, by omega, by go_num, by rw [Hn.out]; unfold mn; first | rw [if_pos hmn] | rw [if_neg (by omega)], by rw [Hm.out]; unfold mx; first | rw [if_pos hmx] | rw [if_neg (by omega)], hbw⟩
            case measure => simp [intOf]; omega
    · have hkl : l.take k = l := List.take_of_length_le (by omega)
      rw [hkl]
      have hall : ∀ x ∈ l, -1 ≤ x.a0 ∧ x.a0 ≤ 999 := fun x hx => by
        obtain ⟨j, hj, rfl⟩ := List.mem_iff_getElem.1 hx
        have := in_bounds Hv.out (List.getElem?_eq_getElem hj)
        omega
      have hne : l ≠ [] := fun e => by rw [e] at hl4; simp at hl4
      have e1 := foldA_mx (fun x hx => (hall x hx).1) hne
      clear hkl
      by_cases h0 : (l.filter (nidB now idle)).length = 0
      · have HF := Lib.hid (show mmV l now idle = foldA mx (-1) l by unfold mmV; rw [if_pos h0, e1])
        have hd : ((J.length : Int) == (l.length : Int)) = true := by rw [beq_iff_eq]; omega
        have hJl : J.length = l.length := by omega
        have HJl := Lib.hid hJl
        clear h0 e1 hall hsum hJl
        generalize foldA mx (-1) l = T at *
        generalize foldA mn 999 (l.filter (nidB now idle)) = S at *
        go_wp2
        all_goals go_returns
        all_goals exact ⟨ret_int HF.out.symm, hB⟩
      · have e2 := foldA_mn (l := l.filter (nidB now idle)) (fun x hx => (hall x (List.mem_filter.1 hx).1).2) (fun e => h0 (by rw [e]; rfl))
        have HF := Lib.hid (show mmV l now idle = foldA mn 999 (l.filter (nidB now idle)) by unfold mmV; rw [if_neg h0, e2])
        have hd : ((J.length : Int) == (l.length : Int)) = false := by rw [beq_eq_false_iff_ne]; omega
        clear h0 e1 e2 hall hsum
        generalize foldA mx (-1) l = T at *
        generalize foldA mn 999 (l.filter (nidB now idle)) = S at *
        go_wp2
        all_goals go_returns
        all_goals exact ⟨ret_int HF.out.symm, hB⟩
theorem mmF_cases (l : List InputR) (now idle : Int) : (vIns l = true ∧ clk now idle ∧ mmF l now idle = mmV l now idle) ∨ (¬ (vIns l = true ∧ clk now idle) ∧ mmF l now idle = -2) := by
  by_cases h : vIns l = true ∧ clk now idle
  · exact .inl ⟨h.1, h.2, by unfold mmF; rw [if_pos h]⟩
  · exact .inr ⟨h, by unfold mmF; rw [if_neg h]⟩
set_option maxHeartbeats 1000000 in
theorem specMM_any (A : Option Addr) (c : Nat) (l : List InputR) (now idle : Int) (w : World) (ha : Row InputR.enc 2 w A l) :
    Calls Try.prog 22 #[.slice A l.length c, .int .i64 now, .int .i64 idle] w fun e w' => e = .returned (.int .i64 (mmF l now idle)) ∧ Below w.heap.size w w' := by
  go_enter Try.func22, Try.ntmps22
  go_wp2_with fail
  refine (specIns_any A c l _ ha).mono ?_
  rintro e w1 ⟨rfl, hb1⟩
  rcases mmF_cases l now idle with ⟨hv, hc, hF⟩ | ⟨hn, hF⟩
  · have HF := Lib.hid hF
    unfold clk at hc
    obtain ⟨m0, m1, m2, m3⟩ := hc
    have Hv := Lib.hid hv
    rw [hv]
    clear hF hv
    go_wp2_with (first | (go_at_call 52; refine (specClock_t _ _ _ (by omega) (by omega) (by omega) (by omega)).mono ?_; rintro e w' ⟨rfl, rfl⟩) | (go_at_call 60; refine (specMmIn_any A c l now idle _ (ha.keep hb1) Hv.out m0 m1).mono ?_; rintro e w2 ⟨rfl, hb2⟩) | fail)
    all_goals go_returns
    all_goals exact ⟨ret_int HF.out.symm, hb1.trans (hb2.mono hb1.size)⟩
  · have HF := Lib.hid hF
    rcases Bool.eq_false_or_eq_true (vIns l) with hw | hw
    all_goals
      rw [hw]
      have hm : vIns l = true → ¬ clk now idle := fun h h' => hn ⟨h, h'⟩
      have Hm := Lib.hid hm
      have Hw := Lib.hid hw
      clear hm hF hw
      go_wp2_with (first | (go_at_call 52; refine (specClock_f _ _ _ (Hm.out Hw.out)).mono ?_; rintro e w' ⟨rfl, rfl⟩) | fail)
      all_goals (go_returns; exact ⟨ret_int HF.out.symm, hb1⟩)
end Go.Proofs.Ytehedhkadjidpab
