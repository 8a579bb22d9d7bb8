import Derived.Test.YtcpjidbinhfapaaMvP
namespace Go.Proofs.Ytcpjidbinhfapaa
open Go.RowKit
theorem sub_any (g n : Int) (w : World) (g0 : 0 ≤ g) (g1 : g ≤ 15) (n0 : 1 ≤ n) (n1 : n ≤ 8) : Calls Try.prog 51 #[.int .i64 g, .int .i64 n] w fun e w' => e = .returned (.int .i64 (stF g n)) ∧ w = w' := by
  have h1 : stF g n = g * n / 16 := by unfold stF; rw [if_pos ⟨n0, n1, g0, g1⟩]
  rw [h1]
  clear h1
  rcases eight n0 n1 with rfl | rfl | rfl | rfl | rfl | rfl | rfl | rfl
  all_goals
    go_enter Try.func51, Try.ntmps51
    go_wp2
    all_goals go_returns
    all_goals exact ⟨ret_int (by first | rfl | go_arith | omega), rfl⟩
theorem vt_t (n : Int) (w : World) (h0 : 1 ≤ n) (h1 : n ≤ 8) : Calls Try.prog 49 #[.int .i64 n] w fun e w' => e = .returned (.bool true) ∧ w = w' := by
  go_enter Try.func49, Try.ntmps49
  go_wp2
  all_goals go_returns
  all_goals exact ⟨rfl, rfl⟩
set_option maxRecDepth 100000 in
set_option maxHeartbeats 2000000 in
theorem mvS_any (a b : Int) (w : World) : Calls Try.prog 21 #[.int .i64 a, .int .i64 b] w (OwnPost IntR.enc 1 3 w (mvF a b)) := by
  by_cases hn : nV a b
  · have HF := Lib.hid (show mvF a b = idxs (mvB a b) (List.range 16) 0 by unfold mvF; rw [if_pos hn])
    obtain ⟨⟨a0, a1⟩, b0, b1⟩ := hn
    obtain ⟨i0, hi0, hz0, hz1, hz2⟩ := info_parts IntR.zero_info
    have hst := acc_made IntR.enc 1 3 (Below.refl w.heap.size w)
    have Hacc := Lib.hid hst
    clear hst
    go_enter Try.func21, Try.ntmps21
    go_wp2_with ((go_at_call 46; refine (inRS_t _ _ _ _ (by omega) (by omega)).mono ?_; rintro e w' ⟨rfl, rfl⟩))
    go_loopw [5, 6] (fun v i wr => ∃ k : Nat, k ≤ 16 ∧ i = .int .i64 k ∧ Acc IntR.enc 1 3 w (idxs (mvB a b) ((List.range 16).take k) 0) v wr) (fun _ i _ => 16 - (intOf i).toNat)
    case atStart => exact ⟨0, Nat.zero_le _, rfl, by simpa [idxs] using Hacc.out⟩
    case round =>
      obtain ⟨k, hk, rfl, hacc⟩ := hrel
      clear Hacc
      have Hacc := Lib.hid hacc
      have hbw := hacc.2
      clear hacc
      by_cases hlt : k < 16
      · have hx : (List.range 16)[k]? = some k := List.getElem?_range hlt
        have Hx := Lib.hid hx
        clear hx
        have s1 := stF_bd (k : Int) a
        have s2 := stF_bd (k : Int) b
        have hfl := idxs_len (mvB a b) ((List.range 16).take k) 0
        rw [List.length_take, List.length_range] at hfl
        by_cases hp : stF (k : Int) a = stF (k : Int) b
        · have hin : mvB a b k = false := by unfold mvB; exact decide_eq_false (by simp [hp])
          have hne : (stF (k : Int) a != stF (k : Int) b) = false := by simp [hp]
          have hfs := idxs_skip Hx.out hin
          have hnext := Hacc.out
          rw [← hfs] at hnext
          have Hn := Lib.hid hnext
          clear hnext hfs hin Hacc hp
          go_wp2_with ((go_at_call 51; refine (sub_any _ _ _ (by omega) (by omega) (by omega) (by omega)).mono ?_; rintro e w' ⟨rfl, rfl⟩))
          all_goals
            go_roundw
            case rel => exact ⟨k + 1, by omega, by go_num, Hn.out⟩
            case measure => simp [intOf]; omega
        · have hin : mvB a b k = true := by unfold mvB; exact decide_eq_true hp
          have hne : (stF (k : Int) a != stF (k : Int) b) = true := by simp [hp]
          have hfn := idxs_next Hx.out hin
          have Hfn := Lib.hid hfn
          clear hin hfn hp
          have hown := Hacc.out.1
          go_wp2_with (first | (go_at_call 51; refine (sub_any _ _ _ (by omega) (by omega) (by omega) (by omega)).mono ?_; rintro e w' ⟨rfl, rfl⟩) | (at_builtin; refine wpList_append_own _ rfl _ _ 28 rfl w.heap.size 3 i0 _ 1 8 Try.underlying28 hi0 hz0 hz1 hz2 rfl (by decide) _ _ _ rfl (hown.alloc _) ⟨wr.heap.size, 0, none⟩ 1 1 (IntR.enc (k : Int)) rfl rfl ?c1 ?c2 ?c3 ?c4 ?c5 ?_) | fail)
          case c1 =>
            intro j u hu
            rcases j with _ | j <;> simp [IntR.enc] at hu <;> subst hu <;> simp [Addr.add, go_sem]
          case c2 => intro u hu; simp [IntR.enc] at hu; subst hu; rfl
          case c3 => unfold maxLen; omega
          case c4 => omega
          case c5 => have := Hacc.out.2.size; simp; omega
          intro v' w2 hown' hg' _
          have hnext := acc_push Hacc.out ((Below.refl _ _).alloc (Nat.le_refl _) _) hown' hg'
          rw [← Hfn.out] at hnext
          have Hn := Lib.hid hnext
          clear hnext hown' hg' hown Hacc Hfn hfl
          go_wp2
          go_roundw
          case rel => exact ⟨k + 1, by omega, by go_num, Hn.out⟩
          case measure => simp [intOf]; omega
      · have hkl : (List.range 16).take k = List.range 16 := List.take_of_length_le (by simp; omega)
        have hfin := Hacc.out
        rw [hkl] at hfin
        have Hfin := Lib.hid hfin
        have hlen := idxs_len (mvB a b) (List.range 16) 0
        rw [List.length_range] at hlen
        clear hfin hkl Hacc
        go_wp2
        all_goals go_returns
        all_goals (rw [HF.out]; exact acc_post Hfin.out (by omega))
  · have HF := Lib.hid (show mvF a b = [] by unfold mvF; rw [if_neg hn])
    unfold nV at hn
    go_enter Try.func21, Try.ntmps21
    go_wp2_with (go_in)
    all_goals first
      | (go_returns; rw [HF.out]; exact acc_post (acc_none _ _ _ ((Below.refl _ _).alloc (Nat.le_refl _) _)) (by simp))
      | (exfalso; apply hn; clear hn; first | omega | (simp only [Bool.not_eq_eq_eq_not, Bool.not_true, Bool.not_false, decide_eq_false_iff_not, decide_eq_true_eq] at *; omega))
set_option maxRecDepth 100000 in
set_option maxHeartbeats 2000000 in
theorem mvI_any (a b : Int) (w : World) : Calls Try.prog 22 #[.int .i64 a, .int .i64 b] w (OwnPost IntR.enc 1 3 w (mvF a b)) := by
  by_cases hn : nV a b
  · have HF := Lib.hid (show mvF a b = idxs (mvB a b) (List.range 16) 0 by unfold mvF; rw [if_pos hn])
    obtain ⟨⟨a0, a1⟩, b0, b1⟩ := hn
    obtain ⟨i0, hi0, hz0, hz1, hz2⟩ := info_parts IntR.zero_info
    have hst := acc_none IntR.enc 1 3 (Below.refl w.heap.size w)
    have Hacc := Lib.hid hst
    clear hst
    go_enter Try.func22, Try.ntmps22
    go_wp2_with ((go_at_call 49; refine (vt_t _ _ (by omega) (by omega)).mono ?_; rintro e w' ⟨rfl, rfl⟩))
    go_loopw [5, 15] (fun v i wr => ∃ k : Nat, k ≤ 16 ∧ i = .int .i64 k ∧ Acc IntR.enc 1 3 w (idxs (mvB a b) ((List.range 16).take k) 0) v wr) (fun _ i _ => 16 - (intOf i).toNat)
    case atStart => exact ⟨0, Nat.zero_le _, rfl, by simpa [idxs] using Hacc.out⟩
    case round =>
      obtain ⟨k, hk, rfl, hacc⟩ := hrel
      clear Hacc
      have Hacc := Lib.hid hacc
      have hbw := hacc.2
      clear hacc
      by_cases hlt : k < 16
      · have hx : (List.range 16)[k]? = some k := List.getElem?_range hlt
        have Hx := Lib.hid hx
        clear hx
        have s1 := stF_bd (k : Int) a
        have s2 := stF_bd (k : Int) b
        have hfl := idxs_len (mvB a b) ((List.range 16).take k) 0
        rw [List.length_take, List.length_range] at hfl
        by_cases hp : stF (k : Int) a = stF (k : Int) b
        · have hin : mvB a b k = false := by unfold mvB; exact decide_eq_false (by simp [hp])
          have hne : (stF (k : Int) a != stF (k : Int) b) = false := by simp [hp]
          have hfs := idxs_skip Hx.out hin
          have hnext := Hacc.out
          rw [← hfs] at hnext
          have Hn := Lib.hid hnext
          clear hnext hfs hin Hacc hp
          go_wp2_with ((go_at_call 20; refine (stI_any _ _ _).mono ?_; rintro e w' ⟨rfl, rfl⟩))
          all_goals
            go_roundw
            case rel => exact ⟨k + 1, by omega, by go_num, Hn.out⟩
            case measure => simp [intOf]; omega
        · have hin : mvB a b k = true := by unfold mvB; exact decide_eq_true hp
          have hne : (stF (k : Int) a != stF (k : Int) b) = true := by simp [hp]
          have hfn := idxs_next Hx.out hin
          have Hfn := Lib.hid hfn
          clear hin hfn hp
          have hown := Hacc.out.1
          go_wp2_with (first | (go_at_call 20; refine (stI_any _ _ _).mono ?_; rintro e w' ⟨rfl, rfl⟩) | (at_builtin; refine wpList_append_own _ rfl _ _ 28 rfl w.heap.size 3 i0 _ 1 8 Try.underlying28 hi0 hz0 hz1 hz2 rfl (by decide) _ _ _ rfl (hown.alloc _) ⟨wr.heap.size, 0, none⟩ 1 1 (IntR.enc (k : Int)) rfl rfl ?c1 ?c2 ?c3 ?c4 ?c5 ?_) | fail)
          case c1 =>
            intro j u hu
            rcases j with _ | j <;> simp [IntR.enc] at hu <;> subst hu <;> simp [Addr.add, go_sem]
          case c2 => intro u hu; simp [IntR.enc] at hu; subst hu; rfl
          case c3 => unfold maxLen; omega
          case c4 => omega
          case c5 => have := Hacc.out.2.size; simp; omega
          intro v' w2 hown' hg' _
          have hnext := acc_push Hacc.out ((Below.refl _ _).alloc (Nat.le_refl _) _) hown' hg'
          rw [← Hfn.out] at hnext
          have Hn := Lib.hid hnext
          clear hnext hown' hg' hown Hacc Hfn hfl
          go_wp2
          go_roundw
          case rel => exact ⟨k + 1, by omega, by go_num, Hn.out⟩
          case measure => simp [intOf]; omega
      · have hkl : (List.range 16).take k = List.range 16 := List.take_of_length_le (by simp; omega)
        have hfin := Hacc.out
        rw [hkl] at hfin
        have Hfin := Lib.hid hfin
        have hlen := idxs_len (mvB a b) (List.range 16) 0
        rw [List.length_range] at hlen
        clear hfin hkl Hacc
        go_wp2
        all_goals go_returns
        all_goals (rw [HF.out]; exact acc_post Hfin.out (by omega))
  · have HF := Lib.hid (show mvF a b = [] by unfold mvF; rw [if_neg hn])
    unfold nV at hn
    go_enter Try.func22, Try.ntmps22
    go_wp2_with (go_in)
    all_goals first
      | (go_returns; rw [HF.out]; exact acc_post (acc_none _ _ _ (Below.refl _ _)) (by simp))
      | (exfalso; apply hn; clear hn; first | omega | (simp only [Bool.not_eq_eq_eq_not, Bool.not_true, Bool.not_false, decide_eq_false_iff_not, decide_eq_true_eq] at *; omega))
end Go.Proofs.Ytcpjidbinhfapaa
