import Derived.Test.YtehedhkadjidpaaSoQ
namespace Go.Proofs.Ytehedhkadjidpaa
open Go.RowKit
theorem own_putN {T B n : Nat} {w : World} {g c : Nat} {l : List EventR} (h : Own EventR.enc 3 T w B (.slice (some ⟨g, 0, none⟩) n c) l) (hn : l.length = n) {i : Nat} (hi : i < n) (x : EventR) :
    Own EventR.enc 3 T (((w.setCell ⟨g, i * 3, none⟩ (.int .i64 x.a0)).setCell ⟨g, i * 3 + 1, none⟩ (.int .i64 x.a1)).setCell ⟨g, i * 3 + 2, none⟩ (.int .i64 x.a2)) B (.slice (some ⟨g, 0, none⟩) n c) (l.set i x) := by
  subst hn
  have := own_put h hi x
  rwa [List.length_set] at this
theorem own_cells {T B n : Nat} {w : World} {g c : Nat} {l : List EventR} (h : Own EventR.enc 3 T w B (.slice (some ⟨g, 0, none⟩) n c) l) (hn : l.length = n) {i : Nat} {x : EventR} (hx : l[i]? = some x) :
    w.cell? ⟨g, i * 3, none⟩ = some (.int .i64 x.a0) ∧ w.cell? ⟨g, i * 3 + 1, none⟩ = some (.int .i64 x.a1) ∧ w.cell? ⟨g, i * 3 + 2, none⟩ = some (.int .i64 x.a2) ∧ ∀ o, w.frozen? ⟨g, o, none⟩ = false := by
  subst hn
  have hi : i < l.length := (List.getElem?_eq_some_iff.1 hx).1
  have e : l[i] = x := by rw [List.getElem?_eq_getElem hi] at hx; injection hx
  obtain ⟨b, off, hA, _, q0, q1, q2⟩ := (h.row EventR.enc_len).atEvent hi
  injection hA with hA
  injection hA with e1 e2
  subst e1 e2
  rw [e] at q0 q1 q2
  simp only [Nat.zero_add] at q0 q1 q2
  exact ⟨q0, q1, q2, fun o => h.2.frozenAt o⟩
set_option maxRecDepth 100000 in
set_option maxHeartbeats 4000000 in
theorem specSortIn_any (A : Option Addr) (c : Nat) (l : List EventR) (w : World) (ha : Row EventR.enc 3 w A l) : Calls Try.prog 53 #[.slice A l.length c] w (OwnPost EventR.enc 3 32 w (sortE l)) := by
  have hal := ha.1
  go_enter Try.func53, Try.ntmps53
  go_wp2_with fail
  refine (copyE_any A c l w ha).mono ?_
  rintro e w1 ⟨A1, c1, rfl, o1, b1⟩
  obtain ⟨n, hn⟩ : ∃ n, n = l.length := ⟨_, rfl⟩
  rw [← hn] at o1 ⊢
  have Ho := Lib.hid (show _ ∧ _ from ⟨o1, b1⟩)
  have Hn := Lib.hid hn
  have hn48 : n ≤ 1048576 := by omega
  clear o1 b1 ha hn hal
  go_wp2_with fail
  go_loopw [4] (fun iV wr => ∃ (i : Nat) (o : List EventR), 1 ≤ i ∧ i ≤ n + 1 ∧ iV = .int .i64 i ∧ o.length = n ∧ o.Perm l ∧ SrtTo o i ∧ Own EventR.enc 3 32 wr w.heap.size (.slice A1 n c1) o ∧ Below w.heap.size w wr) (fun iV _ => n + 1 - (intOf iV).toNat)
  case atStart => exact ⟨1, l, by omega, by omega, rfl, Hn.out.symm, List.Perm.refl _, fun a b x y h1 h2 => by omega, Ho.out.1, Ho.out.2⟩
  case round =>
    obtain ⟨i, o, hi1, hin, rfl, hol, hp, hs, ho, hb⟩ := hrel
    clear Ho
    by_cases hlt : i < n
    · obtain ⟨g, cap, hv, hgb, hglt⟩ := ho.2.form (by omega)
      injection hv with hA hnl hc
      clear hnl
      subst hA hc
      have Hst := Lib.hid (show _ ∧ _ ∧ _ ∧ _ from ⟨hol, ins_start hp hs, ho, hb⟩)
      clear hol hp hs ho hb
      have i0 : (0 : Int) ≤ (i : Int) := by omega
      go_wp2_with fail
      go_loopw [5] (fun jV wr => ∃ (j : Nat) (o : List EventR), j ≤ i ∧ jV = .int .i64 j ∧ o.length = n ∧ InsSt l o i j ∧ Own EventR.enc 3 32 wr w.heap.size (.slice (some ⟨g, 0, none⟩) n c1) o ∧ Below w.heap.size w wr) (fun jV _ => (intOf jV).toNat)
      case atStart => exact ⟨i, _, Nat.le_refl _, rfl, Hst.out.1, Hst.out.2.1, Hst.out.2.2.1, Hst.out.2.2.2⟩
      case round =>
        clear Hst
        obtain ⟨j, o, hji, rfl, hol, hins, ho, hb⟩ := hrel
        rcases j with _ | j
        · have Hs := Lib.hid (show _ ∧ _ from ⟨ins_zero hins, hins.1⟩)
          clear hins
          go_wp2_with fail
          refine wp_region_quiet_below (by kernel_rfl) (by kernel_rfl) ?_
          repeat (any_goals (go_big_quiet_step (first | (go_at_call 82; refine Calls.below_of (cmpSpecE_any _ _ _)))))
          refine wpQuiet_nil ?_
          intro wq hbq
          have oq := ho.keep hbq
          have bq := hb.trans (hbq.mono hb.size)
          have Hf := Lib.hid (show _ ∧ _ from ⟨oq, bq⟩)
          clear ho hb hbq oq bq
          go_wp2
          go_roundw
          case rel => exact ⟨i + 1, o, by omega, by omega, by go_num, hol, Hs.out.2, Hs.out.1, Hf.out.1, Hf.out.2⟩
          case measure => first | (simp [intOf]; done) | (simp [intOf]; omega)
        · obtain ⟨u, hu⟩ : ∃ u, o[j]? = some u := ⟨_, List.getElem?_eq_getElem (by omega)⟩
          obtain ⟨v, hv⟩ : ∃ v, o[j + 1]? = some v := ⟨_, List.getElem?_eq_getElem (by omega)⟩
          obtain ⟨q0, q1, q2, qf⟩ := own_cells ho hol hv
          obtain ⟨r0, r1, r2, rf⟩ := own_cells ho hol hu
          have hgw := (ho.lt g rfl).2
          have Q0 := Bw.cellOf hgw q0
          have Q1 := Bw.cellOf hgw q1
          have Q2 := Bw.cellOf hgw q2
          have R0 := Bw.cellOf hgw r0
          have R1 := Bw.cellOf hgw r1
          have R2 := Bw.cellOf hgw r2
          have j0 : (0 : Int) ≤ (j : Int) := by omega
          have j1 : (0 : Int) ≤ (j : Int) + 1 := by omega
          have j2 : (0 : Int) < (j : Int) + 1 := by omega
          have j3 : (j : Int) + 1 < (n : Int) := by omega
          have j4 : (j : Int) < (n : Int) := by omega
          have j5 : ((j : Int) + 1).toNat = j + 1 := by omega
          have j6 : ((j : Int)).toNat = j := by omega
          by_cases hc : cfE v u < 0
          · have hcd : decide (cfE v u < 0) = true := decide_eq_true hc
            have hnx := ins_next hins hji (by omega) hu hv hc
            have Hx := Lib.hid hnx
            clear hnx hins q0 q1 q2 r0 r1 r2 qf rf
            go_wp2_with fail
            refine wp_region_quiet_below (by kernel_rfl) (by kernel_rfl) ?_
            repeat (any_goals (go_big_quiet_step (first | (go_at_call 82; refine Calls.below_of (cmpSpecE_any _ _ _)))))
            refine wpQuiet_nil ?_
            intro wq hbq
            have oq := ho.keep hbq
            have bq := hb.trans (hbq.mono hb.size)
            obtain ⟨a0, a1, a2, af⟩ := own_cells oq hol hv
            obtain ⟨d0, d1, d2, df⟩ := own_cells oq hol hu
            have hgq := (oq.lt g rfl).2
            have hgn : g ≠ wq.heap.size := by omega
            have hgn2 : wq.heap.size ≠ g := by omega
            have o5 := own_putN oq hol (i := j + 1) (by omega) u
            have o6 := own_putN o5 (by rw [List.length_set]; exact hol) (i := j) (by omega) v
            have o7 := o6.keep ((Below.refl _ _).alloc (Nat.le_refl _) (.cells #[.int .i64 v.a0, .int .i64 v.a1, .int .i64 v.a2] 32))
            have b5 := ((bq.setCell (p := ⟨g, (j + 1) * 3, none⟩) hgb (.int .i64 u.a0)).setCell (p := ⟨g, (j + 1) * 3 + 1, none⟩) hgb (.int .i64 u.a1)).setCell (p := ⟨g, (j + 1) * 3 + 2, none⟩) hgb (.int .i64 u.a2)
            have b6 := ((b5.setCell (p := ⟨g, j * 3, none⟩) hgb (.int .i64 v.a0)).setCell (p := ⟨g, j * 3 + 1, none⟩) hgb (.int .i64 v.a1)).setCell (p := ⟨g, j * 3 + 2, none⟩) hgb (.int .i64 v.a2)
            have b7 := b6.alloc b6.size (.cells #[.int .i64 v.a0, .int .i64 v.a1, .int .i64 v.a2] 32)
            have Hf := Lib.hid (show _ ∧ _ ∧ _ from ⟨o7, b7, show ((o.set (j + 1) u).set j v).length = n by rw [List.length_set, List.length_set]; exact hol⟩)
            clear Q0 Q1 Q2 R0 R1 R2 ho hb hbq oq bq o5 o6 o7 b5 b6 b7 hu hv
            go_wp2
            go_roundw
            case rel => exact ⟨j, _, by omega, by go_num, Hf.out.2.2, Hx.out, Hf.out.1, Hf.out.2.1⟩
            case measure => first | (simp [intOf]; done) | (simp [intOf]; omega)
          · have hcd : decide (cfE v u < 0) = false := decide_eq_false hc
            have Hs := Lib.hid (show _ ∧ _ from ⟨ins_stop hins hji hu hv hc, hins.1⟩)
            clear hins q0 q1 q2 r0 r1 r2 qf rf
            go_wp2_with fail
            refine wp_region_quiet_below (by kernel_rfl) (by kernel_rfl) ?_
            repeat (any_goals (go_big_quiet_step (first | (go_at_call 82; refine Calls.below_of (cmpSpecE_any _ _ _)))))
            refine wpQuiet_nil ?_
            intro wq hbq
            have oq := ho.keep hbq
            have bq := hb.trans (hbq.mono hb.size)
            have Hf := Lib.hid (show _ ∧ _ from ⟨oq, bq⟩)
            clear ho hb hbq oq bq Q0 Q1 Q2 R0 R1 R2 hu hv
            go_wp2
            go_roundw
            case rel => exact ⟨i + 1, o, by omega, by omega, by go_num, hol, Hs.out.2, Hs.out.1, Hf.out.1, Hf.out.2⟩
            case measure => first | (simp [intOf]; done) | (simp [intOf]; omega)
    · have hsr : SrtTo o o.length := fun a b x y h1 h2 hx hy => hs a b x y h1 (by omega) hx hy
      have he := srt_end hp hsr
      subst he
      have Hf := Lib.hid (show _ ∧ _ ∧ _ from ⟨hol, ho, hb⟩)
      clear hol hp hs ho hb hsr
      go_wp2
      all_goals go_returns
      all_goals exact ⟨A1, c1, by rw [Hf.out.1]; rfl, by rw [Hf.out.1]; exact Hf.out.2.1, Hf.out.2.2⟩
end Go.Proofs.Ytehedhkadjidpaa
