import Derived.Test.YtehedhkadjidpabMm
namespace Go.Proofs.Ytehedhkadjidpab
open Go.RowKit
set_option maxRecDepth 100000 in
set_option maxHeartbeats 4000000 in
theorem delIn_any (g c : Nat) (l : List InputR) (now idle : Int) (m m2 B : Nat) (w : World) (ho : Own InputR.enc 2 33 w B (.slice (some ⟨g, 0, none⟩) l.length c) l) (hv : vIns l = true) (hmg : m ≠ g) (hmg2 : m2 ≠ g) (hm : w.cell? ⟨m, 0, none⟩ = some (.int .i64 now)) (hlt : m < w.heap.size) (hm2 : w.cell? ⟨m2, 0, none⟩ = some (.int .i64 idle)) (hlt2 : m2 < w.heap.size) (n0 : 0 ≤ now) (n1 : now ≤ 9999) :
    Calls Try.prog 54 #[.slice (some ⟨g, 0, none⟩) l.length c, .func (.func 56) #[] #[.pointer (some ⟨m, 0, none⟩), .pointer (some ⟨m2, 0, none⟩)]] w (DelPost g c (l.filter (nidB now idle)) w) := by
  obtain ⟨i0, hi0, hz0, hz1, hz2⟩ := info_parts InputR.zero_info
  have ha := ho.row InputR.enc_len
  have hal := ha.1
  have hlc := ho.lenCap
  have hl4 := in_len hv
  have Hix := Lib.hid (mmIx_any (some ⟨g, 0, none⟩) c l now idle m m2 w ha hv hm hlt hm2 hlt2 n0 n1)
  have Hv := Lib.hid hv
  have Hm := Lib.hid hm
  have Hm2 := Lib.hid hm2
  have Ho := Lib.hid ho
  clear hv hm hm2 ho
  rcases fi_split (idleB now idle) l with ⟨hf, hall⟩ | ⟨k, x, hf, hx, hp, hall⟩
  · have hfl : l.filter (nidB now idle) = l := by rw [List.filter_eq_self]; exact fun y hy => (List.all_eq_true.1 hall) y hy
    have Hfl := Lib.hid hfl
    have hix := Hix.out
    rw [hf] at hix
    clear hf hall hfl Hix
    go_enter Try.func54, Try.ntmps54
    go_wp2_with fail
    refine hix.mono ?_
    rintro e w1 ⟨rfl, hb1⟩
    have Hr := Lib.hid (show _ ∧ _ from ⟨ha.keep hb1, gb_below_r (World.grownBy.refl w (some g)) hb1⟩)
    clear hb1 ha hix
    go_wp2
    all_goals go_returns
    all_goals exact ⟨by rw [Hfl.out]; rfl, by rw [Hfl.out]; exact Hr.out.1, Hr.out.2⟩
  · have hix := Hix.out
    rw [hf] at hix
    have hkl : k < l.length := (List.getElem?_eq_some_iff.1 hx).1
    have hst : l.take k = (l.take (k + 1)).filter (nidB now idle) := by
      rw [filter_take_next _ hx, if_neg (by simp [nidB, hp]), List.append_nil]
      symm; rw [List.filter_eq_self]; exact fun y hy => (List.all_eq_true.1 hall) y hy
    have Hst := Lib.hid hst
    have hk1 : ((k : Int) == -1) = false := by rw [beq_eq_false_iff_ne]; omega
    clear hf hall hx hp hst Hix
    go_enter Try.func54, Try.ntmps54
    go_wp2_with fail
    refine hix.mono ?_
    rintro e w1 ⟨rfl, hb1⟩
    have Hs := Lib.hid (show _ ∧ _ from ⟨Ho.out.keep hb1, gb_below_r (World.grownBy.refl w (some g)) hb1⟩)
    clear hb1 ha hix
    go_wp2
    go_loopw [5, 6] (fun v5 v6 wr => DelSt l (nidB now idle) 33 B g c w v5 v6 wr) (fun _ v6 _ => l.length - (intOf v6).toNat)
    case atStart => exact ⟨k, k + 1, l, rfl, by go_num, by omega, by omega, rfl, Hst.out, rfl, Hs.out.1, Hs.out.2⟩
    case round =>
      obtain ⟨i, j, o, rfl, rfl, hij, hjl, hol, ht, hd, hown, hgb⟩ := hrel
      have Ht := Lib.hid ht
      have Hd := Lib.hid hd
      have Hgb := Lib.hid hgb
      have hlw : w.heap.size ≤ wr.heap.size := hgb.size
      have hola : o.length ≤ l.length := by omega
      have holb : l.length ≤ o.length := by omega
      clear ht hd Hs Hst hk1
      by_cases hlt' : j < l.length
      · have hoj : o[j]? = some (o[j]'(by omega)) := List.getElem?_eq_getElem (by omega)
        have hlj : l[j]? = some (o[j]'(by omega)) := by
          have h := congrArg (fun q => q[0]?) Hd.out
          simp only [List.getElem?_drop, Nat.add_zero] at h
          rw [← h]; exact hoj
        have hown2 : Own InputR.enc 2 33 wr B (.slice (some ⟨g, 0, none⟩) o.length c) o := by rw [hol]; exact hown
        obtain ⟨b, off, hA, hblt, q0, q1⟩ := (hown2.row InputR.enc_len).atInput (i := j) (by omega)
        injection hA with hA; injection hA with e1 e2; subst e1 e2
        obtain ⟨x0, x1, x2, x3⟩ := in_bounds Hv.out hlj
        have hi1 : i < l.length := by omega
        have ho1 := hown2.2
        have hfl := flat_len InputR.enc_len o
        have f0 := ho1.frozenAt (i * 2)
        have f1 := ho1.frozenAt (i * 2 + 1)
        have c0 : wr.cell? ⟨g, i * 2, none⟩ = some ((o.flatMap InputR.enc)[i * 2]'(by omega)) := by rw [ho1.cellAt (i * 2) (by omega)]; exact List.getElem?_eq_getElem _
        have c1 : wr.cell? ⟨g, i * 2 + 1, none⟩ = some ((o.flatMap InputR.enc)[i * 2 + 1]'(by omega)) := by rw [ho1.cellAt (i * 2 + 1) (by omega)]; exact List.getElem?_eq_getElem _
        generalize o[j]'(by omega) = x at *
        generalize (o.flatMap InputR.enc)[i * 2]'_ = old0 at *
        generalize (o.flatMap InputR.enc)[i * 2 + 1]'_ = old1 at *
        have Hlj := Lib.hid hlj
        have Hown := Lib.hid hown
        have Hol := Lib.hid hol
        have hE : Below wr.heap.size wr (wr.alloc (.cells #[.int .i64 x.a0, .int .i64 x.a1] 33)) := (Below.refl _ _).alloc (Nat.le_refl _) _
        have hgm : wr.cell? ⟨m, 0, none⟩ = some (.int .i64 now) := (World.cell?_of_block (hgb.block m hlt (fun e => hmg (by injection e)))).trans Hm.out
        have hgm2 : wr.cell? ⟨m2, 0, none⟩ = some (.int .i64 idle) := (World.cell?_of_block (hgb.block m2 hlt2 (fun e => hmg2 (by injection e)))).trans Hm2.out
        have hmr : m < wr.heap.size := by omega
        have hmr2 : m2 < wr.heap.size := by omega
        have Hcm := Lib.hid (mmC_any x now idle m m2 (wr.alloc (.cells #[.int .i64 x.a0, .int .i64 x.a1] 33)) ((hE.cell hmr).trans hgm) (by simp; omega) ((hE.cell hmr2).trans hgm2) (by simp; omega) (by omega) (by omega) n0 n1)
        simp only [Nat.zero_add] at q0 q1
        have hji : (0 : Int) ≤ (j : Int) := by omega
        have hii : (0 : Int) ≤ (i : Int) := by omega
        clear hoj hlj hown hol hown2 hgb ho1 hfl hgm hgm2
        go_wp2_with fail
        refine Hcm.out.mono ?_
        rintro e w1 ⟨rfl, hb1⟩
        have hb2 : Below wr.heap.size wr w1 := hE.trans (hb1.mono (by simp))
        have d0 : w1.cell? ⟨wr.heap.size, 0, none⟩ = some (.int .i64 x.a0) := (hb1.cell (by simp)).trans (by simp [go_sem])
        have d1 : w1.cell? ⟨wr.heap.size, 1, none⟩ = some (.int .i64 x.a1) := (hb1.cell (by simp)).trans (by simp [go_sem])
        have f0' := (hb2.frozen (p := ⟨g, i * 2, none⟩) hblt).trans f0
        have f1' := (hb2.frozen (p := ⟨g, i * 2 + 1, none⟩) hblt).trans f1
        have c0' := (hb2.cell (p := ⟨g, i * 2, none⟩) hblt).trans c0
        have c1' := (hb2.cell (p := ⟨g, i * 2 + 1, none⟩) hblt).trans c1
        have hzz : wr.heap.size < w1.heap.size := by have := hb1.size; simp at this; omega
        have Hb2 := Lib.hid hb2
        have Hgb2 := Lib.hid (gb_below_r Hgb.out hb2)
        have Hown2 := Lib.hid (Hown.out.keep hb2)
        clear hE hb1 hb2 Hcm f0 f1 c0 c1 q0 q1 Hgb Hown
        rcases Bool.eq_false_or_eq_true (idleB now idle x) with hin | hin
        · rw [hin]
          have hk := del_skip Ht.out Hd.out Hlj.out (show nidB now idle x = false by simp [nidB, hin])
          have Hk := Lib.hid hk
          clear hin hk Ht Hd
          go_wp2
          go_roundw
          case rel => exact ⟨i, j + 1, o, rfl, by go_num, by omega, by omega, Hol.out, Hk.out.1, Hk.out.2, Hown2.out, Hgb2.out⟩
          case measure => simp [intOf]; omega
        · rw [hin]
          have hk := del_keep hij Hol.out Ht.out Hd.out Hlj.out (show nidB now idle x = true by simp [nidB, hin])
          have Hk := Lib.hid hk
          have Hp := Lib.hid (own_put2i Hown2.out Hol.out hi1 x)
          have Hg3 := Lib.hid (gb_trans (gb_trans Hgb2.out (set_grown w1 ⟨g, i * 2, none⟩ (.int .i64 x.a0))) (set_grown _ ⟨g, i * 2 + 1, none⟩ (.int .i64 x.a1)))
          clear hin hk Ht Hd
          go_wp2
          go_roundw
          case rel => exact ⟨i + 1, j + 1, o.set i x, by go_num, by go_num, by omega, by omega, by simpa using Hol.out, Hk.out.1, Hk.out.2, Hp.out, Hg3.out⟩
          case measure => simp [intOf]; omega
      · obtain rfl : j = l.length := by omega
        have hfin : o.take i = l.filter (nidB now idle) := by rw [Ht.out, List.take_length]
        have hil : (l.filter (nidB now idle)).length = i := by rw [← hfin, List.length_take]; omega
        have hown2 : Own InputR.enc 2 33 wr B (.slice (some ⟨g, 0, none⟩) o.length c) o := by rw [hol]; exact hown
        have hrow : Row InputR.enc 2 wr (some ⟨g, 0, none⟩) (l.filter (nidB now idle)) := by rw [← hfin]; exact (hown2.row InputR.enc_len).take i
        have ho1 := hown2.2
        have hfl := flat_len InputR.enc_len o
        have hci : ¬ c = i := by omega
        have zv : ∀ w, (zeroValue 33).run Try.prog w = .ok (.agg #[.int .i64 0, .int .i64 0]) w := fun w => by simp [zeroValue, typeInfo, hi0, hz0]
        have hcl : ∀ ty, (Builtin.clear_ #[23] ty #[.slice (some ⟨g, i * 2, none⟩) (l.length - i) (c - i)]).run Try.prog wr = .ok (.tuple #[]) (wr.setCells g (i * 2) (List.replicate ((l.length - i) * 2) (.int .i64 0))) := fun ty =>
          run_clear2 wr 23 33 ty (.int .i64 0) Try.underlying23 zv rfl rfl g (i * 2) (l.length - i) (c - i) (by omega) (fun q hq => by rw [ho1.cellAt (i * 2 + q) (by omega)]; simp [hfl]; omega) (fun q hq => ho1.frozenAt (i * 2 + q))
        have Hr := Lib.hid (show _ ∧ _ from ⟨row_clear (vs := List.replicate ((l.length - i) * 2) (.int .i64 0)) (o := i * 2) hrow (by rw [hil]; exact Nat.le_refl _), gb_trans hgb (gb_setCells wr g (i * 2) (List.replicate ((l.length - i) * 2) (.int .i64 0)))⟩)
        have Hil := Lib.hid hil
        have hii : (i : Int) ≤ (l.length : Int) := by omega
        have hic : (i : Int) ≤ (c : Int) := by omega
        clear hfin hil hown2 hrow ho1 hfl zv hown hol Ht Hd Hgb hgb Ho
        go_wp2
        all_goals go_returns
        all_goals exact ⟨by rw [Hil.out]; rfl, Hr.out.1, Hr.out.2⟩
end Go.Proofs.Ytehedhkadjidpab
