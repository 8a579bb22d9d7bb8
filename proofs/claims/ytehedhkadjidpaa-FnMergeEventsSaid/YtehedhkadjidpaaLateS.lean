import Derived.Test.YtehedhkadjidpaaLate
import Derived.Maps.AppendAt
import Derived.Outline
namespace Go.Proofs.Ytehedhkadjidpaa
open Go.RowKit
set_option maxRecDepth 100000 in
set_option maxHeartbeats 2000000 in
theorem specLate_any (A : Option Addr) (c : Nat) (l : List EventR) (b : Int) (w : World) (ha : Row EventR.enc 3 w A l) :
    Calls Try.prog 43 #[.slice A l.length c, .int .i64 b] w (OwnPost IntR.enc 1 3 w (lateF l b)) := by
  have hal := ha.1
  obtain ⟨i0, hi0, hz0, hz1, hz2⟩ := info_parts IntR.zero_info
  have hst := acc_made IntR.enc 1 3 (Below.refl w.heap.size w)
  have Hst := Lib.hid hst
  have hb0 : Below w.heap.size w (w.alloc (.cells #[] 3)) := (Below.refl _ _).alloc (Nat.le_refl _) _
  clear hst
  go_enter Try.func43, Try.ntmps43
  go_wp2_with fail
  refine (specValidEvents_any A c l _ (ha.keep hb0)).mono ?_
  rintro e w1 ⟨rfl, hb1⟩
  have hbw1 := hb0.trans (hb1.mono (by simp))
  have hw1 : w.heap.size < w1.heap.size := by have := hb1.size; simp at this; omega
  have hacc1 := acc_keep Hst.out hb1
  have Hacc1 := Lib.hid hacc1
  clear Hst hacc1 hb0 hb1
  by_cases hv : vEvs l = true ∧ 0 ≤ b ∧ b ≤ 999
  · have hF : lateF l b = lateGo b 0 (-1) l := by unfold lateF; rw [if_pos hv]
    have HF := Lib.hid hF
    obtain ⟨hv, b0, b1⟩ := hv
    have Hv := Lib.hid hv
    rw [hv]
    clear hF hv
    go_wp2_with (go_at_call 61; refine (inRS_t _ _ _ _ (by omega) (by omega)).mono ?_; rintro e w' ⟨rfl, rfl⟩)
    refine (specMarksIn_any A c l b _ (ha.keep hbw1) Hv.out b0 b1).mono ?_
    rintro e w2 ⟨Am, cm, rfl, hom, hb2⟩
    have hlo : ∀ g, Value.ownBlock (.slice Am (marksGo b (-1) l).length cm) = some g → w.heap.size < g ∧ g < w2.heap.size := fun g hg => by
      have := hom.lt g hg
      omega
    have hacc2 := acc_keep Hacc1.out hb2
    have hbw2 := hacc2.2
    have hv0 : ∀ g, Value.ownBlock (.slice (some ⟨w.heap.size, 0, none⟩) 0 0) = some g → g = w.heap.size ∨ w2.heap.size ≤ g := fun g hg => .inl (by simpa [Value.ownBlock] using hg.symm)
    have Hlo := Lib.hid hlo
    have Hom := Lib.hid hom
    have Hacc := Lib.hid hacc2
    have Hv0 := Lib.hid hv0
    have hll := marksGo_len b (-1) l
    have Hll := Lib.hid hll
    have hlf := late_first Hv.out b0
    have Hlf := Lib.hid hlf
    clear hlo hom hacc2 hv0 Hacc1 hb2 hll hlf
    go_wp2
    go_loopw [5, 7] (fun v i wr => ∃ k : Nat, (k < l.length ∨ k = 0) ∧ i = .int .i64 ((k : Int) + 1) ∧ Acc IntR.enc 1 3 w (lateGo b 0 (-1) (l.take (k + 1))) v wr ∧ Own IntR.enc 1 3 wr w1.heap.size (.slice Am (marksGo b (-1) l).length cm) (marksGo b (-1) l) ∧ (∀ g, v.ownBlock = some g → g = w.heap.size ∨ w2.heap.size ≤ g) ∧ w2.heap.size ≤ wr.heap.size) (fun _ i _ => l.length + 1 - (intOf i).toNat)
    case atStart => exact ⟨0, .inr rfl, rfl, by rw [Hlf.out]; exact Hacc.out, Hom.out, Hv0.out, Nat.le_refl _⟩
    case round =>
      obtain ⟨k, hk, rfl, hacc, hom, hvb, hsz⟩ := hrel
      clear Hacc Hom Hv0 Hlf
      have Hacc := Lib.hid hacc
      have Hom := Lib.hid hom
      have Hvb := Lib.hid hvb
      have hbw := hacc.2
      clear hacc hvb
      by_cases hkl : k + 1 < l.length
      · obtain ⟨b', off, rfl, hbl, q0, q1, q2⟩ := (ha.keep hbw).atEvent hkl
        obtain ⟨bm, offm, hAm, hbm, p0⟩ := (hom.row IntR.enc_len).atInt (i := k) (by rw [marksGo_len]; omega)
        have hp : (marksGo b (-1) l)[k]'(by rw [marksGo_len]; omega) = wm b (topT (-1) (l.take (k + 1))) := by
          have h1 := marks_at b (-1) l k (by omega)
          rw [List.getElem?_eq_getElem (by rw [marksGo_len]; omega)] at h1
          exact Option.some.inj h1
        rw [hp] at p0
        have hx := List.getElem?_eq_getElem hkl
        obtain ⟨x0, x1, x2, x3, x4, x5⟩ := ev_bounds Hv.out hx
        have ln := late_next (b := b) hx
        have ls := late_skip (b := b) hx
        generalize l[k + 1] = x at *
        generalize wm b (topT (-1) (l.take (k + 1))) = g at *
        subst hAm
        have Hln := Lib.hid ln
        have Hls := Lib.hid ls
        have hlm : (k : Int) < ((marksGo b (-1) l).length : Int) := by have := Hll.out; omega
        have w0 : IntKind.i64.wrap ((k : Int) + 1 - 1) = (k : Int) := by rw [show ((k : Int) + 1 - 1) = k by omega]; exact IntWalk.i64_in _ (by omega)
        clear hx ha ln ls hp hom
        have ek : ((k + 1 : Nat) : Int) = (k : Int) + 1 := by omega
        rw [ek] at Hln
        clear ek
        by_cases hlate : x.a0 ≤ g
        · have hn := Hln.out hlate
          have Hn1 := Lib.hid hn
          have hlen := lateGo_len b (-1) (l.take (k + 1)) 0
          rw [List.length_take] at hlen
          have Hlen := Lib.hid hlen
          have hown2 := Hacc.out.1
          have hd : decide (x.a0 ≤ g) = true := decide_eq_true hlate
          clear hn Hln Hls hlen
          go_wp2_with fail
          go_quiet (fail)
          have hE : Below wr.heap.size wr ((wr.drewN nq).alloc (.cells #[.int .i64 ((k : Int) + 1)] 3)) := (below_drewN (Below.refl _ _) nq).alloc (by simp) _
          go_wp2_with (first | (at_builtin; refine wpList_append_own_at _ rfl _ _ 47 rfl w.heap.size 3 i0 _ 1 8 Try.underlying47 hi0 hz0 hz1 hz2 rfl (by decide) _ _ _ rfl (World.ownsRow.alloc (w := wr.drewN nq) hown2 _) ⟨wr.heap.size, 0, none⟩ 1 1 (IntR.enc ((k : Int) + 1)) rfl rfl ?c1 ?c2 ?c3 ?c4 ?c5 ?_) | go_in)
          case c1 =>
            intro j u hu
            rcases j with _ | j <;> simp [IntR.enc] at hu <;> subst hu
            exact (World.cell?_alloc_new (wr.drewN nq) #[.int .i64 ((k : Int) + 1)] 3 0).trans rfl
          case c2 => intro u hu; simp [IntR.enc] at hu; subst hu; rfl
          case c3 => have := Hlen.out; unfold maxLen; omega
          case c4 => have := Hlen.out; omega
          case c5 => have := hbw.size; simp; omega
          intro v' w5 hown' hg' _ hat
          have hnext := acc_push Hacc.out hE hown' hg'
          rw [← Hn1.out] at hnext
          have hom5 := (Hom.out.keep hE).far hg' (fun g g' hg hg' => by have h1 := Hlo.out g hg; have h2 := Hvb.out g' hg'; omega)
          have hvb5 : ∀ g, v'.ownBlock = some g → g = w.heap.size ∨ w2.heap.size ≤ g := fun g hg => by
            rcases hat with e | e
            · rw [e] at hg; exact Hvb.out g hg
            · rw [e] at hg; right; simp at hg; omega
          have hs5 : w2.heap.size ≤ w5.heap.size := by have h1 := hg'.size; have h2 := hE.size; omega
          have Hn := Lib.hid hnext
          have Hn2 := Lib.hid hom5
          have Hn3 := Lib.hid hvb5
          clear hnext hown' hg' hown2 hom5 hvb5 hat hE Hacc Hom Hvb
          go_wp2
          go_roundw
          case rel => exact ⟨k + 1, .inl hkl, val_int (by omega), Hn.out, Hn2.out, Hn3.out, hs5⟩
          case measure => simp [intOf]; omega
        · have hn := Hls.out hlate
          have Hn1 := Lib.hid hn
          have hd : decide (x.a0 ≤ g) = false := decide_eq_false hlate
          clear hn Hln Hls
          go_wp2_with fail
          go_quiet (fail)
          have hE : Below wr.heap.size wr (wr.drewN nq) := below_drewN (Below.refl _ _) nq
          have hnext := acc_keep Hacc.out hE
          rw [← Hn1.out] at hnext
          have hom5 := Hom.out.keep hE
          have hs5 : w2.heap.size ≤ (wr.drewN nq).heap.size := hsz
          have Hn := Lib.hid hnext
          have Hn2 := Lib.hid hom5
          clear hnext hom5 hE Hacc Hom
          go_wp2
          go_roundw
          case rel => exact ⟨k + 1, .inl hkl, val_int (by omega), Hn.out, Hn2.out, Hvb.out, hs5⟩
          case measure => simp [intOf]; omega
      · have hkl : l.take (k + 1) = l := List.take_of_length_le (by omega)
        have hfin := Hacc.out
        rw [hkl] at hfin
        have Hfin := Lib.hid hfin
        have hlen := lateGo_len b (-1) l 0
        have Hlen := Lib.hid hlen
        have hk1 : ¬ ((k : Int) + 1 < (l.length : Int)) := by omega
        clear hfin hkl Hacc hlen Hom Hvb hom
        go_wp2
        all_goals go_returns
        all_goals (rw [HF.out]; exact acc_post Hfin.out (by have := Hlen.out; omega))
  · have hF : lateF l b = [] := by unfold lateF; rw [if_neg hv]
    have HF := Lib.hid hF
    have Hv := Lib.hid hv
    have hB : Below w.heap.size w w1 := hbw1
    rcases Bool.eq_false_or_eq_true (vEvs l) with hw | hw
    all_goals
      rw [hw]
      have hm : vEvs l = true → ¬(0 ≤ b ∧ b ≤ 999) := fun h h' => Hv.out ⟨h, h'⟩
      have Hm := Lib.hid hm
      have Hw := Lib.hid hw
      clear hm hF hv hw
      go_wp2_with (first | (go_at_call 61; refine (inRS_f _ _ _ _ (Hm.out Hw.out)).mono ?_; rintro e w' ⟨rfl, rfl⟩) | go_in)
      all_goals (go_returns; rw [HF.out]; exact acc_post (acc_none _ _ _ hB) (by simp))
end Go.Proofs.Ytehedhkadjidpaa
