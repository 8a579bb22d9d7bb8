import Derived.Test.YtehedhkadjidpaaMkI
namespace Go.Proofs.Ytehedhkadjidpaa
open Go.RowKit
def lateGo (b : Int) : Nat → Int → List EventR → List Int
  | _, _, [] => []
  | i, g, x :: l => (if x.a0 ≤ wm b g then [(i : Int)] else []) ++ lateGo b (i + 1) (mx g x.a0) l
def lateF (l : List EventR) (b : Int) : List Int := if vEvs l = true ∧ 0 ≤ b ∧ b ≤ 999 then lateGo b 0 (-1) l else []
theorem lateGo_append (b g : Int) (l : List EventR) (x : EventR) (i : Nat) : lateGo b i g (l ++ [x]) = lateGo b i g l ++ (if x.a0 ≤ wm b (topT g l) then [((i + l.length : Nat) : Int)] else []) := by
  induction l generalizing g i with
  | nil => by_cases h : x.a0 ≤ wm b g <;> simp [lateGo, topT, h]
  | cons y l ih =>
    simp only [List.cons_append, lateGo, ih, List.append_assoc, List.length_cons]
    have e : i + 1 + l.length = i + (l.length + 1) := by omega
    rw [e]; rfl
theorem lateGo_len (b g : Int) (l : List EventR) (i : Nat) : (lateGo b i g l).length ≤ l.length := by
  induction l generalizing g i with
  | nil => simp [lateGo]
  | cons y l ih =>
    have := ih (mx g y.a0) (i + 1)
    simp only [lateGo, List.length_append, List.length_cons]
    split <;> simp <;> omega
theorem late_next {b : Int} {l : List EventR} {k : Nat} {x : EventR} (hx : l[k]? = some x) (h : x.a0 ≤ wm b (topT (-1) (l.take k))) : lateGo b 0 (-1) (l.take (k + 1)) = lateGo b 0 (-1) (l.take k) ++ [(k : Int)] := by
  have hk : k < l.length := (List.getElem?_eq_some_iff.1 hx).1
  rw [List.take_add_one, hx]
  simp only [Option.toList, lateGo_append]
  rw [if_pos h, List.length_take]
  congr 2
  omega
theorem late_skip {b : Int} {l : List EventR} {k : Nat} {x : EventR} (hx : l[k]? = some x) (h : ¬ x.a0 ≤ wm b (topT (-1) (l.take k))) : lateGo b 0 (-1) (l.take (k + 1)) = lateGo b 0 (-1) (l.take k) := by
  rw [List.take_add_one, hx]
  simp only [Option.toList, lateGo_append]
  rw [if_neg h, List.append_nil]
theorem marks_at (b g : Int) (l : List EventR) (k : Nat) (h : k < l.length) : (marksGo b g l)[k]? = some (wm b (topT g (l.take (k + 1)))) := by
  induction l generalizing g k with
  | nil => simp at h
  | cons y l ih =>
    rcases k with _ | k
    · simp [marksGo, topT]
    · simp only [marksGo, List.getElem?_cons_succ, List.take_succ_cons]
      rw [ih (mx g y.a0) k (by simpa using h)]
      rfl
theorem wm_bounds {b g : Int} (b0 : 0 ≤ b) (g1 : g ≤ 999) : -1 ≤ wm b g ∧ wm b g ≤ 999 := by unfold wm; split <;> omega
theorem wm_start {b : Int} (b0 : 0 ≤ b) : wm b (-1) = -1 := by unfold wm; rw [if_neg (by omega)]
theorem late_first {l : List EventR} {b : Int} (h : vEvs l = true) (b0 : 0 ≤ b) : lateGo b 0 (-1) (l.take 1) = [] := by
  rcases l with _ | ⟨x, l⟩
  · rfl
  · have hx := ev_bounds h (k := 0) (x := x) (by simp)
    simp only [List.take_succ_cons, List.take_zero, lateGo, wm_start b0]
    rw [if_neg (by omega)]; rfl
theorem acc_post2 {α : Type} {enc : α → List Value} {k T : Nat} {B0 B1 wr : World} {xs : List α} {v : Value} (hb : Below B0.heap.size B0 B1) (h : Acc enc k T B1 xs v wr) (hl : xs.length ≤ 1048576) : OwnPost enc k T B0 xs (.returned v) wr := by
  obtain ⟨h1, h2⟩ := h
  have h1' : wr.ownsRow B0.heap.size T k v xs.length (xs.flatMap enc) := ⟨h1.1, h1.2.imp_right fun ⟨g, cap, cur, e1, e2, e3⟩ => ⟨g, cap, cur, e1, Nat.le_trans hb.size e2, e3⟩⟩
  exact acc_post ⟨h1', hb.trans (h2.mono hb.size)⟩ hl
theorem isLate_t (x : EventR) (g : Int) (w : World) (x0 : 0 ≤ x.a0) (x1 : x.a0 ≤ 999) (x2 : 0 ≤ x.a1) (x3 : x.a1 ≤ 15) (x4 : 0 ≤ x.a2) (x5 : x.a2 ≤ 99) (g0 : -1 ≤ g) (g1 : g ≤ 999) (h : x.a0 ≤ g) :
    Calls Try.prog 45 #[.agg #[.int .i64 x.a0, .int .i64 x.a1, .int .i64 x.a2], .int .i64 g] w fun e w' => e = .returned (.bool true) ∧ Below w.heap.size w w' := by
  go_enter Try.func45, Try.ntmps45
  go_wp2
  all_goals go_returns
  all_goals first | exact ⟨rfl, by go_grown⟩ | exact ⟨ret_bool (by simp; omega), by go_grown⟩
theorem isLate_f (x : EventR) (g : Int) (w : World) (x0 : 0 ≤ x.a0) (x1 : x.a0 ≤ 999) (x2 : 0 ≤ x.a1) (x3 : x.a1 ≤ 15) (x4 : 0 ≤ x.a2) (x5 : x.a2 ≤ 99) (g0 : -1 ≤ g) (g1 : g ≤ 999) (h : ¬ x.a0 ≤ g) :
    Calls Try.prog 45 #[.agg #[.int .i64 x.a0, .int .i64 x.a1, .int .i64 x.a2], .int .i64 g] w fun e w' => e = .returned (.bool false) ∧ Below w.heap.size w w' := by
  go_enter Try.func45, Try.ntmps45
  go_wp2
  all_goals go_returns
  all_goals first | exact ⟨rfl, by go_grown⟩ | exact ⟨ret_bool (by simp; omega), by go_grown⟩
set_option maxRecDepth 100000 in
set_option maxHeartbeats 2000000 in
theorem implLate_any (A : Option Addr) (c : Nat) (l : List EventR) (b : Int) (w : World) (ha : Row EventR.enc 3 w A l) :
    Calls Try.prog 42 #[.slice A l.length c, .int .i64 b] w (OwnPost IntR.enc 1 3 w (lateF l b)) := by
  have hal := ha.1
  obtain ⟨i0, hi0, hz0, hz1, hz2⟩ := info_parts IntR.zero_info
  go_enter Try.func42, Try.ntmps42
  go_wp2_with fail
  refine (implMarksOf_any A c l b _ ha).mono ?_
  rintro e w1 ⟨Am, cm, rfl, hom, hb1⟩
  have hrm := hom.row IntR.enc_len
  have hst := acc_none IntR.enc 1 3 (Below.refl w1.heap.size w1)
  have Hst := Lib.hid hst
  clear hst hom
  by_cases hv : vEvs l = true ∧ 0 ≤ b ∧ b ≤ 999
  · have hF : lateF l b = lateGo b 0 (-1) l := by unfold lateF; rw [if_pos hv]
    have hM : marksF l b = marksGo b (-1) l := by unfold marksF; rw [if_pos hv]
    have hlm : (marksF l b).length = l.length := by rw [hM]; exact marksGo_len _ _ _
    rw [hlm]
    rw [hM] at hrm
    have HF := Lib.hid hF
    obtain ⟨hv, b0, b1⟩ := hv
    have Hv := Lib.hid hv
    have Hrm := Lib.hid hrm
    have hws := wm_start b0
    have Hws := Lib.hid hws
    clear hF hv hM hlm hrm hws
    go_wp2
    go_loopw [5, 6, 13] (fun v g i wr => ∃ k : Nat, k ≤ l.length ∧ i = .int .i64 k ∧ g = .int .i64 (wm b (topT (-1) (l.take k))) ∧ Acc IntR.enc 1 3 w1 (lateGo b 0 (-1) (l.take k)) v wr) (fun _ _ i _ => l.length - (intOf i).toNat)
    case atStart => exact ⟨0, Nat.zero_le _, rfl, by rw [List.take_zero]; exact (congrArg (Value.int .i64) Hws.out).symm, by simpa [lateGo] using Hst.out⟩
    case round =>
      obtain ⟨k, hk, rfl, rfl, hacc⟩ := hrel
      clear Hst
      have Hacc := Lib.hid hacc
      have hb2 := hacc.2
      have hbw := hb1.trans (hb2.mono hb1.size)
      clear hacc
      by_cases hkl : k < l.length
      · obtain ⟨b', off, rfl, hbl, q0, q1, q2⟩ := (ha.keep hbw).atEvent hkl
        obtain ⟨bm, offm, rfl, hbm, p0⟩ := (Hrm.out.keep hb2).atInt (i := k) (by rw [marksGo_len]; exact hkl)
        have hp : (marksGo b (-1) l)[k]'(by rw [marksGo_len]; exact hkl) = wm b (topT (-1) (l.take (k + 1))) := by
          have h1 := marks_at b (-1) l k hkl
          rw [List.getElem?_eq_getElem (by rw [marksGo_len]; exact hkl)] at h1
          exact Option.some.inj h1
        rw [hp] at p0
        have hx := List.getElem?_eq_getElem hkl
        obtain ⟨x0, x1, x2, x3, x4, x5⟩ := ev_bounds Hv.out hx
        obtain ⟨t0, t1⟩ := top_ok Hv.out k
        obtain ⟨u0, u1⟩ := wm_bounds (b := b) b0 t1
        have ln := late_next (b := b) hx
        have ls := late_skip (b := b) hx
        generalize l[k] = x at *
        generalize wm b (topT (-1) (l.take k)) = g at *
        generalize hG : wm b (topT (-1) (l.take (k + 1))) = g2 at *
        have HG := Lib.hid hG
        have Hln := Lib.hid ln
        have Hls := Lib.hid ls
        clear hx ha ln ls hG hp t0 t1
        by_cases hlate : x.a0 ≤ g
        · have hn := Hln.out hlate
          have Hn1 := Lib.hid hn
          have hlen := lateGo_len b (-1) (l.take k) 0
          rw [List.length_take] at hlen
          have Hlen := Lib.hid hlen
          clear hn Hln Hls hlen
          go_wp2_with fail
          refine (isLate_t x g _ x0 x1 x2 x3 x4 x5 u0 u1 (by omega)).mono ?_
          rintro e w2 ⟨rfl, hb3⟩
          have hacc2 := acc_keep Hacc.out hb3
          have Hacc2 := Lib.hid hacc2
          have hown2 := hacc2.1
          clear hacc2 hb3 hb2 hbw Hacc q0 q1 q2 p0
          go_wp2_with (first | (at_builtin; refine wpList_append_own _ rfl _ _ 47 rfl w1.heap.size 3 i0 _ 1 8 Try.underlying47 hi0 hz0 hz1 hz2 rfl (by decide) _ _ _ rfl (hown2.alloc _) ⟨w2.heap.size, 0, none⟩ 1 1 (IntR.enc ((k : Int))) rfl rfl ?c1 ?c2 ?c3 ?c4 ?c5 ?_) | go_in)
          case c1 =>
            intro j u hu
            rcases j with _ | j <;> simp [IntR.enc] at hu <;> subst hu <;> simp [Addr.add, go_sem]
          case c2 => intro u hu; simp [IntR.enc] at hu; subst hu; rfl
          case c3 => have := Hlen.out; unfold maxLen; omega
          case c4 => have := Hlen.out; omega
          case c5 => have := Hacc2.out.2.size; simp; omega
          intro v' w5 hown' hg' _
          have hnext := acc_push Hacc2.out ((Below.refl _ _).alloc (Nat.le_refl _) _) hown' hg'
          rw [← Hn1.out] at hnext
          have Hn := Lib.hid hnext
          clear hnext hown' hg' hown2 Hacc2
          go_wp2
          go_roundw
          case rel => exact ⟨k + 1, by omega, by go_num, by rw [HG.out], Hn.out⟩
          case measure => simp [intOf]; omega
        · have hn := Hls.out hlate
          have hn2 := hn
          clear Hln Hls
          go_wp2_with fail
          refine (isLate_f x g _ x0 x1 x2 x3 x4 x5 u0 u1 (by omega)).mono ?_
          rintro e w2 ⟨rfl, hb3⟩
          have hacc2 := acc_keep Hacc.out hb3
          rw [← hn] at hacc2
          have Hacc2 := Lib.hid hacc2
          clear hacc2 hb3 hb2 hbw Hacc q0 q1 q2 p0 hn hn2
          go_wp2
          go_roundw
          case rel => exact ⟨k + 1, by omega, by go_num, by rw [HG.out], Hacc2.out⟩
          case measure => simp [intOf]; omega
      · have hkl : l.take k = l := List.take_of_length_le (by omega)
        have hfin := Hacc.out
        rw [hkl] at hfin
        have Hfin := Lib.hid hfin
        have hlen := lateGo_len b (-1) l 0
        have Hlen := Lib.hid hlen
        clear hfin hkl Hacc hlen
        go_wp2
        all_goals go_returns
        all_goals (rw [HF.out]; exact acc_post2 hb1 Hfin.out (by have := Hlen.out; omega))
  · have hF : lateF l b = [] := by unfold lateF; rw [if_neg hv]
    have hM : marksF l b = [] := by unfold marksF; rw [if_neg hv]
    have HF := Lib.hid hF
    rw [hM]
    clear hF hM hrm hv
    go_wp2
    go_rounds 1
    all_goals go_returns
    all_goals (rw [HF.out]; exact acc_post (acc_none _ _ _ hb1) (by simp))
end Go.Proofs.Ytehedhkadjidpaa
