import Derived.Test.YtgnogkkdojagcaaDrEv
namespace Go.Proofs.Ytgnogkkdojagcaa
open Go.RowKit
def lenV (v : Value) : Nat := match v with
  | .slice _ n _ => n
  | _ => 0
set_option maxRecDepth 100000 in
set_option maxHeartbeats 4000000 in
theorem anyEvents_any (w : World) (R p : Nat) (h : Rd w R p) (hp : p + 260 ≤ 1000000000) : Calls Try.prog 33 #[.pointer (some ⟨R, 0, none⟩)] w (ListPost EventR.enc 3 42 41 260 w R p) := by
  obtain ⟨i0, hi0, hz0, hz1, hz2⟩ := info_parts EventR.zero_info
  have hR := rd_lt h
  have g1 := gr_refl w R
  have hr2 := h
  go_enter Try.func33, Try.ntmps33
  go_wp2_with fail
  refine (randomEvents_any _ R p hr2 (by omega)).mono ?_
  rintro e w1 ⟨A, c, l, p2, rfl, o1, l12, hp2, hr3, hg4⟩
  have zs_w1 := hg4.size
  have g5 := gr_trans g1 hg4
  have lt6 := rd_lt hr3
  clear hg4 hr2 g1
  go_wp2_with fail
  refine (pick_any 30 _ R (p2) hr3 (by omega) (by omega)).mono ?_
  rintro e w2 ⟨v, rfl, v_0, v_1, -, hr7, hg8, -⟩
  have zs_w2 := hg8.size
  have o11 := own_gr o1 hg8 (by omega)
  clear o1
  have g9 := gr_trans g5 hg8
  have lt10 := rd_lt hr7
  clear hg8 hr3 g5
  have v_2 := v_1 (by omega)
  rcases (show v = 0 ∨ v = 1 ∨ (v ≠ 0 ∧ v ≠ 1) by omega) with hv | hv | hv
  · subst hv
    go_wp2_with fail
    refine (anyEvent_any _ R (p2 + 1) hr7 (by omega)).mono ?_
    rintro e w3 ⟨x, y, z, p3, rfl, x0, x1, y0, y1, z0, z1, hp3, hr12, hg13⟩
    have zs_w3 := hg13.size
    have o16 := own_gr o11 hg13 (by omega)
    clear o11
    have g14 := gr_trans g9 hg13
    have lt15 := rd_lt hr12
    clear hg13 hr7 g9
    have o17 := o16.keep (alloc_below _ (.cells #[.int .i64 (-1), .int .i64 1000, .int .i64 0] 3))
    clear o16
    have b18 := heap_alloc_new w3 (.cells #[.int .i64 (-1), .int .i64 1000, .int .i64 0] 3)
    have hr19 := rd_alloc hr12 (.cells #[.int .i64 (-1), .int .i64 1000, .int .i64 0] 3)
    have g20 := gr_alloc g14 (.cells #[.int .i64 (-1), .int .i64 1000, .int .i64 0] 3)
    clear hr12 g14
    go_wp2_with fail
    refine (oneL_any [-1, 1000, 0] _ R (p3) 3 hr19 (by omega) (w3.heap.size) _ b18 rfl rfl (by omega) (by omega) (by omega)).mono ?_
    rintro e w4 ⟨u, u_m, rfl, hr21, hg22⟩
    have zs_w4 := hg22.size
    have o25 := own_gr o17 hg22 (by omega)
    clear o17
    have g23 := gr_trans g20 hg22
    have lt24 := rd_lt hr21
    clear hg22 hr19 g20
    have u_b : -1 ≤ u ∧ u ≤ 1000 := by simp at u_m; omega
    clear u_m
    clear b18
    have zA := g23.size
    have hbk : ∀ g, Value.ownBlock (.slice A l.length c) = some g → w.heap.size ≤ g := fun g hg => (o25.lt g hg).1
    go_wp2_with (first | (at_builtin; refine wpList_append_own _ rfl _ _ 34 rfl w.heap.size 42 i0 _ 3 24 Try.underlying34 hi0 hz0 hz1 hz2 rfl (by decide) _ _ _ rfl (o25.2.alloc _) ⟨w4.heap.size, 0, none⟩ 2 2 (EventR.enc ⟨x, y, z⟩ ++ EventR.enc ⟨u, 0, 0⟩) rfl rfl ?c1a ?c2a ?c3a ?c4a ?c5a ?_) | fail)
    case c1a =>
      intro j u hu
      rcases j with _ | _ | _ | _ | _ | _ | j <;> simp [EventR.enc] at hu <;> subst hu <;> simp [Addr.add, go_sem]
    case c2a => intro u hu; simp [EventR.enc] at hu; rcases hu with rfl | rfl | rfl | rfl | rfl | rfl <;> rfl
    case c3a => unfold maxLen; omega
    case c4a => omega
    case c5a => first | omega | (simp; done) | (simp; omega)
    intro v' w9 hown9 hg9 _
    have hbb := alloc_below w4 (.cells #[.int .i64 x, .int .i64 y, .int .i64 z, .int .i64 u, .int .i64 0, .int .i64 0] 42)
    have hr9 := rd_row (a := w) hr21 hbb hg9 hbk hR
    have hg10 := gr_row (a := w) g23 hbb hg9 hbk
    have ho9 : Own EventR.enc 3 42 w9 w.heap.size v' (l ++ [(⟨x, y, z⟩ : EventR), ⟨u, 0, 0⟩]) := ⟨by simp; omega, by simpa [List.flatMap_append, EventR.enc] using hown9⟩
    obtain ⟨A9, c9, rfl⟩ := ho9.form
    have hl9 : (l ++ [(⟨x, y, z⟩ : EventR), ⟨u, 0, 0⟩]).length = l.length + 2 := by simp
    have Hn := Lib.hid (show _ ∧ _ ∧ _ from ⟨hr9, hg10, ho9⟩)
    clear hr9 hg10 ho9 hbb hown9 hg9 hbk hr21 g23 o25
    go_wp2
    all_goals go_returns
    all_goals exact ⟨A9, c9, _, p3 + 1, rfl, Hn.out.2.2, by omega, by omega, Hn.out.1, Hn.out.2.1⟩
  · subst hv
    have Ho := Lib.hid (show _ ∧ _ ∧ _ from ⟨hr7, g9, o11⟩)
    clear hr7 g9 o11
    go_wp2
    go_loopw [3] (fun v wr => ∃ (p' : Nat) (A : Option Addr) (c : Nat) (l : List EventR), v = .slice A l.length c ∧ l.length ≤ 41 ∧ p' + 4 * (42 - l.length) ≤ p + 249 ∧ Rd wr R p' ∧ Gr w wr R ∧ Own EventR.enc 3 42 wr w.heap.size (.slice A l.length c) l) (fun v _ => 42 - lenV v)
    case atStart => exact ⟨p2 + 1, A, c, l, rfl, by omega, by omega, Ho.out.1, Ho.out.2.1, Ho.out.2.2⟩
    case round =>
      clear Ho
      obtain ⟨p', A, c, l, rfl, hl, hp', hr, hg, ho⟩ := hrel
      have zw := hg.size
      go_wp2_with fail
      refine (pick_any 2 _ R (p') hr (by omega) (by omega)).mono ?_
      rintro e w4 ⟨k, rfl, k_0, k_1, -, hr41, hg42, -⟩
      have zs_w4 := hg42.size
      have o45 := own_gr ho hg42 (by omega)
      clear ho
      have g43 := gr_trans hg hg42
      have lt44 := rd_lt hr41
      clear hg42 hr hg
      have k_2 := k_1 (by omega)
      have hw1 : IntKind.i64.wrap (40 + k) = 40 + k := IntWalk.i64_in _ (by omega)
      by_cases hlt : (l.length : Int) < 40 + k
      · have hd : decide ((l.length : Int) < 40 + k) = true := decide_eq_true hlt
        go_wp2_with fail
        refine (randomEvent_any _ R (p' + 1) hr41 (by omega)).mono ?_
        rintro e w5 ⟨x, y, z, p4, rfl, x0, x1, y0, y1, z0, z1, hp4, hr46, hg47⟩
        have zs_w5 := hg47.size
        have o50 := own_gr o45 hg47 (by omega)
        clear o45
        have g48 := gr_trans g43 hg47
        have lt49 := rd_lt hr46
        clear hg47 hr41 g43
        have zA := g48.size
        have hbk : ∀ g, Value.ownBlock (.slice A l.length c) = some g → w.heap.size ≤ g := fun g hg => (o50.lt g hg).1
        go_wp2_with (first | (at_builtin; refine wpList_append_own _ rfl _ _ 34 rfl w.heap.size 42 i0 _ 3 24 Try.underlying34 hi0 hz0 hz1 hz2 rfl (by decide) _ _ _ rfl (o50.2.alloc _) ⟨w5.heap.size, 0, none⟩ 1 1 (EventR.enc ⟨x, y, z⟩) rfl rfl ?c1b ?c2b ?c3b ?c4b ?c5b ?_) | fail)
        case c1b =>
          intro j u hu
          rcases j with _ | _ | _ | j <;> simp [EventR.enc] at hu <;> subst hu <;> simp [Addr.add, go_sem]
        case c2b => intro u hu; simp [EventR.enc] at hu; rcases hu with rfl | rfl | rfl <;> rfl
        case c3b => unfold maxLen; omega
        case c4b => omega
        case c5b => first | omega | (simp; done) | (simp; omega)
        intro v' w9 hown9 hg9 _
        have hbb := alloc_below w5 (.cells #[.int .i64 x, .int .i64 y, .int .i64 z] 42)
        have hr9 := rd_row (a := w) hr46 hbb hg9 hbk hR
        have hg10 := gr_row (a := w) g48 hbb hg9 hbk
        have ho9 : Own EventR.enc 3 42 w9 w.heap.size v' (l ++ [(⟨x, y, z⟩ : EventR)]) := ⟨by simp; omega, by simpa [List.flatMap_append, EventR.enc] using hown9⟩
        obtain ⟨A9, c9, rfl⟩ := ho9.form
        have hl9 : (l ++ [(⟨x, y, z⟩ : EventR)]).length = l.length + 1 := by simp
        have Hn := Lib.hid (show _ ∧ _ ∧ _ from ⟨hr9, hg10, ho9⟩)
        clear hr9 hg10 ho9 hbb hown9 hg9 hbk hr46 g48 o50
        go_wp2
        go_roundw
        case rel => exact ⟨p4, A9, c9, _, rfl, by omega, by omega, Hn.out.1, Hn.out.2.1, Hn.out.2.2⟩
        case measure => simp [lenV]; omega
      · have hd : decide ((l.length : Int) < 40 + k) = false := decide_eq_false hlt
        have Hn := Lib.hid (show _ ∧ _ ∧ _ from ⟨hr41, g43, o45⟩)
        clear hr41 g43 o45
        go_wp2
        all_goals go_returns
        all_goals exact ⟨A, c, l, p' + 1, rfl, Hn.out.2.2, hl, by omega, Hn.out.1, Hn.out.2.1⟩
  · have v0 : (v == 0) = false := by simp [hv.1]
    have v1 : (v == 1) = false := by simp [hv.2]
    have Hn := Lib.hid (show _ ∧ _ ∧ _ from ⟨hr7, g9, o11⟩)
    clear hr7 g9 o11
    go_wp2
    all_goals go_returns
    all_goals exact ⟨A, c, l, p2 + 1, rfl, Hn.out.2.2, by omega, by omega, Hn.out.1, Hn.out.2.1⟩
end Go.Proofs.Ytgnogkkdojagcaa
