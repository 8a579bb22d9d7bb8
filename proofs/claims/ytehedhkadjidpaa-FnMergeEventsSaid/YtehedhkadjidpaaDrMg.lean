import Derived.Test.YtehedhkadjidpaaDrFe
namespace Go.Proofs.Ytehedhkadjidpaa
open Go.RowKit
def DrMg (w : World) (e : Ending) (w' : World) : Prop :=
  ∃ (A : Option Addr) (c : Nat) (l : List EventR) (A2 : Option Addr) (c2 : Nat) (m : List EventR), e = .returned (.tuple #[.slice A l.length c, .slice A2 m.length c2]) ∧ Own EventR.enc 3 32 w' w.heap.size (.slice A l.length c) l ∧ Own EventR.enc 3 32 w' w.heap.size (.slice A2 m.length c2) m ∧ l.length ≤ 41 ∧ m.length ≤ 41 ∧ Below w.heap.size w w'
set_option maxRecDepth 100000 in
set_option maxHeartbeats 4000000 in
theorem drawMergeEvents_any (w : World) (a : Option Addr) (len cap : Nat) (z : List Int) (h : IsRow .u8 w a len cap z) (hl : len ≤ 1048576) : Calls Try.prog 32 #[.slice a len cap] w (DrMg w) := by
  go_enter Try.func32, Try.ntmps32
  have g1 := Below.refl w.heap.size w
  have ir2 := isRow_keep h g1
  clear h
  go_wp2_with fail
  refine (newReader_any _ a len cap z ir2 hl).mono ?_
  rintro e w1 ⟨R, rfl, hR, hrN, hbN⟩
  have g4 := g1.trans (hbN.mono (by omega))
  have lt5 := rd_lt hrN
  have sz6 := g4.size
  clear ir2 g1 hbN
  go_wp2_with fail
  refine (anyEvents_any _ R 0 hrN (by omega)).mono ?_
  rintro e w2 ⟨A, c, l, p2, rfl, o1, l41, hp2, hr7, hg8⟩
  have zs_w2 := hg8.size
  have g9 := g4.trans (gr_of_below (B := w.heap.size) hg8 (by have := g4.size; first | exact this | (simp; omega) | omega) (by omega))
  have lt10 := rd_lt hr7
  clear hg8 hrN g4
  go_wp2_with fail
  refine (anyEvents_any _ R p2 hr7 (by omega)).mono ?_
  rintro e w3 ⟨A2, c2, m, p3, rfl, o2, m41, hp3, hr11, hg12⟩
  have zs_w3 := hg12.size
  have o15 := own_gr o1 hg12 (by omega)
  clear o1
  have g13 := g9.trans (gr_of_below (B := w.heap.size) hg12 (by have := g9.size; first | exact this | (simp; omega) | omega) (by omega))
  have lt14 := rd_lt hr11
  clear hg12 hr7 g9
  go_wp2_with fail
  refine (pick_any 8 _ R (p3) hr11 (by omega) (by omega)).mono ?_
  rintro e w4 ⟨ko, rfl, ko_0, ko_1, -, hr16, hg17, -⟩
  have zs_w4 := hg17.size
  have o20 := own_gr o15 hg17 (by omega)
  clear o15
  have o21 := own_gr o2 hg17 (by omega)
  clear o2
  have g18 := g13.trans (gr_of_below (B := w.heap.size) hg17 (by have := g13.size; first | exact this | (simp; omega) | omega) (by omega))
  have lt19 := rd_lt hr16
  clear hg17 hr11 g13
  rcases (show ko ≤ 0 ∨ 0 < ko by omega) with hco | hco
  · have hdo : decide (0 < ko) = false := decide_eq_false (by omega)
    go_wp2_with fail
    refine (pick_any 8 _ R (p3 + 1) hr16 (by omega) (by omega)).mono ?_
    rintro e w6 ⟨kp, rfl, kp_0, kp_1, -, hr22, hg23, -⟩
    have zs_w6 := hg23.size
    have o26 := own_gr o20 hg23 (by omega)
    clear o20
    have o27 := own_gr o21 hg23 (by omega)
    clear o21
    have g24 := g18.trans (gr_of_below (B := w.heap.size) hg23 (by have := g18.size; first | exact this | (simp; omega) | omega) (by omega))
    have lt25 := rd_lt hr22
    clear hg23 hr16 g18
    rcases (show kp ≤ 0 ∨ 0 < kp by omega) with hcp | hcp
    · have hdp : decide (0 < kp) = false := decide_eq_false (by omega)
      have zz := g24.size
      have Hp := Lib.hid (show _ ∧ _ ∧ _ from ⟨own_rebase (B := w.heap.size) o26 (by omega), own_rebase (B := w.heap.size) o27 (by omega), g24⟩)
      clear o26 o27 g24
      go_wp2
      all_goals go_returns
      all_goals exact ⟨A, c, l, A2, c2, m, rfl, Hp.out.1, Hp.out.2.1, by omega, by omega, Hp.out.2.2⟩
    · have hdp : decide (0 < kp) = true := decide_eq_true hcp
      go_wp2_with fail
      refine (specSortIn_any A2 c2 m _ (o27.row EventR.enc_len)).mono ?_
      rintro e w7 ⟨A5, c5, rfl, oS, bS⟩
      have hr28 := rd_below hr22 bS
      have g29 := g24.trans (bS.mono g24.size)
      have zs_w7 := bS.size
      have o30 := o26.keep bS
      have o31 := own_rebase (B := w1.heap.size) oS (by omega)
      have ltw7 := rd_lt hr28
      have hSp : (sortE m).length ≤ 41 := by rw [sortE_len]; omega
      clear hr22 g24 oS bS o26 o27
      have zz := g29.size
      have Hp := Lib.hid (show _ ∧ _ ∧ _ from ⟨own_rebase (B := w.heap.size) o30 (by omega), own_rebase (B := w.heap.size) o31 (by omega), g29⟩)
      clear o30 o31 g29
      go_wp2
      all_goals go_returns
      all_goals exact ⟨A, c, l, A5, c5, (sortE m), rfl, Hp.out.1, Hp.out.2.1, by omega, by omega, Hp.out.2.2⟩
  · have hdo : decide (0 < ko) = true := decide_eq_true hco
    go_wp2_with fail
    refine (specSortIn_any A c l _ (o20.row EventR.enc_len)).mono ?_
    rintro e w5 ⟨A4, c4, rfl, oS, bS⟩
    have hr22 := rd_below hr16 bS
    have g23 := g18.trans (bS.mono g18.size)
    have zs_w5 := bS.size
    have o24 := own_rebase (B := w1.heap.size) oS (by omega)
    have o25 := o21.keep bS
    have ltw5 := rd_lt hr22
    have hSo : (sortE l).length ≤ 41 := by rw [sortE_len]; omega
    clear hr16 g18 oS bS o20 o21
    go_wp2_with fail
    refine (pick_any 8 _ R (p3 + 1) hr22 (by omega) (by omega)).mono ?_
    rintro e w6 ⟨kp, rfl, kp_0, kp_1, -, hr26, hg27, -⟩
    have zs_w6 := hg27.size
    have o30 := own_gr o24 hg27 (by omega)
    clear o24
    have o31 := own_gr o25 hg27 (by omega)
    clear o25
    have g28 := g23.trans (gr_of_below (B := w.heap.size) hg27 (by have := g23.size; first | exact this | (simp; omega) | omega) (by omega))
    have lt29 := rd_lt hr26
    clear hg27 hr22 g23
    rcases (show kp ≤ 0 ∨ 0 < kp by omega) with hcp | hcp
    · have hdp : decide (0 < kp) = false := decide_eq_false (by omega)
      have zz := g28.size
      have Hp := Lib.hid (show _ ∧ _ ∧ _ from ⟨own_rebase (B := w.heap.size) o30 (by omega), own_rebase (B := w.heap.size) o31 (by omega), g28⟩)
      clear o30 o31 g28
      go_wp2
      all_goals go_returns
      all_goals exact ⟨A4, c4, (sortE l), A2, c2, m, rfl, Hp.out.1, Hp.out.2.1, by omega, by omega, Hp.out.2.2⟩
    · have hdp : decide (0 < kp) = true := decide_eq_true hcp
      go_wp2_with fail
      refine (specSortIn_any A2 c2 m _ (o31.row EventR.enc_len)).mono ?_
      rintro e w7 ⟨A5, c5, rfl, oS, bS⟩
      have hr32 := rd_below hr26 bS
      have g33 := g28.trans (bS.mono g28.size)
      have zs_w7 := bS.size
      have o34 := o30.keep bS
      have o35 := own_rebase (B := w1.heap.size) oS (by omega)
      have ltw7 := rd_lt hr32
      have hSp : (sortE m).length ≤ 41 := by rw [sortE_len]; omega
      clear hr26 g28 oS bS o30 o31
      have zz := g33.size
      have Hp := Lib.hid (show _ ∧ _ ∧ _ from ⟨own_rebase (B := w.heap.size) o34 (by omega), own_rebase (B := w.heap.size) o35 (by omega), g33⟩)
      clear o34 o35 g33
      go_wp2
      all_goals go_returns
      all_goals exact ⟨A4, c4, (sortE l), A5, c5, (sortE m), rfl, Hp.out.1, Hp.out.2.1, by omega, by omega, Hp.out.2.2⟩
end Go.Proofs.Ytehedhkadjidpaa
