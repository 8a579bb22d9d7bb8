import Derived.Test.YtjjjlpnbniofjaaFrA
import Derived.Test.YtjjjlpnbniofjaaDrL
import Derived.Test.YtjjjlpnbniofjaaApp
import Derived.Laws.OwnMore
namespace Go.Proofs.Ytjjjlpnbniofjaa
open Go.RowKit
/-- The block of a slice is B or a later one. -/
def Fr (B : Nat) (A : Option Addr) : Prop := ∀ a, A = some a → B ≤ a.block
theorem own_fr {α : Type} {enc : α → List Value} {k T B : Nat} {w : World} {A : Option Addr} {n c : Nat} {l : List α} (h : Own enc k T w B (.slice A n c) l) : Fr B A := by
  intro a ha
  subst ha
  exact (h.lt a.block rfl).1
theorem fr_mono {B B' : Nat} {A : Option Addr} (h : Fr B' A) (hB : B ≤ B') : Fr B A := fun a ha => Nat.le_trans hB (h a ha)
theorem dropA_fr {B c p k : Nat} {A : Option Addr} (h : Fr B A) : Fr B (dropA A c p k) := by
  unfold dropA
  split
  · exact h
  · intro a ha
    rcases A with _ | x
    · cases ha
    · injection ha with ha
      subst ha
      have e : (x.add (p * k)).block = x.block := by unfold Addr.add; split <;> rfl
      show B ≤ (x.add (p * k)).block
      rw [e]
      exact h x rfl
theorem gr_row {a w w1 w' : World} {R : Nat} {row : Option Nat} (h : Gr a w R) (hb : Below w.heap.size w w1) (hg : w1.grownBy w' row) (hr : ∀ g, row = some g → a.heap.size ≤ g) : Gr a w' R := by
  have h1 := gr_below h hb
  exact ⟨hg.os.trans h1.os, hg.tape.trans h1.tape, hg.output.trans h1.output, Nat.le_trans h1.size hg.size, fun i hi hne => (hg.block i (Nat.lt_of_lt_of_le hi h1.size) (fun e => by have := hr i e.symm; omega)).trans (h1.block i hi hne)⟩
theorem rd_row {a w w1 w' : World} {R p : Nat} {row : Option Nat} (h : Rd w R p) (hb : Below w.heap.size w w1) (hg : w1.grownBy w' row) (hr : ∀ g, row = some g → a.heap.size ≤ g) (hR : R < a.heap.size) : Rd w' R p := by
  have h1 := rd_below h hb
  have hlt := rd_lt h1
  exact rd_keep h1 (fun k hk => hg.block k (by omega) (fun e => by have := hr k e.symm; omega))
theorem row_gr {α : Type} {enc : α → List Value} {k B R : Nat} {w w' : World} {A : Option Addr} {l : List α} (h : Row enc k w A l) (hf : Fr B A) (hR : R < B) (hg : Gr w w' R) : Row enc k w' A l :=
  ⟨h.1, fun h0 => by
    obtain ⟨b, off, rfl, hlt, hc⟩ := h.2 h0
    have hb := hf _ rfl
    exact ⟨b, off, rfl, Nat.lt_of_lt_of_le hlt hg.size, fun i x hx j u hu => (gr_cell hg hlt (by simp at hb; omega)).trans (hc i x hx j u hu)⟩⟩
theorem flat_set1 : ∀ (l : List Int) (i : Nat) (q : Int), (l.flatMap IntR.enc).set i (.int .i64 q) = (l.set i q).flatMap IntR.enc
  | [], i, q => by simp
  | y :: l, 0, q => by rw [List.flatMap_cons, List.set_cons_zero, List.flatMap_cons]; rfl
  | y :: l, i + 1, q => by
    have ih := flat_set1 l i q
    rw [List.set_cons_succ, List.flatMap_cons, List.flatMap_cons, ← ih]
    rfl
theorem own_put1 {T B : Nat} {w : World} {g c : Nat} {l : List Int} (h : Own IntR.enc 1 T w B (.slice (some ⟨g, 0, none⟩) l.length c) l) {i : Nat} (_hi : i < l.length) (q : Int) :
    Own IntR.enc 1 T (w.setCell ⟨g, i, none⟩ (.int .i64 q)) B (.slice (some ⟨g, 0, none⟩) (l.set i q).length c) (l.set i q) := by
  obtain ⟨h1, h2⟩ := h
  obtain ⟨s1, -⟩ := h2.stored i (.int .i64 q)
  rw [flat_set1] at s1
  exact ⟨by simpa using h1, by simpa using s1⟩
def SpPost (m d : Nat) (w : World) (R p : Nat) (e : Ending) (w' : World) : Prop :=
  ∃ (A : Option Addr) (c : Nat) (l : List Int) (p' : Nat), e = .returned (.slice A l.length c) ∧ Row IntR.enc 1 w' A l ∧ Fr w.heap.size A ∧ l.length ≤ m ∧ (∀ x ∈ l, -1 ≤ x ∧ x ≤ 100) ∧ p' ≤ p + d ∧ Rd w' R p' ∧ Gr w w' R
set_option maxRecDepth 100000 in
set_option maxHeartbeats 1000000 in
theorem copyI_any (A : Option Addr) (c : Nat) (l : List Int) (w : World) (ha : Row IntR.enc 1 w A l) : Calls Try.prog 107 #[.slice A l.length c] w (OwnPost IntR.enc 1 3 w l) := by
  have hal := ha.1
  obtain ⟨j0, hj0, hy0, hy1, hy2⟩ := info_parts IntR.zero_info
  have Hacc0 := Lib.hid (acc_made IntR.enc 1 3 (Below.refl w.heap.size w))
  have bA0 : Below w.heap.size w (w.alloc (.cells #[] 3)) := (Below.refl _ _).alloc (Nat.le_refl _) _
  go_enter Try.func107, Try.ntmps107
  go_wp2_with (first | (at_builtin; refine wpList_append_row rfl _ _ 29 rfl j0 _ 8 Try.underlying29 hj0 hy0 hy1 hy2 rfl (by decide) (by decide) _ [] rfl Hacc0.out A l.length c l rfl rfl (ha.keep bA0) IntR.enc_len (by intro x u hu; simp [IntR.enc] at hu; subst hu; rfl) (by simp; omega) ?_; intro v1 y1 hacc1 _ _) | fail)
  all_goals go_returns
  all_goals exact acc_post hacc1 hal
set_option maxRecDepth 100000 in
set_option maxHeartbeats 4000000 in
theorem spoil_any (w : World) (R p : Nat) (h : Rd w R p) (hp : p + 4 ≤ 1000000000) (A : Option Addr) (c : Nat) (l : List Int) (ha : Row IntR.enc 1 w A l) (hl : l.length ≤ 100) (hb : ∀ x ∈ l, -1 ≤ x ∧ x ≤ 100) :
    Calls Try.prog 69 #[.pointer (some ⟨R, 0, none⟩), .slice A l.length c, .int .i64 100] w (SpPost 101 4 w R p) := by
  have hR := rd_lt h
  obtain ⟨j0, hj0, hy0, hy1, hy2⟩ := info_parts IntR.zero_info
  go_enter Try.func69, Try.ntmps69
  go_wp2_with fail
  refine (copyI_any A c l w ha).mono ?_
  rintro e w1 ⟨A1, c1, rfl, o1, b1⟩
  have hr1 := rd_below h b1
  have g1 := gr_below (gr_refl w R) b1
  go_wp2_with fail
  refine (pick_any 20 _ R p hr1 (by omega) (by omega)).mono ?_
  rintro e w2 ⟨v, rfl, v0, v1, -, hr2, hg2, -⟩
  have o2 := own_gr o1 hg2 hR
  have g2 := gr_trans g1 hg2
  have zs := g2.size
  have hcap := o2.lenCap
  clear h b1 hr1 g1 hg2 o1 v1 ha
  rcases (show v = 0 ∨ v = 1 ∨ v = 2 ∨ 2 < v by omega) with rfl | rfl | rfl | hv
  · have hown := o2.2
    go_wp2_with (first | (at_builtin; refine wpList_append_own _ rfl _ _ 29 rfl w.heap.size 3 j0 _ 1 8 Try.underlying29 hj0 hy0 hy1 hy2 rfl (by decide) _ _ _ rfl (hown.alloc _) ⟨w2.heap.size, 0, none⟩ 1 1 (IntR.enc (100 : Int)) rfl rfl ?c1 ?c2 ?c3 ?c4 ?c5 ?_) | fail)
    case c1 =>
      intro j u hu
      rcases j with _ | j <;> simp [IntR.enc] at hu <;> subst hu <;> simp [Addr.add, go_sem]
    case c2 => intro u hu; simp [IntR.enc] at hu; subst hu; rfl
    case c3 => unfold maxLen; omega
    case c4 => omega
    case c5 => simp; omega
    intro v' w3 hown' hg' _
    have bA : Below w2.heap.size w2 (w2.alloc (.cells #[.int .i64 100] 3)) := (Below.refl _ _).alloc (Nat.le_refl _) _
    have o3 : Own IntR.enc 1 3 w3 w.heap.size v' (l ++ [100]) := ⟨by simp; omega, by simpa using hown'⟩
    obtain ⟨A3, c3, rfl⟩ := o3.form
    have hlow : ∀ g, Value.ownBlock (.slice A1 l.length c1) = some g → w.heap.size ≤ g := fun g hg => (hown.lt g hg).1
    have hr3 := rd_row hr2 bA hg' hlow hR
    have g3 := gr_row g2 bA hg' hlow
    have Hp := Lib.hid (show _ ∧ _ ∧ _ ∧ _ from ⟨o3.row IntR.enc_len, own_fr o3, hr3, g3⟩)
    clear o3 hr3 g3 hown hown' hg' o2 hr2 g2
    go_wp2
    all_goals go_returns
    all_goals exact ⟨A3, c3, l ++ [100], p + 1, rfl, Hp.out.1, Hp.out.2.1, by simp; omega, (fun x hx => by rcases List.mem_append.1 hx with h | h; exact hb x h; simp at h; omega), by omega, Hp.out.2.2.1, Hp.out.2.2.2⟩
  · rcases l with _ | ⟨x0, l0⟩
    · have _t := trivial
      have Hp := Lib.hid (show _ ∧ _ ∧ _ ∧ _ from ⟨o2.row IntR.enc_len, own_fr o2, hr2, g2⟩)
      clear hr2 g2 o2
      go_wp2
      all_goals go_returns
      all_goals exact ⟨A1, c1, [], p + 1, rfl, Hp.out.1, Hp.out.2.1, by simp, (by simp), by omega, Hp.out.2.2.1, Hp.out.2.2.2⟩
    · obtain ⟨L, hL⟩ : ∃ L, L = x0 :: l0 := ⟨_, rfl⟩
      have hpos : 0 < L.length := by rw [hL]; simp
      rw [← hL] at o2 hl hb hcap ⊢
      clear hL
      have hpos2 : decide ((0 : Int) < (L.length : Int)) = true := by simp; omega
      have hrow := (o2.row IntR.enc_len).dropIf (p := 1) hcap
      have hfr := dropA_fr (c := c1) (p := 1) (k := 1) (own_fr o2)
      have hdl : (L.drop 1).length = L.length - 1 := List.length_drop
      have Hb := Lib.hid hb
      clear hb
      by_cases hc1 : c1 = 1
      · have e : dropA A1 c1 1 1 = A1 := by unfold dropA; rw [if_pos hc1]
        rw [e] at hrow hfr
        have Hp := Lib.hid (show _ ∧ _ ∧ _ ∧ _ from ⟨hrow, hfr, hr2, g2⟩)
        have Hdl := Lib.hid hdl
        clear hrow hfr hr2 g2 o2 e hdl
        go_wp2
        all_goals go_returns
        all_goals exact ⟨A1, 0, L.drop 1, p + 1, by rw [Hdl.out]; rfl, Hp.out.1, Hp.out.2.1, by rw [Hdl.out]; omega, (fun x hx => Hb.out x ((List.drop_sublist _ _).subset hx)), by omega, Hp.out.2.2.1, Hp.out.2.2.2⟩
      · have e : dropA A1 c1 1 1 = Option.map (fun x => x.add (1 * 1)) A1 := by unfold dropA; rw [if_neg hc1]
        rw [e] at hrow hfr
        have Hp := Lib.hid (show _ ∧ _ ∧ _ ∧ _ from ⟨hrow, hfr, hr2, g2⟩)
        have Hdl := Lib.hid hdl
        clear hrow hfr hr2 g2 o2 e hdl
        go_wp2
        all_goals go_returns
        all_goals exact ⟨_, c1 - 1, L.drop 1, p + 1, by rw [Hdl.out]; first | rfl | simp, Hp.out.1, Hp.out.2.1, by rw [Hdl.out]; omega, (fun x hx => Hb.out x ((List.drop_sublist _ _).subset hx)), by omega, Hp.out.2.2.1, Hp.out.2.2.2⟩
  · rcases l with _ | ⟨x0, l0⟩
    · have _t := trivial
      have Hp := Lib.hid (show _ ∧ _ ∧ _ ∧ _ from ⟨o2.row IntR.enc_len, own_fr o2, hr2, g2⟩)
      clear hr2 g2 o2
      go_wp2
      all_goals go_returns
      all_goals exact ⟨A1, c1, [], p + 1, rfl, Hp.out.1, Hp.out.2.1, by simp, (by simp), by omega, Hp.out.2.2.1, Hp.out.2.2.2⟩
    · obtain ⟨L, hL⟩ : ∃ L, L = x0 :: l0 := ⟨_, rfl⟩
      have hpos : 0 < L.length := by rw [hL]; simp
      rw [← hL] at o2 hl hb hcap ⊢
      clear hL
      have hpos2 : decide ((0 : Int) < (L.length : Int)) = true := by simp; omega
      go_wp2_with fail
      refine (pick_any (L.length : Int) _ R (p + 1) hr2 (by omega) (by omega)).mono ?_
      rintro e w3 ⟨k, rfl, k0, k1, -, hr3, hg3, -⟩
      have k2 := k1 (by omega)
      obtain ⟨K, rfl⟩ := Int.eq_ofNat_of_zero_le k0
      have hK : K < L.length := by omega
      have o3 := own_gr o2 hg3 hR
      have g3 := gr_trans g2 hg3
      clear o2 g2 hg3 hr2 k0 k1 k2
      have o4 := o3.keep (alloc_below w3 (.cells #[.int .i64 (-1), .int .i64 100, .int .i64 0, .int .i64 1] 3))
      have g4 := gr_alloc g3 (.cells #[.int .i64 (-1), .int .i64 100, .int .i64 0, .int .i64 1] 3)
      have hr4 := rd_alloc hr3 (.cells #[.int .i64 (-1), .int .i64 100, .int .i64 0, .int .i64 1] 3)
      have bl := heap_alloc_new w3 (.cells #[.int .i64 (-1), .int .i64 100, .int .i64 0, .int .i64 1] 3)
      have hRw3 := rd_lt hr3
      clear o3 g3 hr3
      go_wp2_with fail
      refine (oneL_any [-1, 100, 0, 1] _ R (p + 1 + 1) 4 hr4 (by omega) (w3.heap.size) _ bl rfl rfl (by omega) (by omega) (by omega)).mono ?_
      rintro e w5 ⟨q, q_m, rfl, hr5, hg5⟩
      have q_b : -1 ≤ q ∧ q ≤ 100 := by simp at q_m; omega
      have o5 := own_gr o4 hg5 hR
      have g5 := gr_trans g4 hg5
      clear o4 g4 hr4 bl hg5 q_m
      obtain ⟨g, cap, hv, hgb, hglt⟩ := o5.2.form (by omega)
      injection hv with hA _ hc
      subst hA hc
      have ho1 := o5.2
      have hfl := flat_len IntR.enc_len L
      have c0 : w5.cell? ⟨g, K, none⟩ = some ((L.flatMap IntR.enc)[K]'(by omega)) := by rw [ho1.cellAt K (by omega)]; exact List.getElem?_eq_getElem _
      have f0 := ho1.frozenAt K
      have hgR : R < g := by omega
      have o6 := own_put1 o5 hK q
      have Hp := Lib.hid (show _ ∧ _ ∧ _ ∧ _ from ⟨o6.row IntR.enc_len, own_fr o6, rd_setCell (a := ⟨g, K, none⟩) hr5 hgR (.int .i64 q), gr_setCell (p := ⟨g, K, none⟩) g5 hgb (.int .i64 q)⟩)
      clear ho1 hr5 g5 o5 o6
      go_wp2
      all_goals go_returns
      all_goals exact ⟨some ⟨g, 0, none⟩, c1, L.set K q, p + 1 + 1 + 1, by simp, Hp.out.1, Hp.out.2.1, by simp; omega, (fun x hx => by rcases List.mem_or_eq_of_mem_set hx with h | h; exact hb x h; omega), by omega, Hp.out.2.2.1, Hp.out.2.2.2⟩
  · have v0 : (v == 0) = false := by simp; omega
    have v1 : (v == 1) = false := by simp; omega
    have v2 : (v == 2) = false := by simp; omega
    have Hp := Lib.hid (show _ ∧ _ ∧ _ ∧ _ from ⟨o2.row IntR.enc_len, own_fr o2, hr2, g2⟩)
    clear hr2 g2 o2
    go_wp2
    all_goals go_returns
    all_goals exact ⟨A1, c1, l, p + 1, rfl, Hp.out.1, Hp.out.2.1, by omega, hb, by omega, Hp.out.2.2.1, Hp.out.2.2.2⟩
end Go.Proofs.Ytjjjlpnbniofjaa
