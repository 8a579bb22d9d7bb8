import Derived.Test.YtehedhkadjidpaaSoI
namespace Go.Proofs.Ytehedhkadjidpaa
open Go.RowKit
/-- x may stand before y. -/
def leE (x y : EventR) : Prop := Go.Proofs.ltOf cfE y x = false
theorem leE_iff (x y : EventR) : leE x y ↔ ¬ (y.a0 < x.a0 ∨ (y.a0 = x.a0 ∧ (y.a1 < x.a1 ∨ (y.a1 = x.a1 ∧ y.a2 < x.a2)))) := by
  unfold leE; rw [ltE, decide_eq_false_iff_not]
theorem leE_trans {x y z : EventR} (h1 : leE x y) (h2 : leE y z) : leE x z := by
  rw [leE_iff] at *; omega
theorem leE_of_lt {x y : EventR} (h : cfE x y < 0) : leE x y := by
  rw [leE_iff]; unfold cfE at h; rw [cmpE_neg] at h; omega
theorem leE_of_not {x y : EventR} (h : ¬ cfE x y < 0) : leE y x := by
  rw [leE_iff]; unfold cfE at h; rw [cmpE_neg] at h; omega
def SrtTo (o : List EventR) (i : Nat) : Prop := ∀ (a b : Nat) (x y : EventR), a < b → b < i → o[a]? = some x → o[b]? = some y → leE x y
def InsSt (l o : List EventR) (i j : Nat) : Prop := o.Perm l ∧ (∀ (a b : Nat) (x y : EventR), a < b → b ≤ i → a ≠ j → b ≠ j → o[a]? = some x → o[b]? = some y → leE x y) ∧ (∀ (b : Nat) (y z : EventR), j < b → b ≤ i → o[j]? = some z → o[b]? = some y → leE z y)
theorem ins_start {l o : List EventR} {i : Nat} (hp : o.Perm l) (h : SrtTo o i) : InsSt l o i i :=
  ⟨hp, fun a b x y h1 h2 _ h4 hx hy => h a b x y h1 (by omega) hx hy, fun b y z h1 h2 => by omega⟩
theorem ins_zero {l o : List EventR} {i : Nat} (h : InsSt l o i 0) : SrtTo o (i + 1) := fun a b x y h1 h2 hx hy => by
  by_cases h0 : a = 0
  · subst h0; exact h.2.2 b y x (by omega) (by omega) hx hy
  · exact h.2.1 a b x y h1 (by omega) h0 (by omega) hx hy
theorem ins_stop {l o : List EventR} {i j : Nat} {u v : EventR} (h : InsSt l o i (j + 1)) (hji : j + 1 ≤ i) (hu : o[j]? = some u) (hv : o[j + 1]? = some v) (hc : ¬ cfE v u < 0) : SrtTo o (i + 1) := fun a b x y h1 h2 hx hy => by
  by_cases ha : a = j + 1
  · subst ha; exact h.2.2 b y x (by omega) (by omega) hx hy
  · by_cases hb : b = j + 1
    · subst hb
      rw [hv] at hy; injection hy with hy; subst hy
      have huv := leE_of_not hc
      by_cases hj : a = j
      · subst hj; rw [hu] at hx; injection hx with hx; subst hx; exact huv
      · exact leE_trans (h.2.1 a j x u (by omega) (by omega) ha (by omega) hx hu) huv
    · exact h.2.1 a b x y h1 (by omega) ha hb hx hy
theorem get_swap {o : List EventR} {j : Nat} {u v : EventR} (hj : j + 1 < o.length) (k : Nat) : ((o.set (j + 1) u).set j v)[k]? = if k = j then some v else if k = j + 1 then some u else o[k]? := by
  rw [List.getElem?_set, List.getElem?_set]
  by_cases h1 : k = j
  · subst h1; simp; omega
  · by_cases h2 : k = j + 1
    · subst h2; simp; omega
    · rw [if_neg (fun e => h1 e.symm), if_neg (fun e => h2 e.symm), if_neg h1, if_neg h2]
theorem ins_next {l o : List EventR} {i j : Nat} {u v : EventR} (h : InsSt l o i (j + 1)) (hji : j + 1 ≤ i) (hl : j + 1 < o.length) (hu : o[j]? = some u) (hv : o[j + 1]? = some v) (hc : cfE v u < 0) : InsSt l ((o.set (j + 1) u).set j v) i j := by
  obtain ⟨hp, h1, h2⟩ := h
  refine ⟨?_, ?_, ?_⟩
  · have e1 : o[j]'(by omega) = u := by rw [List.getElem?_eq_getElem (by omega)] at hu; injection hu
    have e2 : o[j + 1]'hl = v := by rw [List.getElem?_eq_getElem hl] at hv; injection hv
    have hs := @List.set_set_perm EventR o (j + 1) j hl (by omega)
    rw [e1, e2] at hs
    exact hs.trans hp
  · intro a b x y hab hbi ha hb hx hy
    rw [get_swap hl, if_neg ha] at hx
    rw [get_swap hl, if_neg hb] at hy
    by_cases ha1 : a = j + 1
    · rw [if_pos ha1] at hx; injection hx with hx; subst hx
      rw [if_neg (by omega)] at hy
      exact h1 j b u y (by omega) hbi (by omega) (by omega) hu hy
    · rw [if_neg ha1] at hx
      by_cases hb1 : b = j + 1
      · rw [if_pos hb1] at hy; injection hy with hy; subst hy
        exact h1 a j x u (by omega) (by omega) ha1 (by omega) hx hu
      · rw [if_neg hb1] at hy
        exact h1 a b x y hab hbi ha1 hb1 hx hy
  · intro b y z hjb hbi hz hy
    rw [get_swap hl, if_pos rfl] at hz; injection hz with hz; subst hz
    rw [get_swap hl, if_neg (by omega)] at hy
    by_cases hb1 : b = j + 1
    · rw [if_pos hb1] at hy; injection hy with hy; subst hy; exact leE_of_lt hc
    · rw [if_neg hb1] at hy
      exact h2 b y v (by omega) hbi hv hy
theorem srt_end {l o : List EventR} (hp : o.Perm l) (h : SrtTo o o.length) : o = sortE l := by
  refine List.Perm.eq_of_pairwise (le := leE) (fun a b _ _ h1 h2 => totE a b h2 h1) ?_ ?_ (hp.trans (List.mergeSort_perm l _).symm)
  · rw [List.pairwise_iff_getElem]
    intro a b ha hb hab
    exact h a b _ _ hab hb (List.getElem?_eq_getElem ha) (List.getElem?_eq_getElem hb)
  · have hs := List.pairwise_mergeSort (le := fun x y => !(Go.Proofs.ltOf cfE) y x) (fun a b c h1 h2 => by
      simp only [Bool.not_eq_eq_eq_not, Bool.not_true] at *
      exact leE_trans (x := a) (y := b) (z := c) h1 h2) (fun a b => by
      rw [Bool.or_eq_true]
      rcases Bool.eq_false_or_eq_true (Go.Proofs.ltOf cfE b a) with h | h
      · right
        rw [ltE, decide_eq_true_eq] at h
        rw [Bool.not_eq_eq_eq_not, Bool.not_true, ltE, decide_eq_false_iff_not]; omega
      · left; rw [h]; rfl) l
    refine hs.imp (fun {a b} h => ?_)
    simpa [leE] using h
end Go.Proofs.Ytehedhkadjidpaa
