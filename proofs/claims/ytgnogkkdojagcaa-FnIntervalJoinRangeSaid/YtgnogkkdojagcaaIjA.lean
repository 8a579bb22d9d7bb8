import Derived.Test.YtgnogkkdojagcaaIjI
namespace Go.Proofs.Ytgnogkkdojagcaa
open Go.RowKit
theorem prs_mem {low high : Int} {r : List EventR} {x : EventR} {p : PairR} : p ∈ prs low high r x ↔ ∃ y, y ∈ r ∧ pairP low high x y ∧ p = mkPair x y := by
  unfold prs
  rw [List.mem_filterMap]
  constructor
  · rintro ⟨y, hy, h⟩
    unfold pr at h
    split at h
    · rename_i hp
      injection h with h
      exact ⟨y, hy, of_decide_eq_true hp, h.symm⟩
    · exact absurd h (by simp)
  · rintro ⟨y, hy, hp, rfl⟩
    exact ⟨y, hy, by unfold pr; rw [if_pos (show pairB low high x y = true from decide_eq_true hp)]⟩
theorem ij_mem {l r : List EventR} {low high : Int} {p : PairR} (h : p ∈ ijF l r low high) : ijP l r low high ∧ ∃ x y, x ∈ l ∧ y ∈ r ∧ pairP low high x y ∧ p = mkPair x y := by
  unfold ijF at h
  split at h
  · rename_i hp
    obtain ⟨x, hx, h⟩ := List.mem_flatMap.1 h
    obtain ⟨y, hy, h1, h2⟩ := prs_mem.1 h
    exact ⟨hp, x, y, hx, hy, h1, h2⟩
  · exact absurd h (by simp)
theorem ij_in {l r : List EventR} {low high : Int} (hp : ijP l r low high) {x y : EventR} (hx : x ∈ l) (hy : y ∈ r) (h : pairP low high x y) : mkPair x y ∈ ijF l r low high := by
  unfold ijF; rw [if_pos hp]
  exact List.mem_flatMap.2 ⟨x, hx, prs_mem.2 ⟨y, hy, h, rfl⟩⟩
def swP (p : PairR) : PairR := ⟨p.a3, p.a4, p.a5, p.a0, p.a1, p.a2⟩
theorem ijP_swap {l r : List EventR} {low high : Int} (h : ijP l r low high) : ijP r l (-high) (-low) := by
  obtain ⟨h1, h2, h3⟩ := h
  refine ⟨h2, h1, ?_⟩
  have h4 := of_decide_eq_true h3
  exact decide_eq_true (by omega)
theorem pairP_swap {low high : Int} {x y : EventR} (h : pairP low high x y) : pairP (-high) (-low) y x := by
  unfold pairP at *; omega
theorem ij_swap_mem {l r : List EventR} {low high : Int} {p : PairR} (h : p ∈ ijF l r low high) : swP p ∈ ijF r l (-high) (-low) := by
  obtain ⟨hp, x, y, hx, hy, h1, rfl⟩ := ij_mem h
  exact ij_in (ijP_swap hp) hy hx (pairP_swap h1)
theorem prs_count (low high : Int) (r : List EventR) (x : EventR) : (prs low high r x).length = r.countP (pairB low high x) := by
  unfold prs
  induction r with
  | nil => rfl
  | cons y r ih =>
    by_cases h : pairB low high x y = true
    · rw [List.filterMap_cons_some (by unfold pr; rw [if_pos h]), List.length_cons, ih, List.countP_cons_of_pos h]
    · rw [List.filterMap_cons_none (by unfold pr; rw [if_neg h]), ih, List.countP_cons_of_neg h]
theorem flat_count {α β : Type} (f : α → List β) (l : List α) : (l.flatMap f).length = (l.map (fun x => (f x).length)).sum := by
  induction l with
  | nil => rfl
  | cons x l ih => rw [List.flatMap_cons, List.length_append, ih, List.map_cons, List.sum_cons]
theorem sum_add {β : Type} (f g : β → Nat) (r : List β) : (r.map (fun y => f y + g y)).sum = (r.map f).sum + (r.map g).sum := by
  induction r with
  | nil => rfl
  | cons y r ih => rw [List.map_cons, List.map_cons, List.map_cons, List.sum_cons, List.sum_cons, List.sum_cons, ih]; omega
theorem sum_count {β : Type} (p : β → Bool) (r : List β) : r.countP p = (r.map (fun y => if p y = true then 1 else 0)).sum := by
  induction r with
  | nil => rfl
  | cons y r ih => rw [List.countP_cons, List.map_cons, List.sum_cons, ih]; omega
theorem dbl {α β : Type} (P : α → β → Bool) (l : List α) (r : List β) : (l.map (fun x => r.countP (P x))).sum = (r.map (fun y => l.countP (fun x => P x y))).sum := by
  induction l with
  | nil =>
    rw [List.map_nil, List.sum_nil]
    induction r with
    | nil => rfl
    | cons y r ih => rw [List.map_cons, List.sum_cons, ← ih]; rfl
  | cons x l ih =>
    rw [List.map_cons, List.sum_cons, ih, sum_count, ← sum_add]
    congr 1
    refine List.map_congr_left fun y _ => ?_
    rw [List.countP_cons]; omega
theorem ij_swap_len {l r : List EventR} {low high : Int} (h : ijP l r low high) : (ijF r l (-high) (-low)).length = (ijF l r low high).length := by
  unfold ijF
  rw [if_pos h, if_pos (ijP_swap h), flat_count, flat_count]
  simp only [prs_count]
  rw [dbl]
  congr 1
  refine List.map_congr_left fun x _ => ?_
  congr 1
  funext y
  unfold pairB
  exact decide_eq_decide.2 ⟨fun k => by have := pairP_swap k; rw [Int.neg_neg, Int.neg_neg] at this; exact this, pairP_swap⟩
theorem ij_wider {l r : List EventR} {low high high2 : Int} (h : ijP l r low high) (h2 : high ≤ high2) (h3 : high2 ≤ 999) : (ijF l r low high).length ≤ (ijF l r low high2).length := by
  have hp2 : ijP l r low high2 := ⟨h.1, h.2.1, by have h4 := of_decide_eq_true h.2.2; exact decide_eq_true (by omega)⟩
  unfold ijF
  rw [if_pos h, if_pos hp2, flat_count, flat_count]
  simp only [prs_count]
  induction l with
  | nil => exact Nat.le_refl _
  | cons x l ih =>
    rw [List.map_cons, List.map_cons, List.sum_cons, List.sum_cons]
    refine Nat.add_le_add ?_ ?_
    · exact List.countP_mono_left fun y _ hy => decide_eq_true (by have h := of_decide_eq_true hy; unfold pairP at *; omega)
    · clear ih h hp2
      induction l with
      | nil => exact Nat.le_refl _
      | cons x l ih =>
        rw [List.map_cons, List.map_cons, List.sum_cons, List.sum_cons]
        exact Nat.add_le_add (List.countP_mono_left fun y _ hy => decide_eq_true (by have h := of_decide_eq_true hy; unfold pairP at *; omega)) ih
theorem ij_yes {l r : List EventR} {low high : Int} (h : (ijF l r low high).length ≠ 0) : ijP l r low high := by
  unfold ijF at h
  split at h
  · assumption
  · exact absurd rfl h
theorem ij_x {l r : List EventR} {low high : Int} {p : PairR} (h : p ∈ ijF l r low high) : p.a1 = p.a4 ∧ low ≤ p.a3 - p.a0 ∧ p.a3 - p.a0 ≤ high ∧ 0 ≤ p.a0 ∧ p.a0 ≤ 999 ∧ 0 ≤ p.a3 ∧ p.a3 ≤ 999 := by
  obtain ⟨hp, x, y, hx, hy, h1, rfl⟩ := ij_mem h
  obtain ⟨i, hi⟩ := List.getElem?_of_mem hx
  obtain ⟨j, hj⟩ := List.getElem?_of_mem hy
  have b1 := ev_bd hp.1 hi
  have b2 := ev_bd hp.2.1 hj
  exact ⟨h1.1, h1.2.1, h1.2.2, b1.1, b1.2.1, b2.1, b2.2.1⟩
end Go.Proofs.Ytgnogkkdojagcaa
