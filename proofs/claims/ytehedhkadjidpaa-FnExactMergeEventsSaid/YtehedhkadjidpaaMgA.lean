import Derived.Test.YtehedhkadjidpaaEvA
namespace Go.Proofs.Ytehedhkadjidpaa
open Go.RowKit
def leB (x y : EventR) : Bool := decide (cfE x y ≤ 0)
theorem leB_iff {x y : EventR} : leB x y = true ↔ leE x y := by
  unfold leB
  rw [decide_eq_true_eq, leE_iff]
  unfold cfE cmpE cmpI
  (repeat' split) <;> omega
/-- What merging makes of two lists. -/
def mergeE (a b : List EventR) : List EventR := List.merge a b leB
theorem mergeE_pw {a b : List EventR} (ha : a.Pairwise leE) (hb : b.Pairwise leE) : (mergeE a b).Pairwise leE := by
  have h := List.pairwise_merge (le := leB) (fun x y z h1 h2 => by rw [leB_iff] at *; exact leE_trans h1 h2) (fun x y => by
    rw [Bool.or_eq_true, leB_iff, leB_iff]
    by_cases h : cfE x y < 0
    · exact .inl (leE_of_lt h)
    · exact .inr (leE_of_not h)) a b (ha.imp (fun {x y} h => leB_iff.2 h)) (hb.imp (fun {x y} h => leB_iff.2 h))
  exact h.imp (fun {x y} h => leB_iff.1 h)
theorem mergeE_sort {a b : List EventR} (ha : a.Pairwise leE) (hb : b.Pairwise leE) : mergeE a b = sortE (a ++ b) :=
  pw_unique ((List.merge_perm_append leB).trans (sortE_perm (a ++ b)).symm) (mergeE_pw ha hb) (srt_pw _)
/-- In order, neighbour by neighbour. -/
def isSo : List EventR → Bool
  | [] => true
  | [_] => true
  | x :: y :: l => decide (¬ cfE y x < 0) && isSo (y :: l)
theorem isSo_pw : ∀ {l : List EventR}, isSo l = true → l.Pairwise leE
  | [], _ => List.Pairwise.nil
  | [x], _ => by simp
  | x :: y :: l, h => by
    simp only [isSo, Bool.and_eq_true, decide_eq_true_eq] at h
    have ih := isSo_pw (l := y :: l) h.2
    have hxy := leE_of_not h.1
    rw [List.pairwise_cons]
    refine ⟨fun z hz => ?_, ih⟩
    rcases List.mem_cons.1 hz with rfl | hz
    · exact hxy
    · exact leE_trans hxy ((List.pairwise_cons.1 ih).1 z hz)
theorem isSo_of_pw : ∀ {l : List EventR}, l.Pairwise leE → isSo l = true
  | [], _ => rfl
  | [x], _ => rfl
  | x :: y :: l, h => by
    rw [List.pairwise_cons] at h
    simp only [isSo, Bool.and_eq_true, decide_eq_true_eq]
    refine ⟨fun hc => ?_, isSo_of_pw h.2⟩
    have h1 := h.1 y (by simp)
    have h2 := leE_of_lt hc
    have := totE x y h2 h1
    subst this
    have h3 : ¬ cfE x x < 0 := by unfold cfE cmpE cmpI; (repeat' split) <;> omega
    exact h3 hc
theorem isSo_sort (l : List EventR) : isSo (sortE l) = true := isSo_of_pw (srt_pw l)
theorem isSo_stop {l : List EventR} {k : Nat} {x y : EventR} (hx : l[k]? = some x) (hy : l[k + 1]? = some y) (hc : cfE y x < 0) : isSo l = false := by
  rw [Bool.eq_false_iff]
  intro h
  have hp := isSo_pw h
  obtain ⟨k1, e1⟩ := List.getElem?_eq_some_iff.1 hx
  obtain ⟨k2, e2⟩ := List.getElem?_eq_some_iff.1 hy
  have h1 := List.pairwise_iff_getElem.1 hp k (k + 1) k1 k2 (by omega)
  rw [e1, e2] at h1
  have h2 := leE_of_lt hc
  have := totE x y h2 h1
  subst this
  have h3 : ¬ cfE x x < 0 := by unfold cfE cmpE cmpI; (repeat' split) <;> omega
  exact h3 hc
/-- From place k on (neighbours k, k + 1 and later) in order. -/
def SoFrom (l : List EventR) (k : Nat) : Prop := ∀ (j : Nat) (x y : EventR), k ≤ j → l[j]? = some x → l[j + 1]? = some y → ¬ cfE y x < 0
theorem soFrom_all {l : List EventR} (h : SoFrom l 0) : isSo l = true := by
  induction l with
  | nil => rfl
  | cons x l ih =>
    rcases l with _ | ⟨y, l⟩
    · rfl
    · simp only [isSo, Bool.and_eq_true, decide_eq_true_eq]
      exact ⟨h 0 x y (by omega) (by simp) (by simp), ih (fun j a b _ h1 h2 => h (j + 1) a b (by omega) (by simpa using h1) (by simpa using h2))⟩
/-- Up to place k in order. -/
def SoTo (l : List EventR) (k : Nat) : Prop := ∀ (j : Nat) (x y : EventR), j < k → l[j]? = some x → l[j + 1]? = some y → ¬ cfE y x < 0
theorem soTo_all {l : List EventR} {k : Nat} (h : SoTo l k) (hk : l.length ≤ k + 1) : isSo l = true :=
  soFrom_all fun j x y _ h1 h2 => h j x y (by have := (List.getElem?_eq_some_iff.1 h2).1; omega) h1 h2
theorem mergeE_nil_left (b : List EventR) : mergeE [] b = b := by unfold mergeE; simp
theorem mergeE_nil_right (a : List EventR) : mergeE a [] = a := by unfold mergeE; simp
theorem mergeE_left {a b : List EventR} {i j : Nat} {x y : EventR} (hx : a[i]? = some x) (hy : b[j]? = some y) (h : cfE x y ≤ 0) : mergeE (a.drop i) (b.drop j) = x :: mergeE (a.drop (i + 1)) (b.drop j) := by
  obtain ⟨h1, e1⟩ := List.getElem?_eq_some_iff.1 hx
  obtain ⟨h2, e2⟩ := List.getElem?_eq_some_iff.1 hy
  have d1 := List.drop_eq_getElem_cons h1
  have d2 := List.drop_eq_getElem_cons h2
  rw [e1] at d1; rw [e2] at d2
  unfold mergeE
  rw [d1, d2, List.cons_merge_cons_pos leB _ _ (by unfold leB; exact decide_eq_true h)]
theorem mergeE_right {a b : List EventR} {i j : Nat} {x y : EventR} (hx : a[i]? = some x) (hy : b[j]? = some y) (h : ¬ cfE x y ≤ 0) : mergeE (a.drop i) (b.drop j) = y :: mergeE (a.drop i) (b.drop (j + 1)) := by
  obtain ⟨h1, e1⟩ := List.getElem?_eq_some_iff.1 hx
  obtain ⟨h2, e2⟩ := List.getElem?_eq_some_iff.1 hy
  have d1 := List.drop_eq_getElem_cons h1
  have d2 := List.drop_eq_getElem_cons h2
  rw [e1] at d1; rw [e2] at d2
  unfold mergeE
  rw [d1, d2, List.cons_merge_cons_neg leB _ _ (by unfold leB; simpa using h)]
/-- What MergeEvents answers. -/
def mgF (a b : List EventR) : List EventR := if vEvs a = true ∧ vEvs b = true ∧ isSo a = true ∧ isSo b = true ∧ a.length + b.length ≤ 40 then sortE (a ++ b) else []
theorem mgF_comm (a b : List EventR) : mgF b a = mgF a b := by
  unfold mgF
  by_cases h : vEvs a = true ∧ vEvs b = true ∧ isSo a = true ∧ isSo b = true ∧ a.length + b.length ≤ 40
  · rw [if_pos h, if_pos ⟨h.2.1, h.1, h.2.2.2.1, h.2.2.1, by omega⟩]; exact sortE_congr List.perm_append_comm
  · rw [if_neg h, if_neg (fun k => h ⟨k.2.1, k.1, k.2.2.2.1, k.2.2.1, by omega⟩)]
theorem vEvs_append {a b : List EventR} (ha : vEvs a = true) (hb : vEvs b = true) (h : a.length + b.length ≤ 40) : vEvs (a ++ b) = true := by
  unfold vEvs at *
  simp only [Bool.and_eq_true, List.all_eq_true, decide_eq_true_eq, List.length_append, List.mem_append] at *
  exact ⟨h, fun x hx => hx.elim (ha.2 x) (hb.2 x)⟩
theorem mgF_sort {a b : List EventR} (h : (mgF a b).length ≠ 0) : soF (a ++ b) = mgF a b := by
  unfold mgF at *
  split at h
  · rename_i k
    rw [if_pos k, soF_yes (vEvs_append k.1 k.2.1 k.2.2.2.2)]
  · simp at h
theorem mgF_len (a b : List EventR) : (mgF a b).length ≤ 40 := by
  unfold mgF; split
  · rename_i k; rw [sortE_len, List.length_append]; exact k.2.2.2.2
  · simp
end Go.Proofs.Ytehedhkadjidpaa
