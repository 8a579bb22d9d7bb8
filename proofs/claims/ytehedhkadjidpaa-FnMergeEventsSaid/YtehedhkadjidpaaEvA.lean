import Derived.Test.YtehedhkadjidpaaSoZ
import Derived.Test.YtehedhkadjidpaaFil
namespace Go.Proofs.Ytehedhkadjidpaa
open Go.RowKit
theorem srt_pw (l : List EventR) : (sortE l).Pairwise leE := by
  have hs := List.pairwise_mergeSort (le := fun x y => !(Go.Proofs.ltOf cfE) y x) (fun a b c h1 h2 => by
    simp only [Bool.not_eq_eq_eq_not, Bool.not_true] at *
    exact leE_trans (x := a) (y := b) (z := c) h1 h2) (fun a b => by
    rw [Bool.or_eq_true]
    rcases Bool.eq_false_or_eq_true (Go.Proofs.ltOf cfE b a) with h | h
    · right
      rw [ltE, decide_eq_true_eq] at h
      rw [Bool.not_eq_eq_eq_not, Bool.not_true, ltE, decide_eq_false_iff_not]; omega
    · left; rw [h]; rfl) l
  refine hs.imp (fun {a b} h => ?_)
  simpa [leE] using h
theorem pw_unique {o m : List EventR} (hp : o.Perm m) (h1 : o.Pairwise leE) (h2 : m.Pairwise leE) : o = m :=
  List.Perm.eq_of_pairwise (le := leE) (fun a b _ _ k1 k2 => totE a b k2 k1) h1 h2 hp
theorem sortE_perm (l : List EventR) : (sortE l).Perm l := List.mergeSort_perm l _
theorem sortE_congr {l m : List EventR} (hp : l.Perm m) : sortE l = sortE m :=
  pw_unique ((sortE_perm l).trans (hp.trans (sortE_perm m).symm)) (srt_pw l) (srt_pw m)
theorem vEvs_perm {l m : List EventR} (hp : l.Perm m) : vEvs l = vEvs m := by
  unfold vEvs
  rw [hp.length_eq, Bool.eq_iff_iff]
  simp only [Bool.and_eq_true, List.all_eq_true]
  constructor
  · rintro ⟨h, k⟩; exact ⟨h, fun x hx => k x (hp.mem_iff.2 hx)⟩
  · rintro ⟨h, k⟩; exact ⟨h, fun x hx => k x (hp.mem_iff.1 hx)⟩
theorem soF_perm {l m : List EventR} (hp : l.Perm m) : soF l = soF m := by
  unfold soF; rw [vEvs_perm hp, sortE_congr hp]
theorem soF_rev (l : List EventR) : soF l.reverse = soF l := soF_perm (List.reverse_perm l)
theorem soF_yes {l : List EventR} (h : vEvs l = true) : soF l = sortE l := by unfold soF; rw [if_pos h]
theorem soF_no {l : List EventR} (h : vEvs l = false) : soF l = [] := by unfold soF; rw [if_neg (by simp [h])]
theorem soF_nil : soF [] = [] := by unfold soF; simp [sortE]
theorem soF_idem (l : List EventR) : soF (soF l) = soF l := by
  rcases Bool.eq_false_or_eq_true (vEvs l) with h | h
  · rw [soF_yes h, soF_yes (by rw [vEvs_perm (sortE_perm l)]; exact h)]
    exact sortE_congr (sortE_perm l)
  · rw [soF_no h]; exact soF_nil
theorem vEvs_filter {l : List EventR} (h : vEvs l = true) (p : EventR → Bool) : vEvs (l.filter p) = true := by
  unfold vEvs at *
  simp only [Bool.and_eq_true, List.all_eq_true, decide_eq_true_eq] at *
  exact ⟨Nat.le_trans (List.length_filter_le _ _) h.1, fun x hx => h.2 x (List.mem_filter.1 hx).1⟩
theorem filterF_yes {l : List EventR} {lo hi : Int} (h : vEvs l = true) : filterF l lo hi = l.filter (inV lo hi) := by unfold filterF; rw [if_pos h]
theorem filterF_no {l : List EventR} {lo hi : Int} (h : vEvs l = false) : filterF l lo hi = [] := by unfold filterF; rw [if_neg (by simp [h])]
theorem vEvs_nil : vEvs [] = true := by unfold vEvs; simp
theorem filterF_soF (l : List EventR) (lo hi : Int) : filterF (soF l) lo hi = soF (filterF l lo hi) := by
  rcases Bool.eq_false_or_eq_true (vEvs l) with h | h
  · rw [soF_yes h, filterF_yes h, filterF_yes (by rw [vEvs_perm (sortE_perm l)]; exact h), soF_yes (vEvs_filter h _)]
    refine pw_unique ?_ ((srt_pw l).filter _) (srt_pw _)
    exact ((sortE_perm l).filter _).trans (sortE_perm _).symm
  · rw [soF_no h, filterF_no h, filterF_yes vEvs_nil, soF_nil]; rfl
theorem soF_len (l : List EventR) (h : (soF l).length ≠ 0) : vEvs l = true ∧ soF l = sortE l ∧ (soF l).length = l.length := by
  rcases Bool.eq_false_or_eq_true (vEvs l) with h1 | h1
  · exact ⟨h1, soF_yes h1, by rw [soF_yes h1, sortE_len]⟩
  · rw [soF_no h1] at h; simp at h
theorem soF_le (l : List EventR) : (soF l).length ≤ l.length := by
  unfold soF; split
  · rw [sortE_len]; exact Nat.le_refl _
  · simp
theorem filterF_le (l : List EventR) (lo hi : Int) : (filterF l lo hi).length ≤ l.length := by
  unfold filterF; split
  · exact List.length_filter_le _ _
  · simp
theorem leE_not {x y : EventR} (h : leE x y) : ¬ (0 < cfE x y) := by
  rw [leE_iff] at h
  unfold cfE cmpE cmpI
  (repeat' split) <;> omega
theorem asc_at {o : List EventR} (h : o.Pairwise leE) {k : Nat} (hk : k + 1 < o.length) : ¬ (0 < cfE (o[k]'(by omega)) (o[k + 1]'hk)) :=
  leE_not ((List.pairwise_iff_getElem.1 h) k (k + 1) (by omega) hk (by omega))
def totV : List EventR → Int
  | [] => 0
  | x :: l => x.a2 + totV l
theorem totV_perm {l m : List EventR} (hp : l.Perm m) : totV l = totV m := by
  induction hp with
  | nil => rfl
  | cons x _ ih => simp only [totV, ih]
  | swap x y l => simp only [totV]; omega
  | trans _ _ a b => exact a.trans b
theorem totV_app (l : List EventR) (x : EventR) : totV (l ++ [x]) = totV l + x.a2 := by
  induction l with
  | nil => simp [totV]
  | cons y l ih => simp only [List.cons_append, totV, ih]; omega
theorem totV_next {l : List EventR} {k : Nat} {x : EventR} (hx : l[k]? = some x) : totV (l.take (k + 1)) = totV (l.take k) + x.a2 := by
  rw [List.take_add_one, hx]; exact totV_app _ _
theorem totV_bounds {l : List EventR} (h : ∀ x ∈ l, 0 ≤ x.a2 ∧ x.a2 ≤ 99) : 0 ≤ totV l ∧ totV l ≤ 99 * l.length := by
  induction l with
  | nil => simp [totV]
  | cons x l ih =>
    have h1 := h x (by simp)
    have h2 := ih (fun y hy => h y (by simp [hy]))
    simp only [totV, List.length_cons]; omega
theorem vEvs_val {l : List EventR} (h : vEvs l = true) : ∀ x ∈ l, 0 ≤ x.a2 ∧ x.a2 ≤ 99 := fun x hx => by
  unfold vEvs at h
  simp only [Bool.and_eq_true, List.all_eq_true] at h
  have := h.2 x hx
  unfold vEvB at this
  rw [decide_eq_true_eq] at this
  omega
theorem totV_ok {l : List EventR} (h : vEvs l = true) (k : Nat) : 0 ≤ totV (l.take k) ∧ totV (l.take k) ≤ 4000 := by
  have h1 := totV_bounds (l := l.take k) (fun x hx => vEvs_val h x (List.mem_of_mem_take hx))
  have h2 : l.length ≤ 40 := by unfold vEvs at h; simp only [Bool.and_eq_true, decide_eq_true_eq] at h; exact h.1
  have h3 := List.length_take_le' k l
  omega
theorem three {l : List EventR} (h : ∀ x ∈ l, 0 ≤ x.a2 ∧ x.a2 ≤ 99) {lo hi : Int} (_hl : -1 ≤ lo) (hh : lo ≤ hi) :
    (l.filter (inV (-1) (lo - 1))).length + (l.filter (inV lo hi)).length + (l.filter (inV (hi + 1) 99)).length = l.length := by
  induction l with
  | nil => rfl
  | cons x l ih =>
    have hx := h x (by simp)
    have ih := ih (fun y hy => h y (by simp [hy]))
    by_cases h1 : x.a2 ≤ lo - 1
    · have e1 : inV (-1) (lo - 1) x = true := by unfold inV; rw [decide_eq_true_eq]; omega
      have e2 : inV lo hi x = false := by unfold inV; rw [decide_eq_false_iff_not]; omega
      have e3 : inV (hi + 1) 99 x = false := by unfold inV; rw [decide_eq_false_iff_not]; omega
      simp only [List.filter_cons, e1, e2, e3, List.length_cons, if_true]; simp; omega
    · by_cases h2 : x.a2 ≤ hi
      · have e1 : inV (-1) (lo - 1) x = false := by unfold inV; rw [decide_eq_false_iff_not]; omega
        have e2 : inV lo hi x = true := by unfold inV; rw [decide_eq_true_eq]; omega
        have e3 : inV (hi + 1) 99 x = false := by unfold inV; rw [decide_eq_false_iff_not]; omega
        simp only [List.filter_cons, e1, e2, e3, List.length_cons, if_true]; simp; omega
      · have e1 : inV (-1) (lo - 1) x = false := by unfold inV; rw [decide_eq_false_iff_not]; omega
        have e2 : inV lo hi x = false := by unfold inV; rw [decide_eq_false_iff_not]; omega
        have e3 : inV (hi + 1) 99 x = true := by unfold inV; rw [decide_eq_true_eq]; omega
        simp only [List.filter_cons, e1, e2, e3, List.length_cons, if_true]; simp; omega
theorem filter_twice (l : List EventR) (lo hi : Int) : filterF (filterF l lo hi) lo hi = filterF l lo hi := by
  rcases Bool.eq_false_or_eq_true (vEvs l) with h | h
  · rw [filterF_yes h, filterF_yes (vEvs_filter h _), List.filter_filter]
    congr 1; funext x; simp
  · rw [filterF_no h, filterF_yes vEvs_nil]; rfl
theorem three_F {l : List EventR} (h : vEvs l = true) {lo hi : Int} (_hl : -1 ≤ lo) (hh : lo ≤ hi) :
    (filterF l (-1) (lo - 1)).length + (filterF l lo hi).length + (filterF l (hi + 1) 99).length = l.length := by
  rw [filterF_yes h, filterF_yes h, filterF_yes h]; exact three (vEvs_val h) _hl hh
end Go.Proofs.Ytehedhkadjidpaa
