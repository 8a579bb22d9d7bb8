import Derived.Test.YtehedhkadjidpaaLateS
import Derived.Test.YtehedhkadjidpaaEvA
namespace Go.Proofs.Ytehedhkadjidpaa
open Go.RowKit
theorem marksGo_take (b : Int) : ∀ (g : Int) (l : List EventR) (n : Nat), marksGo b g (l.take n) = (marksGo b g l).take n
  | _, [], n => by simp [marksGo]
  | g, x :: l, 0 => by simp [marksGo]
  | g, x :: l, n + 1 => by simp only [List.take_succ_cons, marksGo]; rw [marksGo_take b _ l n]
theorem vEvs_take {l : List EventR} (h : vEvs l = true) (n : Nat) : vEvs (l.take n) = true := by
  unfold vEvs at *
  simp only [Bool.and_eq_true, List.all_eq_true, decide_eq_true_eq] at *
  exact ⟨Nat.le_trans (List.length_take_le' _ _) h.1, fun x hx => h.2 x (List.mem_of_mem_take hx)⟩
theorem marksF_take {l : List EventR} {b : Int} (h : (marksF l b).length ≠ 0) (n : Nat) : marksF (l.take n) b = (marksF l b).take n := by
  unfold marksF at *
  split at h
  · rename_i hv
    rw [if_pos hv, if_pos ⟨vEvs_take hv.1 n, hv.2⟩]; exact marksGo_take _ _ _ _
  · simp at h
theorem marksF_len {l : List EventR} {b : Int} (h : (marksF l b).length ≠ 0) : (marksF l b).length = l.length := by
  unfold marksF at *
  split at h
  · rename_i hv; rw [if_pos hv]; exact marksGo_len _ _ _
  · simp at h
theorem wm_anti {b b' g : Int} (h : b ≤ b') : wm b' g ≤ wm b g := by unfold wm; (repeat' split) <;> omega
theorem late_sub {b b' : Int} (h : b ≤ b') (x : Int) : ∀ (i : Nat) (g : Int) (l : List EventR), x ∈ lateGo b' i g l → x ∈ lateGo b i g l
  | _, _, [], hx => by simp [lateGo] at hx
  | i, g, y :: l, hx => by
    simp only [lateGo, List.mem_append] at *
    rcases hx with hx | hx
    · left
      split at hx
      · rename_i hy
        rw [if_pos (Int.le_trans hy (wm_anti h))]; exact hx
      · simp at hx
    · right; exact late_sub h x _ _ _ hx
theorem lateF_sub {l : List EventR} {b b' x : Int} (h : b ≤ b') (h0 : 0 ≤ b) (hx : x ∈ lateF l b') : x ∈ lateF l b := by
  unfold lateF at *
  split at hx
  · rename_i hv; rw [if_pos ⟨hv.1, h0, by omega⟩]; exact late_sub h x _ _ _ hx
  · simp at hx
theorem late_none {b : Int} (b0 : 0 ≤ b) : ∀ (i : Nat) (g : Int) (l : List EventR), (∀ x ∈ l, g ≤ x.a0 ∧ 0 ≤ x.a0) → l.Pairwise (fun x y => x.a0 ≤ y.a0) → lateGo b i g l = []
  | _, _, [], _, _ => rfl
  | i, g, y :: l, h, hp => by
    rw [List.pairwise_cons] at hp
    have hy := h y (by simp)
    have hw : ¬ y.a0 ≤ wm b g := by unfold wm; split <;> omega
    simp only [lateGo]
    rw [if_neg hw, List.nil_append]
    refine late_none b0 (i + 1) _ l (fun x hx => ?_) hp.2
    have h1 := hp.1 x hx
    have h2 := h x (by simp [hx])
    refine ⟨?_, h2.2⟩
    unfold mx; split <;> omega
theorem vEvs_time {l : List EventR} (h : vEvs l = true) : ∀ x ∈ l, 0 ≤ x.a0 ∧ x.a0 ≤ 999 := fun x hx => by
  unfold vEvs at h
  simp only [Bool.and_eq_true, List.all_eq_true] at h
  have := h.2 x hx
  unfold vEvB at this
  rw [decide_eq_true_eq] at this
  omega
theorem late_sorted (l : List EventR) (b : Int) (b0 : 0 ≤ b) : lateF (soF l) b = [] := by
  unfold lateF
  split
  · rename_i hv
    rcases Bool.eq_false_or_eq_true (vEvs l) with h | h
    · rw [soF_yes h] at hv ⊢
      refine late_none b0 0 (-1) _ (fun x hx => ?_) ((srt_pw l).imp (fun {x y} h => by rw [leE_iff] at h; omega))
      have := vEvs_time hv.1 x hx
      omega
    · rw [soF_no h]; rfl
  · rfl
theorem late_mem {b : Int} : ∀ (i : Nat) (g : Int) (l : List EventR) (n : Nat), ((n : Int) ∈ lateGo b i g l) ↔ ∃ k x, n = i + k ∧ l[k]? = some x ∧ x.a0 ≤ wm b (topT g (l.take k))
  | i, g, [], n => by simp [lateGo]
  | i, g, y :: l, n => by
    simp only [lateGo, List.mem_append]
    rw [late_mem (i + 1) (mx g y.a0) l n]
    constructor
    · rintro (h | ⟨k, x, h1, h2, h3⟩)
      · split at h
        · rename_i hy
          simp at h
          exact ⟨0, y, by omega, by simp, by simpa [topT] using hy⟩
        · simp at h
      · exact ⟨k + 1, x, by omega, by simpa using h2, by simpa [topT] using h3⟩
    · rintro ⟨k, x, h1, h2, h3⟩
      rcases k with _ | k
      · left
        simp at h2; subst h2
        rw [if_pos (by simpa [topT] using h3)]; simp; omega
      · right
        exact ⟨k, x, by omega, by simpa using h2, by simpa [topT] using h3⟩
theorem lateF_mem {l : List EventR} {b : Int} (hv : vEvs l = true) (b0 : 0 ≤ b) (b1 : b ≤ 999) {k : Nat} {x : EventR} (hx : l[k]? = some x) : ((k : Int) ∈ lateF l b) ↔ x.a0 ≤ wm b (topT (-1) (l.take k)) := by
  unfold lateF
  rw [if_pos ⟨hv, b0, b1⟩, late_mem]
  constructor
  · rintro ⟨k', x', h1, h2, h3⟩
    obtain rfl : k' = k := by omega
    rw [hx] at h2; injection h2 with h2; subst h2; exact h3
  · intro h; exact ⟨k, x, by omega, hx, h⟩
theorem lateF_zero (l : List EventR) (b : Int) : (0 : Int) ∉ lateF l b := by
  unfold lateF
  split
  · rename_i hv
    intro h
    have h := (late_mem (b := b) 0 (-1) l 0).1 (by simpa using h)
    obtain ⟨k, x, h1, h2, h3⟩ := h
    obtain rfl : k = 0 := by omega
    have hb := vEvs_time hv.1 x (List.mem_of_getElem? h2)
    have h4 : wm b (-1) = -1 := by unfold wm; rw [if_neg (by omega)]
    simp only [List.take_zero, topT, List.foldl_nil] at h3
    rw [h4] at h3; omega
  · simp
theorem lateF_len (l : List EventR) (b : Int) : (lateF l b).length ≤ l.length := by
  unfold lateF; split
  · exact lateGo_len _ _ _ _
  · simp
end Go.Proofs.Ytehedhkadjidpaa
