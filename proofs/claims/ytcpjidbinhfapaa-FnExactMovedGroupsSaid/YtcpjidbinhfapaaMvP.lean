import Derived.Test.YtcpjidbinhfapaaKg
import Derived.Test.YtcpjidbinhfapaaTyInt
namespace Go.Proofs.Ytcpjidbinhfapaa
open Go.RowKit
def mvB (a b : Int) (g : Nat) : Bool := decide (stF (g : Int) a ≠ stF (g : Int) b)
def nV (a b : Int) : Prop := (1 ≤ a ∧ a ≤ 8) ∧ (1 ≤ b ∧ b ≤ 8)
instance (a b : Int) : Decidable (nV a b) := by unfold nV; infer_instance
def mvF (a b : Int) : List Int := if nV a b then idxs (mvB a b) (List.range 16) 0 else []
theorem mvB_symm (a b : Int) : mvB a b = mvB b a := by
  funext g
  unfold mvB
  exact decide_eq_decide.2 ⟨fun h => h.symm, fun h => h.symm⟩
theorem mvF_symm (a b : Int) : mvF a b = mvF b a := by
  unfold mvF
  rw [mvB_symm]
  by_cases h : nV a b
  · rw [if_pos h, if_pos (show nV b a from ⟨h.2, h.1⟩)]
  · rw [if_neg h, if_neg (show ¬ nV b a from fun h' => h ⟨h'.2, h'.1⟩)]
theorem mvF_self (a : Int) : mvF a a = [] := by
  unfold mvF
  split
  · have : ∀ (l : List Nat) i, idxs (mvB a a) l i = [] := by
      intro l
      induction l with
      | nil => intro i; rfl
      | cons x l ih => intro i; simp [idxs, ih, mvB]
    exact this _ _
  · rfl
theorem idxs_mem {α : Type} (p : α → Bool) (l : List α) (i : Nat) (x : Int) (h : x ∈ idxs p l i) : ∃ j, j < l.length ∧ x = ((i + j : Nat) : Int) ∧ ∃ y, l[j]? = some y ∧ p y = true := by
  induction l generalizing i with
  | nil => simp [idxs] at h
  | cons y l ih =>
    simp only [idxs] at h
    split at h
    · rename_i hp
      rcases List.mem_cons.1 h with rfl | h
      · exact ⟨0, by simp, by simp, y, rfl, hp⟩
      · obtain ⟨j, hj, he, z, hz, hp⟩ := ih (i + 1) h
        exact ⟨j + 1, by simp; omega, by rw [he]; congr 1; omega, z, by simpa using hz, hp⟩
    · obtain ⟨j, hj, he, z, hz, hp⟩ := ih (i + 1) h
      exact ⟨j + 1, by simp; omega, by rw [he]; congr 1; omega, z, by simpa using hz, hp⟩
theorem mvF_mem {a b x : Int} (h : x ∈ mvF a b) : 0 ≤ x ∧ x ≤ 15 ∧ stF x a ≠ stF x b := by
  unfold mvF at h
  split at h
  · obtain ⟨j, hj, he, y, hy, hp⟩ := idxs_mem _ _ _ _ h
    rw [List.length_range] at hj
    rw [List.getElem?_range hj] at hy
    injection hy with hy
    subst hy
    simp at he
    subst he
    exact ⟨by omega, by omega, by unfold mvB at hp; exact of_decide_eq_true hp⟩
  · simp at h
theorem mvF_len (a b : Int) : (mvF a b).length ≤ 16 := by
  unfold mvF
  split
  · have := idxs_len (mvB a b) (List.range 16) 0
    simpa using this
  · simp
theorem stF_bd (g n : Int) : -1 ≤ stF g n ∧ stF g n ≤ 7 := by
  unfold stF
  split
  · rename_i h
    obtain ⟨h0, h1, h2, h3⟩ := h
    rcases eight h0 h1 with rfl | rfl | rfl | rfl | rfl | rfl | rfl | rfl <;> omega
  · omega
end Go.Proofs.Ytcpjidbinhfapaa
