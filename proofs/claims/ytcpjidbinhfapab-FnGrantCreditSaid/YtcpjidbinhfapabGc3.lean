import Derived.Test.YtcpjidbinhfapabDrCh
namespace Go.Proofs.Ytcpjidbinhfapab
open Go.RowKit
theorem gc_three (x y : Int) (l L0 L5 : List ItemR) (h0 : L0 = []) (h5 : L5 = l ++ [⟨0, 1⟩]) : gc x y l = (0, 0, L0, false) ∨ (chB x y l = true ∧ y + (l.length : Int) = x ∧ gc x y l = (x, y, l, false)) ∨
    (chB x y l = true ∧ y + (l.length : Int) < x ∧ sd x (y + 1) l ⟨0, 1⟩ = (x, y, L5, true) ∧ gc x y l = (x, y + 1, l, true)) := by
  subst h0 h5
  by_cases hv : chB x y l = true
  · obtain ⟨a, b, c, d, f⟩ := chB_parts hv
    by_cases hy : y + (l.length : Int) = x
    · exact .inr (.inl ⟨hv, hy, by unfold gc; rw [if_pos hv, if_pos hy]⟩)
    · have hg : gc x y l = (x, y + 1, l, true) := by unfold gc; rw [if_pos hv, if_neg hy]
      have hok := gc_ok (x := x) (y := y) (l := l) (by rw [hg])
      rw [hg] at hok
      refine .inr (.inr ⟨hv, by omega, ?_, hg⟩)
      unfold sd
      rw [if_pos ⟨hok, by unfold itB; exact decide_eq_true (.inl ⟨rfl, by simp, by simp⟩)⟩, if_neg (by omega), show y + 1 - 1 = y by omega]
  · exact .inl (by unfold gc; rw [if_neg hv])
end Go.Proofs.Ytcpjidbinhfapab
