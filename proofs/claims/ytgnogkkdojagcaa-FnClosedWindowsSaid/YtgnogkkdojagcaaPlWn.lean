import Derived.Test.YtgnogkkdojagcaaDrWn
import Derived.Test.YtgnogkkdojagcaaWnIdx
import Derived.Test.YtgnogkkdojagcaaEqi
import Derived.Test.YtgnogkkdojagcaaLIs
import Derived.Test.YtgnogkkdojagcaaBo
namespace Go.Proofs.Ytgnogkkdojagcaa
open Go.RowKit
theorem idxs_mem_iff {α : Type} (p : α → Bool) : ∀ (l : List α) (i : Nat) (x : Int), x ∈ idxs p l i ↔ ∃ j y, x = ((i + j : Nat) : Int) ∧ l[j]? = some y ∧ p y = true
  | [], i, x => by simp [idxs]
  | z :: l, i, x => by
    have ih := idxs_mem_iff p l (i + 1) x
    have hs : x ∈ idxs p (z :: l) i ↔ (p z = true ∧ x = (i : Int)) ∨ x ∈ idxs p l (i + 1) := by
      simp only [idxs]; split
      · rename_i h; simp [h]
      · rename_i h; simp [h]
    rw [hs, ih]
    constructor
    · rintro (⟨h1, h2⟩ | ⟨j, y, h1, h2, h3⟩)
      · exact ⟨0, z, by simpa using h2, by simp, h1⟩
      · exact ⟨j + 1, y, by rw [h1]; congr 1; omega, by simpa using h2, h3⟩
    · rintro ⟨j, y, h1, h2, h3⟩
      rcases j with _ | j
      · left; simp at h2; subst h2; exact ⟨h3, by simpa using h1⟩
      · right; exact ⟨j, y, by rw [h1]; congr 1; omega, by simpa using h2, h3⟩

theorem closedF_yes {l : List WindowR} {mark : Int} (h : (closedF l mark).length ≠ 0) : vWns l = true ∧ -1 ≤ mark ∧ mark ≤ 1998 := by
  unfold closedF at h
  split at h
  · assumption
  · exact absurd rfl h
theorem closedF_sub {l : List WindowR} {mark m2 x : Int} (h1 : mark ≤ m2) (h2 : m2 ≤ 1998) (hx : x ∈ closedF l mark) : x ∈ closedF l m2 := by
  unfold closedF at hx ⊢
  split at hx
  · rename_i hp
    rw [if_pos ⟨hp.1, by omega, h2⟩]
    rw [idxs_mem_iff] at hx ⊢
    obtain ⟨j, y, e, hy, hc⟩ := hx
    refine ⟨j, y, e, hy, ?_⟩
    unfold closedB at *
    have := of_decide_eq_true hc
    exact decide_eq_true (by omega)
  · exact absurd hx (by simp)
theorem closedF_at {l : List WindowR} {mark x : Int} (hx : x ∈ closedF l mark) : ∃ (j : Nat) (h : j < l.length), x = (j : Int) ∧ l[j].a1 ≤ mark + 1 := by
  unfold closedF at hx
  split at hx
  · rw [idxs_mem_iff] at hx
    obtain ⟨j, y, e, hy, hc⟩ := hx
    obtain ⟨hlt, he⟩ := List.getElem?_eq_some_iff.1 hy
    unfold closedB at hc
    have := of_decide_eq_true hc
    exact ⟨j, hlt, by omega, by rw [he]; omega⟩
  · exact absurd hx (by simp)
set_option maxHeartbeats 1000000 in
theorem implHas_f (x : WindowR) (t : Int) (h : x.a1 ≤ t) (w : World) : Calls Try.prog 12 #[.agg #[.int .i64 x.a0, .int .i64 x.a1], .int .i64 t] w fun e w' => e = .returned (.bool false) ∧ Below w.heap.size w w' := by
  have nb := Bo.made w #[.int .i64 x.a0, .int .i64 x.a1] 32
  have hB : Below w.heap.size w (w.alloc (.cells #[.int .i64 x.a0, .int .i64 x.a1] 32)) := (Below.refl _ _).alloc (Nat.le_refl _) _
  have p0 := nb.1 0 _ rfl
  have p1 := nb.1 1 _ rfl
  have pl := nb.2
  have e2 : decide (t < x.a1) = false := decide_eq_false (by omega)
  go_enter Try.func12, Try.ntmps12
  go_wp2_with fail
  generalize w.alloc (.cells #[.int .i64 x.a0, .int .i64 x.a1] 32) = wA at *
  refine (implWn_any x _).mono ?_
  rintro e w1 ⟨rfl, b⟩
  have p0' := (b.cell (p := ⟨w.heap.size, 0, none⟩) pl).trans p0
  have p1' := (b.cell (p := ⟨w.heap.size, 1, none⟩) pl).trans p1
  have hF := Lib.hid (hB.trans (b.mono hB.size))
  clear p0 p1 hB nb b
  by_cases h0 : x.a0 ≤ t
  · rcases Bool.eq_false_or_eq_true (vWnB x) with hv | hv
    all_goals
      rw [hv]
      go_wp2
      all_goals go_returns
      all_goals exact ⟨ret_bool (by first | rfl | simp), hF.out⟩
  · rcases Bool.eq_false_or_eq_true (vWnB x) with hv | hv
    all_goals
      rw [hv]
      go_wp2
      all_goals go_returns
      all_goals exact ⟨ret_bool (by first | rfl | simp), hF.out⟩
end Go.Proofs.Ytgnogkkdojagcaa
