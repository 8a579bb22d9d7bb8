import Derived.Test.YtehedhkadjidpabDrIn2
import Derived.Test.YtehedhkadjidpabUpdS
import Derived.Test.YtehedhkadjidpabInIdx
import Derived.Test.YtehedhkadjidpabEqInp
import Derived.Test.YtehedhkadjidpabLIs
import Derived.Test.YtehedhkadjidpabEqi
import Derived.Test.YtehedhkadjidpabBo
namespace Go.Proofs.Ytehedhkadjidpab
open Go.RowKit
theorem idxs_mem_iff {α : Type} (p : α → Bool) : ∀ (l : List α) (i : Nat) (x : Int), x ∈ idxs p l i ↔ ∃ j y, x = ((i + j : Nat) : Int) ∧ l[j]? = some y ∧ p y = true
  | [], i, x => by simp [idxs]
  | z :: l, i, x => by
    have ih := idxs_mem_iff p l (i + 1) x
    have hs : x ∈ idxs p (z :: l) i ↔ (p z = true ∧ x = (i : Int)) ∨ x ∈ idxs p l (i + 1) := by
      simp only [idxs]; split
      · rename_i h; simp [h]
      · rename_i h; simp [h]
    rw [hs, ih]
    constructor
    · rintro (⟨h1, h2⟩ | ⟨j, y, h1, h2, h3⟩)
      · exact ⟨0, z, by simpa using h2, by simp, h1⟩
      · exact ⟨j + 1, y, by rw [h1]; congr 1; omega, by simpa using h2, h3⟩
    · rintro ⟨j, y, h1, h2, h3⟩
      rcases j with _ | j
      · left; simp at h2; subst h2; exact ⟨h3, by simpa using h1⟩
      · right; exact ⟨j, y, by rw [h1]; congr 1; omega, by simpa using h2, h3⟩
theorem idleF_yes {l : List InputR} {now idle : Int} (h : (idleF l now idle).length ≠ 0) : vIns l = true ∧ clk now idle := by
  unfold idleF at h
  split at h
  · assumption
  · simp at h
theorem idleF_sub {l : List InputR} {now idle now2 idle2 x : Int} (h1 : now ≤ now2) (h2 : idle2 ≤ idle) (hc : clk now2 idle2) (hx : x ∈ idleF l now idle) : x ∈ idleF l now2 idle2 := by
  unfold idleF at *
  split at hx
  · rename_i hv
    rw [if_pos ⟨hv.1, hc⟩]
    rw [idxs_mem_iff] at hx ⊢
    obtain ⟨j, y, e1, e2, e3⟩ := hx
    refine ⟨j, y, e1, e2, ?_⟩
    unfold idleB at *
    rw [decide_eq_true_eq] at *
    omega
  · simp at hx
theorem updK_P {l : List InputR} {i mark now : Int} (h : updK l i mark now = true) : updP l i mark now := of_decide_eq_true h
theorem upd_len {l : List InputR} {i mark now : Int} (h : updK l i mark now = true) : (updL l i mark now).length = l.length := by
  unfold updL; rw [if_pos (updK_P h), List.length_modify]
theorem upd_at {l : List InputR} {i mark now : Int} (h : updK l i mark now = true) {k : Nat} (hk : k < l.length) (hk2 : k < (updL l i mark now).length) :
    ((k : Int) ≠ i → (updL l i mark now)[k] = l[k]) ∧ l[k].a0 ≤ ((updL l i mark now)[k]).a0 ∧ l[k].a1 ≤ ((updL l i mark now)[k]).a1 := by
  have hp := updK_P h
  have e : (updL l i mark now)[k] = if i.toNat = k then updE l[k] mark now else l[k] := by
    have : updL l i mark now = l.modify i.toNat (fun x => updE x mark now) := by unfold updL; rw [if_pos hp]
    simp only [this, List.getElem_modify]
  rw [e]
  obtain ⟨_, i0, i1, _⟩ := hp
  refine ⟨fun hki => by rw [if_neg (by omega)], ?_⟩
  split
  · unfold updE mx; constructor
    · show _ ≤ (if _ then _ else _); split <;> omega
    · show _ ≤ (if _ then _ else _); split <;> omega
  · exact ⟨Int.le_refl _, Int.le_refl _⟩
theorem mx_twice (a b : Int) : mx (mx a b) b = mx a b := by unfold mx; (repeat' split) <;> omega
theorem vIns_upd {l : List InputR} {i mark now : Int} (h : updK l i mark now = true) : vIns (updL l i mark now) = true := by
  have hp := updK_P h
  have hl := upd_len h
  obtain ⟨hv, i0, i1, m0, m1, n0, n1⟩ := hp
  unfold vIns at *
  rw [Bool.and_eq_true, decide_eq_true_eq, List.all_eq_true] at *
  refine ⟨by rw [hl]; exact hv.1, fun x hx => ?_⟩
  obtain ⟨k, hk, rfl⟩ := List.mem_iff_getElem.1 hx
  have hk2 : k < l.length := by omega
  have hx0 := hv.2 l[k] (List.getElem_mem hk2)
  have e : (updL l i mark now)[k] = if i.toNat = k then updE l[k] mark now else l[k] := by
    have : updL l i mark now = l.modify i.toNat (fun x => updE x mark now) := by unfold updL; rw [if_pos (updK_P h)]
    simp only [this, List.getElem_modify]
  rw [e]
  unfold vInB at *
  rw [decide_eq_true_eq] at *
  split
  · unfold updE mx; simp only; (repeat' split) <;> omega
  · exact hx0
theorem upd_again {l : List InputR} {i mark now : Int} (h : updK l i mark now = true) : updL (updL l i mark now) i mark now = updL l i mark now ∧ updK (updL l i mark now) i mark now = true := by
  have hp := updK_P h
  have hv := vIns_upd h
  have hl := upd_len h
  have hp2 : updP (updL l i mark now) i mark now := ⟨hv, hp.2.1, by rw [hl]; exact hp.2.2.1, hp.2.2.2⟩
  refine ⟨?_, decide_eq_true hp2⟩
  have e1 : updL (updL l i mark now) i mark now = (updL l i mark now).modify i.toNat (fun x => updE x mark now) := by unfold updL; rw [if_pos]; exact hp2
  have e2 : updL l i mark now = l.modify i.toNat (fun x => updE x mark now) := by unfold updL; rw [if_pos hp]
  rw [e1, e2]
  apply List.ext_getElem
  · simp
  · intro k h1 h2
    simp only [List.getElem_modify]
    split
    · unfold updE; simp only [mx_twice]
    · rfl
end Go.Proofs.Ytehedhkadjidpab
