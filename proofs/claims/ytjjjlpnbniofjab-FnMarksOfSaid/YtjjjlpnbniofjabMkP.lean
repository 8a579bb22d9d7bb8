import Derived.Test.YtjjjlpnbniofjabMkI
import Derived.Test.YtjjjlpnbniofjabMarkT
import Derived.Test.YtjjjlpnbniofjabEqi
import Derived.Test.YtjjjlpnbniofjabDrMk
import Derived.Test.YtjjjlpnbniofjabBo
namespace Go.Proofs.Ytjjjlpnbniofjab
open Go.RowKit
theorem marks_at (b g : Int) (l : List EventR) (k : Nat) (h : k < l.length) : (marksGo b g l)[k]? = some (wm b (topT g (l.take (k + 1)))) := by
  induction l generalizing g k with
  | nil => simp at h
  | cons y l ih =>
    rcases k with _ | k
    · simp [marksGo, topT]
    · simp only [marksGo, List.getElem?_cons_succ, List.take_succ_cons]
      rw [ih (mx g y.a0) k (by simpa using h)]
      rfl
theorem wm_mono {b g h : Int} (hle : g ≤ h) : wm b g ≤ wm b h := by unfold wm; (repeat' split) <;> omega
theorem mx_ge (g x : Int) : g ≤ mx g x := by unfold mx; split <;> omega
theorem mt_wm {b g : Int} (b0 : 0 ≤ b) (b1 : b ≤ 999) (g0 : -1 ≤ g) (g1 : g ≤ 999) : mtV b g = wm b g := by
  unfold mtV wm
  rw [if_pos ⟨b0, b1, g0, g1⟩]
  (repeat' split) <;> omega
theorem marksF_yes {l : List EventR} {b : Int} (h : (marksF l b).length ≠ 0) : vEvs l = true ∧ 0 ≤ b ∧ b ≤ 999 ∧ marksF l b = marksGo b (-1) l := by
  unfold marksF at h ⊢
  split at h
  · rename_i hv; rw [if_pos hv]; exact ⟨hv.1, hv.2.1, hv.2.2, rfl⟩
  · simp at h
theorem top_one {l : List EventR} (hv : vEvs l = true) {x : EventR} (hx : l[0]? = some x) : topT (-1) (l.take 1) = x.a0 := by
  have h := top_next hx
  have hb := ev_bounds hv hx
  rw [h]
  simp [topT, mx]; omega
theorem mk_at {l : List EventR} {M : List Int} {b : Int} (hM : M = marksGo b (-1) l) {k : Nat} (h : k < l.length) (hk : k < M.length) : M[k] = wm b (topT (-1) (l.take (k + 1))) := by
  have h1 := marks_at b (-1) l k h
  rw [← hM, List.getElem?_eq_getElem hk] at h1
  injection h1
end Go.Proofs.Ytjjjlpnbniofjab
