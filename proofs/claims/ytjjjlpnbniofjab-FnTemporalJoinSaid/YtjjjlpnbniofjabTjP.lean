import Derived.Test.YtjjjlpnbniofjabTj
import Derived.Test.YtjjjlpnbniofjabEqEv
import Derived.Test.YtjjjlpnbniofjabDrTj
import Derived.Test.YtjjjlpnbniofjabBo
namespace Go.Proofs.Ytjjjlpnbniofjab
open Go.RowKit
theorem tj_yes {l : List EventR} {t : List VersionR} (h : (tjF l t).length ≠ 0) : vEvs l = true ∧ vVers t = true ∧ tjF l t = l.filterMap (tjE t) := by
  unfold tjF at h ⊢
  split at h
  · rename_i hp; rw [if_pos hp]; exact ⟨hp.1, hp.2, rfl⟩
  · simp at h
theorem tj_one {l : List EventR} {t : List VersionR} (hv : vEvs l = true) (ht : vVers t = true) {k : Nat} {x : EventR} (hx : l[k]? = some x) : tjF [x] t = (tjE t x).toList := by
  have h1 : vEvs [x] = true := by
    unfold vEvs at hv ⊢
    rw [Bool.and_eq_true, List.all_eq_true] at hv
    simp [hv.2 x (List.mem_of_getElem? hx)]
  unfold tjF
  rw [if_pos ⟨h1, ht⟩]
  cases h : tjE t x <;> simp [h]
theorem tj_next {l : List EventR} {t : List VersionR} {k : Nat} {x : EventR} (hx : l[k]? = some x) : (l.take (k + 1)).filterMap (tjE t) = (l.take k).filterMap (tjE t) ++ (tjE t x).toList := by
  rw [List.take_add_one, hx, List.filterMap_append]
  cases h : tjE t x <;> simp [h]
theorem tj_val {t : List VersionR} (ht : vVers t = true) (x : EventR) : tjE t x = if verK t x.a1 x.a0 = true then some ⟨x.a0, x.a1, verF t x.a1 x.a0⟩ else none := by
  unfold tjE verK verF
  rw [if_pos ht, if_pos ht]
theorem tj_one_t {l : List EventR} {t : List VersionR} (hv : vEvs l = true) (ht : vVers t = true) {k : Nat} {x : EventR} (hx : l[k]? = some x) (hk : verK t x.a1 x.a0 = true) : tjF [x] t = [⟨x.a0, x.a1, verF t x.a1 x.a0⟩] ∧ (l.take (k + 1)).filterMap (tjE t) = (l.take k).filterMap (tjE t) ++ [⟨x.a0, x.a1, verF t x.a1 x.a0⟩] := by
  rw [tj_one hv ht hx, tj_next hx, tj_val ht, if_pos hk]; exact ⟨rfl, rfl⟩
theorem tj_one_f {l : List EventR} {t : List VersionR} (hv : vEvs l = true) (ht : vVers t = true) {k : Nat} {x : EventR} (hx : l[k]? = some x) (hk : verK t x.a1 x.a0 = false) : tjF [x] t = [] ∧ (l.take (k + 1)).filterMap (tjE t) = (l.take k).filterMap (tjE t) := by
  rw [tj_one hv ht hx, tj_next hx, tj_val ht, if_neg (by rw [hk]; simp)]; exact ⟨rfl, List.append_nil _⟩
theorem row_one {u wr : World} {A : Option Addr} {b off : Nat} {l : List EventR} {k : Nat} {x : EventR} (h : Row EventR.enc 3 u A l) (hb : Below u.heap.size u wr) (hA : A = some ⟨b, off, none⟩) (hx : l[k]? = some x) : Row EventR.enc 3 wr (some ⟨b, off + k * 3, none⟩) [x] := by
  subst hA
  have h1 := (h.keep hb).drop k
  have hk : k < l.length := (List.getElem?_eq_some_iff.1 hx).1
  refine ⟨by simp, fun _ => ?_⟩
  obtain ⟨b', off', e, hlt, hc⟩ := h1.2 (by simp; omega)
  refine ⟨b', off', e, hlt, fun i y hy j u hu => ?_⟩
  rcases i with _ | i
  · simp at hy; subst hy
    exact hc 0 x (by simpa using hx) j u hu
  · simp at hy
theorem tj_len {l : List EventR} {t : List VersionR} (k : Nat) : ((l.take k).filterMap (tjE t)).length ≤ l.length :=
  Nat.le_trans (List.length_filterMap_le _ _) (List.length_take_le' _ _)
end Go.Proofs.Ytjjjlpnbniofjab
