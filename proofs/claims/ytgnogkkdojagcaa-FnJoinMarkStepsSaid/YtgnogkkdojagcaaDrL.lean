import Derived.Test.YtgnogkkdojagcaaOne
import Derived.Test.YtgnogkkdojagcaaBoxB
namespace Go.Proofs.Ytgnogkkdojagcaa
open Go.RowKit
theorem alloc_below (w : World) (o : Obj) : Below w.heap.size w (w.alloc o) := (Below.refl _ _).alloc (Nat.le_refl _) _
theorem rd_below {w w' : World} {R p : Nat} (h : Rd w R p) (hb : Below w.heap.size w w') : Rd w' R p := rd_keep h fun k hk => hb.block k (by have := rd_lt h; omega)
theorem own_gr {α : Type} {enc : α → List Value} {k T B : Nat} {w w' : World} {v : Value} {l : List α} {R : Nat} (h : Own enc k T w B v l) (hg : Gr w w' R) (hR : R < B) : Own enc k T w' B v l :=
  h.kept hg (by
    rcases hv : v.ownBlock with _ | g
    · exact .inl rfl
    · exact .inr (fun e => by injection e with e; have := (h.lt g hv).1; omega))
theorem flat_set3 {α : Type} {enc : α → List Value} (hk : ∀ x, (enc x).length = 3) {x : α} {u0 u1 u2 : Value} (he : enc x = [u0, u1, u2]) : ∀ (l : List α) (i : Nat), i < l.length →
    (((l.flatMap enc).set (i * 3) u0).set (i * 3 + 1) u1).set (i * 3 + 2) u2 = (l.set i x).flatMap enc
  | [], i, hi => by simp at hi
  | y :: l, 0, _ => by
    have h3 := hk y
    rcases hy : enc y with _ | ⟨a, _ | ⟨b, _ | ⟨c, _ | ⟨d, m⟩⟩⟩⟩ <;> rw [hy] at h3 <;> simp at h3
    rw [List.flatMap_cons, hy, List.set_cons_zero, List.flatMap_cons, he]
    simp
  | y :: l, i + 1, hi => by
    have ih := flat_set3 hk he l i (by simpa using hi)
    have h3 := hk y
    rcases hy : enc y with _ | ⟨a, _ | ⟨b, _ | ⟨c, _ | ⟨d, m⟩⟩⟩⟩ <;> rw [hy] at h3 <;> simp at h3
    rw [List.set_cons_succ, List.flatMap_cons, List.flatMap_cons, hy, ← ih, show (i + 1) * 3 = i * 3 + 3 by omega, show i * 3 + 3 + 1 = i * 3 + 1 + 3 by omega, show i * 3 + 3 + 2 = i * 3 + 2 + 3 by omega]
    rfl
theorem own_put3 {α : Type} {enc : α → List Value} (hk : ∀ x, (enc x).length = 3) {T B : Nat} {w : World} {g c : Nat} {l : List α} (h : Own enc 3 T w B (.slice (some ⟨g, 0, none⟩) l.length c) l) {i : Nat} (hi : i < l.length) {x : α} {u0 u1 u2 : Value} (he : enc x = [u0, u1, u2]) :
    Own enc 3 T (((w.setCell ⟨g, i * 3, none⟩ u0).setCell ⟨g, i * 3 + 1, none⟩ u1).setCell ⟨g, i * 3 + 2, none⟩ u2) B (.slice (some ⟨g, 0, none⟩) (l.set i x).length c) (l.set i x) := by
  obtain ⟨h1, h2⟩ := h
  obtain ⟨s1, -⟩ := h2.stored (i * 3) u0
  obtain ⟨s2, -⟩ := s1.stored (i * 3 + 1) u1
  obtain ⟨s3, -⟩ := s2.stored (i * 3 + 2) u2
  rw [flat_set3 hk he l i hi] at s3
  exact ⟨by simpa using h1, by simpa using s3⟩
/-- What a draw of a list hands back: memory of the call's own. -/
def ListPost {α : Type} (enc : α → List Value) (k T m d : Nat) (w : World) (R p : Nat) (e : Ending) (w' : World) : Prop :=
  ∃ A c l p', e = .returned (.slice A l.length c) ∧ Own enc k T w' w.heap.size (.slice A l.length c) l ∧ l.length ≤ m ∧ p' ≤ p + d ∧ Rd w' R p' ∧ Gr w w' R
end Go.Proofs.Ytgnogkkdojagcaa
