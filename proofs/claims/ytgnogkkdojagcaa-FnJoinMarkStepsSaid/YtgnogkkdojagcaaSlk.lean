import Derived.Test.YtgnogkkdojagcaaBase
import Derived.Laws.OwnMore
import Derived.Laws.MakeOwn
import Derived.OwnWalk
import Derived.Deep.AppendLies
namespace Go.Proofs.Ytgnogkkdojagcaa
open Go.RowKit
/-- The slice at A (of as many elements as l) reads as l: element x lies there as the k cells 'enc x'. -/
def Row {α : Type} (enc : α → List Value) (k : Nat) (w : World) (A : Option Addr) (l : List α) : Prop :=
  l.length ≤ 1048576 ∧ (0 < l.length → ∃ b off, A = some ⟨b, off, none⟩ ∧ b < w.heap.size ∧ ∀ i x, l[i]? = some x → ∀ j u, (enc x)[j]? = some u → w.cell? ⟨b, off + i * k + j, none⟩ = some u)
/-- The slice value v is the call's own (its block is B or a later one, of k-cell elements of type T) and reads as l. -/
def Own {α : Type} (enc : α → List Value) (k T : Nat) (w : World) (B : Nat) (v : Value) (l : List α) : Prop :=
  l.length ≤ 1048576 ∧ w.ownsRow B T k v l.length (l.flatMap enc)
section
variable {α : Type} {enc : α → List Value} {k T : Nat} {w w' : World} {A : Option Addr} {l : List α} {B : Nat} {v : Value}
theorem Row.keep (h : Row enc k w A l) (hb : Below w.heap.size w w') : Row enc k w' A l :=
  ⟨h.1, fun h0 => by
    obtain ⟨b, off, rfl, hlt, hc⟩ := h.2 h0
    exact ⟨b, off, rfl, Nat.lt_of_lt_of_le hlt hb.size, fun i x hx j u hu => (hb.cell (p := ⟨b, off + i * k + j, none⟩) hlt).trans (hc i x hx j u hu)⟩⟩
theorem flat_len (hk : ∀ x : α, (enc x).length = k) (l : List α) : (l.flatMap enc).length = l.length * k := by
  induction l with
  | nil => simp
  | cons x l ih => rw [List.flatMap_cons, List.length_append, ih, hk, List.length_cons, Nat.add_mul]; omega
theorem flat_take (hk : ∀ x : α, (enc x).length = k) (l : List α) (i : Nat) : (l.flatMap enc).take (i * k) = (l.take i).flatMap enc := by
  induction l generalizing i with
  | nil => simp
  | cons x l ih =>
    rcases i with _ | i
    · simp
    · rw [List.flatMap_cons, List.take_succ_cons, List.flatMap_cons, List.take_append, hk, ← ih i]
      have e : (i + 1) * k - k = i * k := by rw [Nat.add_mul]; omega
      rw [e, List.take_of_length_le (by rw [hk, Nat.add_mul]; omega)]
theorem flat_get (hk : ∀ x : α, (enc x).length = k) (l : List α) (i : Nat) (x : α) (h : l[i]? = some x) (j : Nat) (u : Value) (hu : (enc x)[j]? = some u) : (l.flatMap enc)[i * k + j]? = some u := by
  have hj : j < k := by
    have := (List.getElem?_eq_some_iff.1 hu).1
    rw [hk] at this; exact this
  induction l generalizing i with
  | nil => simp at h
  | cons y l ih =>
    rcases i with _ | i
    · simp at h; subst h
      rw [List.flatMap_cons, List.getElem?_append_left (by rw [hk]; omega)]
      simpa using hu
    · rw [List.flatMap_cons, List.getElem?_append_right (by rw [hk, Nat.add_mul]; omega), hk]
      have e : (i + 1) * k + j - k = i * k + j := by rw [Nat.add_mul]; omega
      rw [e]
      exact ih i (by simpa using h)
theorem Own.form (h : Own enc k T w B v l) : ∃ A c, v = .slice A l.length c := by
  rcases h.2.2 with ⟨rfl, hn⟩ | ⟨g, cap, cur, rfl, _⟩
  · exact ⟨none, 0, by rw [hn]⟩
  · exact ⟨_, _, rfl⟩
theorem Own.row (hk : ∀ x : α, (enc x).length = k) {n c : Nat} (h : Own enc k T w B (.slice A n c) l) : Row enc k w A l := by
  refine ⟨h.1, fun h0 => ?_⟩
  obtain ⟨h1, h2⟩ := h.2
  rcases h2 with ⟨hv, hn⟩ | ⟨g, cap, cur, hv, hB, hg, hnc, hcm, hcs, ht⟩
  · omega
  · injection hv with hv _ _
    subst hv
    refine ⟨g, 0, rfl, ?_, fun i x hx j u hu => ?_⟩
    · rcases Nat.lt_or_ge g w.heap.size with hlt | hge
      · exact hlt
      · rw [Array.getElem?_eq_none hge] at hg; cases hg
    · have hf := flat_get hk l i x hx j u hu
      rw [← ht, List.getElem?_take] at hf
      split at hf
      · rw [cell_of_row w g _ cur T (0, 0) hg]
        simpa [Nat.zero_add] using hf
      · cases hf
theorem Own.kept {row : Option Nat} (h : Own enc k T w B v l) (hg : w.grownBy w' row) (hne : v.ownBlock = none ∨ v.ownBlock ≠ row) : Own enc k T w' B v l := ⟨h.1, h.2.kept hg hne⟩
theorem gb_of_below (hb : Below w.heap.size w w') : w.grownBy w' none := ⟨hb.os, hb.tape, hb.output, hb.size, fun i hi _ => hb.block i hi⟩
theorem Own.keep (h : Own enc k T w B v l) (hb : Below w.heap.size w w') : Own enc k T w' B v l := h.kept (gb_of_below hb) (by cases v.ownBlock <;> simp)
theorem Own.lt (h : Own enc k T w B v l) : ∀ g, v.ownBlock = some g → B ≤ g ∧ g < w.heap.size := h.2.lt
/-- A write into one own block leaves another own slice that came later. -/
theorem Own.far {v' : Value} (h : Own enc k T w B v l) (hg : w.grownBy w' v'.ownBlock) (hne : ∀ g g', v.ownBlock = some g → v'.ownBlock = some g' → g ≠ g') : Own enc k T w' B v l := by
  refine h.kept hg ?_
  rcases hv : v.ownBlock with _ | g
  · exact .inl rfl
  · right
    intro he
    exact hne g g hv he.symm rfl
theorem below_of_gb {row : Option Nat} {B0 : Nat} (hg : w.grownBy w' row) (hB : B0 ≤ w.heap.size) (hr : ∀ g, row = some g → B0 ≤ g) : Below B0 w w' :=
  ⟨hg.os, hg.tape, hg.output, hg.size, fun i hi => hg.block i (by omega) (fun e => by have := hr i e.symm; omega)⟩
end
end Go.Proofs.Ytgnogkkdojagcaa
