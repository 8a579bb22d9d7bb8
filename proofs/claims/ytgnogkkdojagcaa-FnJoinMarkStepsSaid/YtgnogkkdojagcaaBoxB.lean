import Derived.Test.YtgnogkkdojagcaaPure
namespace Go.Proofs.Ytgnogkkdojagcaa
open Go.RowKit
/-- The three cells of a struct that lies in a block of its own. -/
def Bx (w : World) (g : Nat) (a b c : Value) : Prop := w.cell? ⟨g, 0, none⟩ = some a ∧ w.cell? ⟨g, 1, none⟩ = some b ∧ w.cell? ⟨g, 2, none⟩ = some c ∧ (∀ o, w.frozen? ⟨g, o, none⟩ = false) ∧ g < w.heap.size
theorem Bx.keep {w w' : World} {g : Nat} {a b c : Value} (h : Bx w g a b c) (hb : Below w.heap.size w w') : Bx w' g a b c :=
  ⟨(hb.cell (p := ⟨g, 0, none⟩) h.2.2.2.2).trans h.1, (hb.cell (p := ⟨g, 1, none⟩) h.2.2.2.2).trans h.2.1, (hb.cell (p := ⟨g, 2, none⟩) h.2.2.2.2).trans h.2.2.1, fun o => (hb.frozen (p := ⟨g, o, none⟩) h.2.2.2.2).trans (h.2.2.2.1 o), Nat.lt_of_lt_of_le h.2.2.2.2 hb.size⟩
theorem Bx.far {w w' : World} {g : Nat} {a b c : Value} {row : Option Nat} (h : Bx w g a b c) (hg : w.grownBy w' row) (hne : some g ≠ row) : Bx w' g a b c := by
  have hk := hg.block g h.2.2.2.2 hne
  refine ⟨(World.cell?_of_block hk).trans h.1, (World.cell?_of_block hk).trans h.2.1, (World.cell?_of_block hk).trans h.2.2.1, fun o => (World.frozen?_of_block hk).trans (h.2.2.2.1 o), Nat.lt_of_lt_of_le h.2.2.2.2 hg.size⟩
theorem Bx.made (w : World) (a b c : Value) (T : Nat) : Bx (w.alloc (.cells #[a, b, c] T)) w.heap.size a b c := ⟨by simp [go_sem], by simp [go_sem], by simp [go_sem], fun o => by simp [go_sem], by simp⟩
theorem set_grown (w : World) (a : Addr) (u : Value) : w.grownBy (w.setCell a u) (some a.block) :=
  ⟨rfl, rfl, rfl, by simp [World.setCell], fun i _ hne => Below.heap_setCell w a u i (fun e => hne (by rw [e]))⟩
theorem Bx.set_far {w : World} {g : Nat} {a b c : Value} (h : Bx w g a b c) {p : Addr} (hp : g ≠ p.block) (u : Value) : Bx (w.setCell p u) g a b c := h.far (set_grown w p u) (fun e => hp (by injection e))
theorem Bx.set0 {w : World} {g : Nat} {a b c : Value} (h : Bx w g a b c) (u : Value) : Bx (w.setCell ⟨g, 0, none⟩ u) g u b c := by
  obtain ⟨h0, h1, h2, hf, hl⟩ := h
  exact ⟨by simp [go_sem, h0], by simp [go_sem, h1], by simp [go_sem, h2], fun o => by simp [go_sem, hf o], by simp [go_sem, hl]⟩
theorem Bx.set1 {w : World} {g : Nat} {a b c : Value} (h : Bx w g a b c) (u : Value) : Bx (w.setCell ⟨g, 1, none⟩ u) g a u c := by
  obtain ⟨h0, h1, h2, hf, hl⟩ := h
  exact ⟨by simp [go_sem, h0], by simp [go_sem, h1], by simp [go_sem, h2], fun o => by simp [go_sem, hf o], by simp [go_sem, hl]⟩
theorem Bx.set2 {w : World} {g : Nat} {a b c : Value} (h : Bx w g a b c) (u : Value) : Bx (w.setCell ⟨g, 2, none⟩ u) g a b u := by
  obtain ⟨h0, h1, h2, hf, hl⟩ := h
  exact ⟨by simp [go_sem, h0], by simp [go_sem, h1], by simp [go_sem, h2], fun o => by simp [go_sem, hf o], by simp [go_sem, hl]⟩
theorem Own.set {α : Type} {enc : α → List Value} {k T : Nat} {w : World} {B : Nat} {v : Value} {l : List α} (h : Own enc k T w B v l) {p : Addr} (hne : ∀ g, v.ownBlock = some g → g ≠ p.block) (u : Value) : Own enc k T (w.setCell p u) B v l := by
  refine h.kept (set_grown w p u) ?_
  rcases hv : v.ownBlock with _ | g
  · exact .inl rfl
  · exact .inr (fun e => hne g hv (by injection e))
end Go.Proofs.Ytgnogkkdojagcaa
