import Derived.Test.YtcpjidbinhfapabChJ
namespace Go.Proofs.Ytcpjidbinhfapab
open Go.RowKit
def tkX (x y : Int) (l : List ItemR) : Int := if chB x y l = true then x else 0
def tkY (x y : Int) (l : List ItemR) : Int := if chB x y l = true then y else 0
def tkL (x y : Int) (l : List ItemR) : List ItemR := if chB x y l = true then l.tail else []
def tkI (x y : Int) (l : List ItemR) : ItemR := if chB x y l = true then l.headD ⟨0, 0⟩ else ⟨0, 0⟩
def tkK (x y : Int) (l : List ItemR) : Bool := chB x y l && !l.isEmpty
/-- The two cells of a struct that lies in a block of its own, with the right to write. -/
def B2x (w : World) (g : Nat) (a b : Value) : Prop := w.cell? ⟨g, 0, none⟩ = some a ∧ w.cell? ⟨g, 1, none⟩ = some b ∧ (∀ o, w.frozen? ⟨g, o, none⟩ = false) ∧ g < w.heap.size
theorem B2x.keep {w w' : World} {g : Nat} {a b : Value} (h : B2x w g a b) (hb : Below w.heap.size w w') : B2x w' g a b :=
  ⟨(hb.cell (p := ⟨g, 0, none⟩) h.2.2.2).trans h.1, (hb.cell (p := ⟨g, 1, none⟩) h.2.2.2).trans h.2.1, fun o => (hb.frozen (p := ⟨g, o, none⟩) h.2.2.2).trans (h.2.2.1 o), Nat.lt_of_lt_of_le h.2.2.2 hb.size⟩
theorem B2x.far {w w' : World} {g : Nat} {a b : Value} {row : Option Nat} (h : B2x w g a b) (hg : w.grownBy w' row) (hne : some g ≠ row) : B2x w' g a b := by
  have hk := hg.block g h.2.2.2 hne
  exact ⟨(World.cell?_of_block hk).trans h.1, (World.cell?_of_block hk).trans h.2.1, fun o => (World.frozen?_of_block hk).trans (h.2.2.1 o), Nat.lt_of_lt_of_le h.2.2.2 hg.size⟩
theorem B2x.made (w : World) (a b : Value) (T : Nat) : B2x (w.alloc (.cells #[a, b] T)) w.heap.size a b := ⟨by simp [go_sem], by simp [go_sem], fun o => by simp [go_sem], by simp⟩
theorem B2x.set_far {w : World} {g : Nat} {a b : Value} (h : B2x w g a b) {p : Addr} (hp : g ≠ p.block) (u : Value) : B2x (w.setCell p u) g a b := h.far (set_grown w p u) (fun e => hp (by injection e))
theorem B2x.set0 {w : World} {g : Nat} {a b : Value} (h : B2x w g a b) (u v : Value) : B2x ((w.setCell ⟨g, 0, none⟩ u).setCell ⟨g, 1, none⟩ v) g u v := by
  obtain ⟨h0, h1, hf, hl⟩ := h
  exact ⟨by simp [go_sem, h0], by simp [go_sem, h1], fun o => by simp [go_sem, hf o], by simp [go_sem, hl]⟩
end Go.Proofs.Ytcpjidbinhfapab
