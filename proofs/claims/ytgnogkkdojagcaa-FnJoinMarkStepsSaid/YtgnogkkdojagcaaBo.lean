import Derived.Test.YtgnogkkdojagcaaBoxB
namespace Go.Proofs.Ytgnogkkdojagcaa
open Go.RowKit
/-- The cells of a struct that lies in a block of its own. -/
def Bo (w : World) (g : Nat) (cs : List Value) : Prop := (∀ i u, cs[i]? = some u → w.cell? ⟨g, i, none⟩ = some u) ∧ g < w.heap.size
theorem Bo.keep {w w' : World} {g : Nat} {cs : List Value} (h : Bo w g cs) (hb : Below w.heap.size w w') : Bo w' g cs :=
  ⟨fun i u hu => (hb.cell (p := ⟨g, i, none⟩) h.2).trans (h.1 i u hu), Nat.lt_of_lt_of_le h.2 hb.size⟩
theorem Bo.far {w w' : World} {g : Nat} {cs : List Value} {row : Option Nat} (h : Bo w g cs) (hg : w.grownBy w' row) (hne : some g ≠ row) : Bo w' g cs :=
  ⟨fun i u hu => (World.cell?_of_block (hg.block g h.2 hne)).trans (h.1 i u hu), Nat.lt_of_lt_of_le h.2 hg.size⟩
theorem Bo.made (w : World) (cs : Array Value) (T : Nat) : Bo (w.alloc (.cells cs T)) w.heap.size cs.toList := by
  refine ⟨fun i u hu => ?_, by simp⟩
  rw [cell_of_row _ _ _ _ _ _ (heap_alloc_new w _)]
  simpa using hu
theorem Bo.drew {w : World} {g : Nat} {cs : List Value} (h : Bo w g cs) : Bo w.drew g cs := h.keep (Below.refl _ _).drew
/-- Behind a call that leaves what was: from a draw on. -/
theorem Bo.keepd {w w' : World} {g : Nat} {cs : List Value} (h : Bo w g cs) (hb : Below w.drew.heap.size w.drew w') : Bo w' g cs := h.drew.keep hb
end Go.Proofs.Ytgnogkkdojagcaa
