import Derived.Test.YtcpjidbinhfapabChH
import Derived.Test.YtcpjidbinhfapabBo
import Derived.Deep.DeepCutAuto
namespace Go.Proofs.Ytcpjidbinhfapab
open Go.RowKit
theorem Bo.ofBx {w : World} {g : Nat} {a b c : Value} (h : Bx w g a b c) : Bo w g [a, b, c] :=
  ⟨fun i u hu => by
    rcases i with _ | _ | _ | i <;> simp at hu
    · rw [← hu]; exact h.1
    · rw [← hu]; exact h.2.1
    · rw [← hu]; exact h.2.2.1, h.2.2.2.2⟩
theorem alloc_below (w : World) (o : Obj) : Below w.heap.size w (w.alloc o) := (Below.refl _ _).alloc (Nat.le_refl _) _
theorem made3_lt {W W' : World} {o : Obj} (_b : Below (W.alloc o).heap.size (W.alloc o) W') : W.heap.size < (W.alloc o).heap.size := by simp
theorem made3d_lt {W W' : World} {o : Obj} (_b : Below (W.alloc o).drew.heap.size (W.alloc o).drew W') : W.heap.size < (W.alloc o).drew.heap.size := by simp
theorem keep_lt {W W' : World} {g : Nat} {a b c : Value} (h : Bx W g a b c) (_b : Below W.heap.size W W') : g < W.heap.size := h.2.2.2.2
theorem midA2 {α : Type} {enc : α → List Value} {k T B : Nat} {u wC : World} {s : Value} {l : List α} (a b : Value) (T' : Nat) (hb : Below u.heap.size u wC) (o1 : Own enc k T wC B s l) (hB : u.heap.size ≤ B) :
    Mid enc k T u (wC.alloc (.cells #[a, b, s] T')) wC.heap.size a b s l := by
  have hN := alloc_below wC (.cells #[a, b, s] T')
  have hz := hb.size
  exact ⟨hb.trans (hN.mono hb.size), Bx.made _ _ _ _ _, hz, own_rebase (o1.keep hN) hB, fun g hg => ⟨Nat.le_trans hB (o1.lt g hg).1, Nat.ne_of_lt (o1.lt g hg).2⟩⟩
theorem midB2 {α : Type} {enc : α → List Value} {k T B G : Nat} {u wC : World} {s : Value} {l : List α} {z0 z1 z2 : Value} (a b : Value) (hb : Below u.heap.size u wC) (hN : Bx wC G z0 z1 z2) (hG : u.heap.size ≤ G)
    (o1 : Own enc k T wC B s l) (hq : G < B) :
    Mid enc k T u (((wC.setCell ⟨G, 0, none⟩ a).setCell ⟨G, 1, none⟩ b).setCell ⟨G, 2, none⟩ s) G a b s l := by
  have ho : ∀ g, s.ownBlock = some g → G + 1 ≤ g := fun g hg => by have := (o1.lt g hg).1; omega
  refine ⟨((hb.setCell (p := ⟨G, 0, none⟩) hG a).setCell (p := ⟨G, 1, none⟩) hG b).setCell (p := ⟨G, 2, none⟩) hG s, ((hN.set0 a).set1 b).set2 s, hG, ?_, fun g hg => by have := ho g hg; omega⟩
  have ob := own_rebase (B := u.heap.size) o1 (by omega)
  exact ((ob.set (p := ⟨G, 0, none⟩) (fun g hg => by have := ho g hg; simp; omega) a).set (p := ⟨G, 1, none⟩) (fun g hg => by have := ho g hg; simp; omega) b).set (p := ⟨G, 2, none⟩) (fun g hg => by have := ho g hg; simp; omega) s
end Go.Proofs.Ytcpjidbinhfapab
