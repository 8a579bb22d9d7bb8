import Derived.Test.YtgnogkkdojagcaaSlk2
namespace Go.Proofs.Ytgnogkkdojagcaa
open Go.RowKit
structure WindowR where
  a0 : Int
  a1 : Int
deriving DecidableEq
def WindowR.enc (e : WindowR) : List Value := [.int .i64 e.a0, .int .i64 e.a1]
theorem WindowR.enc_len (e : WindowR) : e.enc.length = 2 := rfl
theorem Row.atWindow {w : World} {A : Option Addr} {l : List WindowR} (h : Row WindowR.enc 2 w A l) {i : Nat} (hi : i < l.length) :
    ∃ b off, A = some ⟨b, off, none⟩ ∧ b < w.heap.size ∧ w.cell? ⟨b, off + i * 2, none⟩ = some (.int .i64 (l[i]).a0) ∧ w.cell? ⟨b, off + i * 2 + 1, none⟩ = some (.int .i64 (l[i]).a1) := by
  obtain ⟨b, off, hA, hlt, hc⟩ := h.2 (by omega)
  have hx : l[i]? = some l[i] := List.getElem?_eq_getElem hi
  exact ⟨b, off, hA, hlt, hc i _ hx 0 _ rfl, hc i _ hx 1 _ rfl⟩
theorem WindowR.zero_info : (Try.prog.info? 32).map (fun i => (i.zero, i.size, i.bytes)) = some (some (.agg #[.int .i64 0, .int .i64 0]), 2, 16) := by kernel_rfl
theorem filled_nextWindow {w wr w1 : World} {N : Nat} {l : List WindowR} {j : Nat} {x : WindowR} (h : Filled WindowR.enc 2 32 w N l j wr) (hj : j < N) (hx : l[j]? = some x) (hb : Below wr.heap.size wr w1) :
    Filled WindowR.enc 2 32 w N l (j + 1) ((w1.setCell ⟨w.heap.size, j * 2, none⟩ (.int .i64 x.a0)).setCell ⟨w.heap.size, j * 2 + 1, none⟩ (.int .i64 x.a1)) := by
  obtain ⟨xs, ho, ht, hB⟩ := h
  have ho1 := ho.kept (gb_of_below hb) (.inr (by simp [Value.ownBlock]))
  have hlen := ho.1
  have hB1 := hB.trans (hb.mono hB.size)
  obtain ⟨ho2, hg2⟩ := ho1.stored (j * 2) (.int .i64 x.a0)
  have ht2 := take_set_next ht (by omega) (.int .i64 x.a0)
  obtain ⟨ho3, hg3⟩ := ho2.stored (j * 2 + 1) (.int .i64 x.a1)
  have ht3 := take_set_next ht2 (by simp only [List.length_set]; omega) (.int .i64 x.a1)
  refine ⟨_, ho3, ?_, ?_⟩
  · have e : (j + 1) * 2 = j * 2 + 1 + 1 := by omega
    rw [e, ht3, List.take_add_one, hx, List.flatMap_append]
    simp [WindowR.enc]
  · have B2 := below_of_gb (B0 := w.heap.size) hg2 (by have := hB1.size; omega) (by intro g hg; injection hg with hg; omega)
    have B3 := below_of_gb (B0 := w.heap.size) hg3 (by have := hB1.size; simp; omega) (by intro g hg; injection hg with hg; omega)
    exact ((hB1).trans B2).trans B3
theorem marked_nextWindow {w wr : World} {B g cap N : Nat} {k0 : Int} {j : Nat} (h : Marked 2 32 w B (.slice (some ⟨g, 0, none⟩) N cap) N k0 j wr) (hj : j < N) :
    Marked 2 32 w B (.slice (some ⟨g, 0, none⟩) N cap) N k0 (j + 1) ((wr.setCell ⟨g, j * 2, none⟩ (.int .i64 (k0 + (j : Int) * 2))).setCell ⟨g, j * 2 + 1, none⟩ (.int .i64 (k0 + (j : Int) * 2 + 1))) := by
  obtain ⟨xs, ho1, ht, hB⟩ := h
  have hlen := ho1.1
  obtain ⟨ho2, hg2⟩ := ho1.stored (j * 2) (.int .i64 (k0 + (j : Int) * 2))
  have ht2 := take_set_next ht (by omega) (.int .i64 (k0 + (j : Int) * 2))
  obtain ⟨ho3, hg3⟩ := ho2.stored (j * 2 + 1) (.int .i64 (k0 + (j : Int) * 2 + 1))
  have ht3 := take_set_next ht2 (by simp only [List.length_set]; omega) (.int .i64 (k0 + (j : Int) * 2 + 1))
  refine ⟨_, ho3, ?_, gb_trans (gb_trans (hB) hg2) hg3⟩
  have e : (j + 1) * 2 = j * 2 + 1 + 1 := by omega
  rw [e, ht3]
  simp only [marks_succ, List.append_assoc]
  congr 1
  simp
  omega
end Go.Proofs.Ytgnogkkdojagcaa
