import Derived.Test.YtgnogkkdojagcaaSlk2
import Derived.Test.YtgnogkkdojagcaaTyEvent
namespace Go.Proofs.Ytgnogkkdojagcaa
open Go.RowKit
structure PairR where
  a0 : Int
  a1 : Int
  a2 : Int
  a3 : Int
  a4 : Int
  a5 : Int
deriving DecidableEq
def PairR.enc (e : PairR) : List Value := [.int .i64 e.a0, .int .i64 e.a1, .int .i64 e.a2, .int .i64 e.a3, .int .i64 e.a4, .int .i64 e.a5]
theorem PairR.enc_len (e : PairR) : e.enc.length = 6 := rfl
theorem Row.atPair {w : World} {A : Option Addr} {l : List PairR} (h : Row PairR.enc 6 w A l) {i : Nat} (hi : i < l.length) :
    ∃ b off, A = some ⟨b, off, none⟩ ∧ b < w.heap.size ∧ w.cell? ⟨b, off + i * 6, none⟩ = some (.int .i64 (l[i]).a0) ∧ w.cell? ⟨b, off + i * 6 + 1, none⟩ = some (.int .i64 (l[i]).a1) ∧ w.cell? ⟨b, off + i * 6 + 2, none⟩ = some (.int .i64 (l[i]).a2) ∧ w.cell? ⟨b, off + i * 6 + 3, none⟩ = some (.int .i64 (l[i]).a3) ∧ w.cell? ⟨b, off + i * 6 + 4, none⟩ = some (.int .i64 (l[i]).a4) ∧ w.cell? ⟨b, off + i * 6 + 5, none⟩ = some (.int .i64 (l[i]).a5) := by
  obtain ⟨b, off, hA, hlt, hc⟩ := h.2 (by omega)
  have hx : l[i]? = some l[i] := List.getElem?_eq_getElem hi
  exact ⟨b, off, hA, hlt, hc i _ hx 0 _ rfl, hc i _ hx 1 _ rfl, hc i _ hx 2 _ rfl, hc i _ hx 3 _ rfl, hc i _ hx 4 _ rfl, hc i _ hx 5 _ rfl⟩
theorem PairR.zero_info : (Try.prog.info? 44).map (fun i => (i.zero, i.size, i.bytes)) = some (some (.agg #[.int .i64 0, .int .i64 0, .int .i64 0, .int .i64 0, .int .i64 0, .int .i64 0]), 6, 48) := by kernel_rfl
theorem marked_nextPair {w wr : World} {B g cap N : Nat} {k0 : Int} {j : Nat} (h : Marked 6 44 w B (.slice (some ⟨g, 0, none⟩) N cap) N k0 j wr) (hj : j < N) :
    Marked 6 44 w B (.slice (some ⟨g, 0, none⟩) N cap) N k0 (j + 1) ((((((wr.setCell ⟨g, j * 6, none⟩ (.int .i64 (k0 + (j : Int) * 6))).setCell ⟨g, j * 6 + 1, none⟩ (.int .i64 (k0 + (j : Int) * 6 + 1))).setCell ⟨g, j * 6 + 2, none⟩ (.int .i64 (k0 + (j : Int) * 6 + 1 + 1))).setCell ⟨g, j * 6 + 3, none⟩ (.int .i64 (k0 + (j : Int) * 6 + 1 + 1 + 1))).setCell ⟨g, j * 6 + 3 + 1, none⟩ (.int .i64 (k0 + (j : Int) * 6 + 1 + 1 + 1 + 1))).setCell ⟨g, j * 6 + 3 + 2, none⟩ (.int .i64 (k0 + (j : Int) * 6 + 1 + 1 + 1 + 1 + 1))) := by
  obtain ⟨xs, ho1, ht, hB⟩ := h
  have hlen := ho1.1
  obtain ⟨ho2, hg2⟩ := ho1.stored (j * 6) (.int .i64 (k0 + (j : Int) * 6))
  have ht2 := take_set_next ht (by omega) (.int .i64 (k0 + (j : Int) * 6))
  obtain ⟨ho3, hg3⟩ := ho2.stored (j * 6 + 1) (.int .i64 (k0 + (j : Int) * 6 + 1))
  have ht3 := take_set_next ht2 (by simp only [List.length_set]; omega) (.int .i64 (k0 + (j : Int) * 6 + 1))
  obtain ⟨ho4, hg4⟩ := ho3.stored (j * 6 + 2) (.int .i64 (k0 + (j : Int) * 6 + 1 + 1))
  have ht4 := take_set_next ht3 (by simp only [List.length_set]; omega) (.int .i64 (k0 + (j : Int) * 6 + 1 + 1))
  obtain ⟨ho5, hg5⟩ := ho4.stored (j * 6 + 3) (.int .i64 (k0 + (j : Int) * 6 + 1 + 1 + 1))
  have ht5 := take_set_next ht4 (by simp only [List.length_set]; omega) (.int .i64 (k0 + (j : Int) * 6 + 1 + 1 + 1))
  obtain ⟨ho6, hg6⟩ := ho5.stored (j * 6 + 3 + 1) (.int .i64 (k0 + (j : Int) * 6 + 1 + 1 + 1 + 1))
  have ht6 := take_set_next ht5 (by simp only [List.length_set]; omega) (.int .i64 (k0 + (j : Int) * 6 + 1 + 1 + 1 + 1))
  obtain ⟨ho7, hg7⟩ := ho6.stored (j * 6 + 3 + 2) (.int .i64 (k0 + (j : Int) * 6 + 1 + 1 + 1 + 1 + 1))
  have ht7 := take_set_next ht6 (by simp only [List.length_set]; omega) (.int .i64 (k0 + (j : Int) * 6 + 1 + 1 + 1 + 1 + 1))
  refine ⟨_, ho7, ?_, gb_trans (gb_trans (gb_trans (gb_trans (gb_trans (gb_trans (hB) hg2) hg3) hg4) hg5) hg6) hg7⟩
  have e : (j + 1) * 6 = j * 6 + 3 + 2 + 1 := by omega
  rw [e, ht7]
  simp only [marks_succ, List.append_assoc]
  congr 1
  simp
  omega
end Go.Proofs.Ytgnogkkdojagcaa
