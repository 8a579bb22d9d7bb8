import Derived.Test.YtgnogkkdojagcaaDrb
import Derived.Deep.RegionHeld3
namespace Go.Proofs.Ytgnogkkdojagcaa
open Go.RowKit
def OneLPost (w : World) (R p : Nat) (xs : List Int) (e : Ending) (w' : World) : Prop :=
  ∃ v : Int, v ∈ xs ∧ e = .returned (.int .i64 v) ∧ Rd w' R (p + 1) ∧ Gr w w' R
theorem oneL_any (xs : List Int) (w : World) (R p n : Nat) (h : Rd w R p) (hp : p + 1 ≤ 1000000000) (b : Nat) (cs : Array Value) (hb : w.heap[b]? = some (.cells cs 3 (0, 0))) (hcs : cs = (xs.map (Value.int .i64)).toArray) (hn : xs.length = n)
    (h0 : 0 < n) (h1 : n ≤ 1000) (hne : b ≠ R) :
    Calls Try.prog 24 #[.pointer (some ⟨R, 0, none⟩), .slice (some ⟨b, 0, none⟩) n n] w (OneLPost w R p xs) := by
  have ll : b < w.heap.size := by
    rcases Nat.lt_or_ge b w.heap.size with hlt | hge
    · exact hlt
    · rw [Array.getElem?_eq_none hge] at hb; cases hb
  refine (one_any w R p h hp b 0 n n (fun i => xs.getD i 0) h0 h1 ll hne ?_).mono ?_
  · intro i hi
    have hc := cell_of_row w b (0 + i) _ _ _ hb
    rw [hc, hcs, Nat.zero_add]
    have hi' : i < xs.length := by omega
    simp [hi']
  · rintro e w' ⟨i, hi, rfl, hr, hg, _⟩
    refine ⟨xs.getD i 0, ?_, rfl, hr, hg⟩
    have hi' : i < xs.length := by omega
    simp [hi']
end Go.Proofs.Ytgnogkkdojagcaa
