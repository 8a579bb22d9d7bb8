import Derived.Test.YtgnogkkdojagcaaSlk2
namespace Go.Proofs.Ytgnogkkdojagcaa
open Go.RowKit
def IntR.enc (e : Int) : List Value := [.int .i64 e]
theorem IntR.enc_len (e : Int) : (IntR.enc e).length = 1 := rfl
theorem Row.atInt {w : World} {A : Option Addr} {l : List Int} (h : Row IntR.enc 1 w A l) {i : Nat} (hi : i < l.length) :
    ∃ b off, A = some ⟨b, off, none⟩ ∧ b < w.heap.size ∧ w.cell? ⟨b, off + i, none⟩ = some (.int .i64 l[i]) := by
  obtain ⟨b, off, hA, hlt, hc⟩ := h.2 (by omega)
  have hx : l[i]? = some l[i] := List.getElem?_eq_getElem hi
  exact ⟨b, off, hA, hlt, by simpa using hc i _ hx 0 _ rfl⟩
theorem IntR.zero_info : (Try.prog.info? 3).map (fun i => (i.zero, i.size, i.bytes)) = some (some (.int .i64 0), 1, 8) := by kernel_rfl
end Go.Proofs.Ytgnogkkdojagcaa
