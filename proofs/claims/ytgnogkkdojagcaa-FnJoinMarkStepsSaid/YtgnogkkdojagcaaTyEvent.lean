import Derived.Test.YtgnogkkdojagcaaSlk2
namespace Go.Proofs.Ytgnogkkdojagcaa
open Go.RowKit
structure EventR where
  a0 : Int
  a1 : Int
  a2 : Int
deriving DecidableEq
def EventR.enc (e : EventR) : List Value := [.int .i64 e.a0, .int .i64 e.a1, .int .i64 e.a2]
theorem EventR.enc_len (e : EventR) : e.enc.length = 3 := rfl
theorem Row.atEvent {w : World} {A : Option Addr} {l : List EventR} (h : Row EventR.enc 3 w A l) {i : Nat} (hi : i < l.length) :
    ∃ b off, A = some ⟨b, off, none⟩ ∧ b < w.heap.size ∧ w.cell? ⟨b, off + i * 3, none⟩ = some (.int .i64 (l[i]).a0) ∧ w.cell? ⟨b, off + i * 3 + 1, none⟩ = some (.int .i64 (l[i]).a1) ∧ w.cell? ⟨b, off + i * 3 + 2, none⟩ = some (.int .i64 (l[i]).a2) := by
  obtain ⟨b, off, hA, hlt, hc⟩ := h.2 (by omega)
  have hx : l[i]? = some l[i] := List.getElem?_eq_getElem hi
  exact ⟨b, off, hA, hlt, hc i _ hx 0 _ rfl, hc i _ hx 1 _ rfl, hc i _ hx 2 _ rfl⟩
theorem EventR.zero_info : (Try.prog.info? 42).map (fun i => (i.zero, i.size, i.bytes)) = some (some (.agg #[.int .i64 0, .int .i64 0, .int .i64 0]), 3, 24) := by kernel_rfl
end Go.Proofs.Ytgnogkkdojagcaa
