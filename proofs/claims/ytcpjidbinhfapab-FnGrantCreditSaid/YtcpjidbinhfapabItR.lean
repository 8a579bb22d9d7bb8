import Derived.Test.YtcpjidbinhfapabSlk2
namespace Go.Proofs.Ytcpjidbinhfapab
open Go.RowKit
structure ItemR where
  a0 : Int
  a1 : Int
deriving DecidableEq
def ItemR.enc (e : ItemR) : List Value := [.int .i64 e.a0, .int .i64 e.a1]
theorem ItemR.enc_len (e : ItemR) : e.enc.length = 2 := rfl
theorem Row.atItem {w : World} {A : Option Addr} {l : List ItemR} (h : Row ItemR.enc 2 w A l) {i : Nat} (hi : i < l.length) :
    ∃ b off, A = some ⟨b, off, none⟩ ∧ b < w.heap.size ∧ w.cell? ⟨b, off + i * 2, none⟩ = some (.int .i64 (l[i]).a0) ∧ w.cell? ⟨b, off + i * 2 + 1, none⟩ = some (.int .i64 (l[i]).a1) := by
  obtain ⟨b, off, hA, hlt, hc⟩ := h.2 (by omega)
  have hx : l[i]? = some l[i] := List.getElem?_eq_getElem hi
  exact ⟨b, off, hA, hlt, hc i _ hx 0 _ rfl, hc i _ hx 1 _ rfl⟩
theorem ItemR.zero_info : (Try.prog.info? 32).map (fun i => (i.zero, i.size, i.bytes)) = some (some (.agg #[.int .i64 0, .int .i64 0]), 2, 16) := by kernel_rfl
end Go.Proofs.Ytcpjidbinhfapab
