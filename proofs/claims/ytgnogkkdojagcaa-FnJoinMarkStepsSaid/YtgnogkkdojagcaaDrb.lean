import Derived.Test.YtgnogkkdojagcaaPick
namespace Go.Proofs.Ytgnogkkdojagcaa
open Go.RowKit

def NewPost (w : World) (e : Ending) (w' : World) : Prop :=
  ∃ R, e = .returned (.pointer (some ⟨R, 0, none⟩)) ∧ w.heap.size ≤ R ∧ Rd w' R 0 ∧ Below w.heap.size w w'
theorem new_rd (w : World) (a : Option Addr) (n c : Nat) (zs : List Int) (hn : n ≤ 2000)
    (h : 0 < n → ∃ b off, a = some ⟨b, off, none⟩ ∧ b < w.heap.size ∧ ∀ i, i < n → w.cell? ⟨b, off + i, none⟩ = some (.int .u8 (zs.getD i 0)) ∧ 0 ≤ zs.getD i 0 ∧ zs.getD i 0 ≤ 255) :
    NewPost w (.returned (.pointer (some ⟨w.heap.size, 0, none⟩))) (w.alloc (.cells #[.slice a n c, .int .i64 0] 77)) := by
  refine ⟨_, rfl, Nat.le_refl _, ⟨by omega, a, n, c, heap_alloc_new _ _, hn, fun h0 => ?_⟩, (Below.refl _ _).alloc (Nat.le_refl _) _⟩
  obtain ⟨b, off, ha, hb, hc⟩ := h h0
  exact ⟨b, off, fun i => zs.getD i 0, ha, hb, fun i hi => ⟨(World.cell?_alloc_lt w _ _ hb).trans (hc i hi).1, (hc i hi).2⟩⟩
set_option maxHeartbeats 400000 in
theorem newReader_any (w : World) (a : Option Addr) (len cap : Nat) (z : List Int) (h : IsRow .u8 w a len cap z) (hl : len ≤ 1048576) :
    Calls Try.prog 22 #[.slice a len cap] w (NewPost w) := by
  obtain ⟨hlc, hcm, hc⟩ := row_cells h
  by_cases hk : len ≤ 2000
  · have H := Lib.hid (new_rd w a len cap z hk hc)
    clear hc h
    go_enter Try.func22, Try.ntmps22
    go_wp2
    go_ret
    exact H.out
  · obtain ⟨b, off, rfl, hb, hc'⟩ := hc (by omega)
    have H := Lib.hid (new_rd w (some ⟨b, off, none⟩) 2000 cap z (Nat.le_refl _) (fun _ => ⟨b, off, rfl, hb, fun i hi => hc' i (by omega)⟩))
    clear hc hc' h
    go_enter Try.func22, Try.ntmps22
    go_wp2
    go_ret
    exact H.out

end Go.Proofs.Ytgnogkkdojagcaa
