import Derived.Test.YtmbhpnjhhhcjiaaDraw
namespace Go.Proofs.Ytmbhpnjhhhcjiaa
open Go.RowKit
/-- What a walk is told of a slice of bytes that came in. -/
def IsRow (k : IntKind) (w : World) (a : Option Addr) (len cap : Nat) (zs : List Int) : Prop :=
  (a = none ∧ len = 0 ∧ cap = 0 ∧ zs = []) ∨
  ∃ x, a = some x ∧ len ≤ cap ∧ cap ≤ maxLen ∧ zs.length = cap ∧ (∀ i, i < zs.length → w.cell? (x.add i) = some (.int k (zs.getD i 0))) ∧ ∀ n ∈ zs, (Lit.int k n).wf = true

def NewPost (w : World) (e : Ending) (w' : World) : Prop :=
  ∃ R, e = .returned (.pointer (some ⟨R, 0, none⟩)) ∧ w.heap.size ≤ R ∧ Rd w' R 0 ∧ Below w.heap.size w w'

theorem cell_lt {w : World} {a : Addr} {v : Value} (h : w.cell? a = some v) : a.block < w.heap.size := by
  rcases Nat.lt_or_ge a.block w.heap.size with hlt | hge
  · exact hlt
  · unfold World.cell? at h; rw [Array.getElem?_eq_none hge] at h; cases h

theorem new_rd (w : World) (a : Option Addr) (n c : Nat) (zs : List Int) (hn : n ≤ 2000)
    (h : 0 < n → ∃ b off, a = some ⟨b, off, none⟩ ∧ b < w.heap.size ∧ ∀ i, i < n → w.cell? ⟨b, off + i, none⟩ = some (.int .u8 (zs.getD i 0)) ∧ 0 ≤ zs.getD i 0 ∧ zs.getD i 0 ≤ 255) :
    NewPost w (.returned (.pointer (some ⟨w.heap.size, 0, none⟩))) (w.alloc (.cells #[.slice a n c, .int .i64 0] 86)) := by
  refine ⟨_, rfl, Nat.le_refl _, ⟨by omega, a, n, c, heap_alloc_new _ _, hn, fun h0 => ?_⟩, (Below.refl _ _).alloc (Nat.le_refl _) _⟩
  obtain ⟨b, off, ha, hb, hc⟩ := h h0
  exact ⟨b, off, fun i => zs.getD i 0, ha, hb, fun i hi => ⟨(World.cell?_alloc_lt w _ _ hb).trans (hc i hi).1, (hc i hi).2⟩⟩

theorem row_cells {w : World} {a : Option Addr} {len cap : Nat} {z : List Int} (h : IsRow .u8 w a len cap z) :
    len ≤ cap ∧ cap ≤ maxLen ∧ (0 < len → ∃ b off, a = some ⟨b, off, none⟩ ∧ b < w.heap.size ∧ ∀ i, i < len → w.cell? ⟨b, off + i, none⟩ = some (.int .u8 (z.getD i 0)) ∧ 0 ≤ z.getD i 0 ∧ z.getD i 0 ≤ 255) := by
  rcases h with ⟨rfl, rfl, rfl, rfl⟩ | ⟨x, rfl, hl, hm, hz, hcell, hwz⟩
  · exact ⟨Nat.le_refl _, by unfold maxLen; omega, fun h => absurd h (by omega)⟩
  · refine ⟨hl, hm, fun h0 => ?_⟩
    have hc0 := hcell 0 (by omega)
    obtain ⟨b, off, spot⟩ := x
    have hspot : spot = none := by simpa [Addr.add] using World.cell?_spot hc0
    subst hspot
    have e : ∀ i, (⟨b, off, none⟩ : Addr).add i = ⟨b, off + i, none⟩ := fun i => by
      unfold Addr.add; split
      · rename_i h; subst h; rfl
      · rfl
    rw [e] at hc0
    refine ⟨b, off, rfl, cell_lt hc0, fun i hi => ?_⟩
    have hi' : i < z.length := by omega
    have hw := hwz (z.getD i 0) (by rw [List.getD_eq_getElem?_getD, List.getElem?_eq_getElem hi']; exact List.getElem_mem hi')
    exact ⟨by rw [← e]; exact hcell i hi', bounds_u8 hw⟩

set_option maxHeartbeats 400000 in
theorem newReader_any (w : World) (a : Option Addr) (len cap : Nat) (z : List Int) (h : IsRow .u8 w a len cap z) (hl : len ≤ 1048576) :
    Calls Try.prog 50 #[.slice a len cap] w (NewPost w) := by
  obtain ⟨hlc, hcm, hc⟩ := row_cells h
  by_cases hk : len ≤ 2000
  · have H := Lib.hid (new_rd w a len cap z hk hc)
    clear hc h
    go_enter Try.func50, Try.ntmps50
    go_wp2
    go_ret
    exact H.out
  · obtain ⟨b, off, rfl, hb, hc'⟩ := hc (by omega)
    have H := Lib.hid (new_rd w (some ⟨b, off, none⟩) 2000 cap z (Nat.le_refl _) (fun _ => ⟨b, off, rfl, hb, fun i hi => hc' i (by omega)⟩))
    clear hc hc' h
    go_enter Try.func50, Try.ntmps50
    go_wp2
    go_ret
    exact H.out
end Go.Proofs.Ytmbhpnjhhhcjiaa
