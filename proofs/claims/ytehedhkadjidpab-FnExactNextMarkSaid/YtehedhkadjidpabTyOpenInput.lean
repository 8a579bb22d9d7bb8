import Derived.Test.YtehedhkadjidpabTyInput
import Derived.Test.YtehedhkadjidpabArg
import Derived.OpenShut
import Derived.Lib.SmallJoins
import Derived.ProofKit
set_option maxRecDepth 100000
namespace Go.Proofs.Ytehedhkadjidpab
open Go.RowKit Go.ChangeShapes Go.WideShapes Go.Joins
theorem open_InputS {H : Type} {enc : TypeId × Value → H} {W : World} {r : Reach} {b0 : Nat} {v : Value} {d : DataW H} {p : List MemPlace} (hv : Value.okWide Try.prog W r b0 42 v)
    (h : DataW.Trod enc Try.prog W 0 (fun _ => true) true 42 v d p) : ∃ (A : Option Addr) (cap : Nat) (l : List InputR), v = .slice A l.length cap ∧ l.length ≤ maxLen ∧ RowA InputR.enc 2 W A l := by
  obtain ⟨a, len, cap, rfl⟩ := okWide_slice Try.underlying42 hv
  obtain ⟨fuel, hf⟩ := h
  rcases int_cells Try.underlying42 Try.underlying77 Try.underlying3 (by kernel_rfl) (by kernel_rfl) (by kernel_rfl) hf with hcs | ⟨a', l', c', hcs, hl, hm, hc⟩
  · simp [Value.cells] at hcs
    obtain ⟨rfl, rfl, rfl⟩ := hcs
    exact ⟨none, 0, [], rfl, by simp, fun h => absurd h (by simp)⟩
  · simp [Value.cells] at hcs
    obtain ⟨rfl, rfl, rfl⟩ := hcs
    change ∀ i, i < len → ∀ j, j < 2 → W.cell? (a'.add (i * 2 + j)) = some (.int .i64 (cellI W a' (i * 2 + j))) at hc
    refine ⟨some a', cap, (List.range len).map (fun i => ⟨cellI W a' (i * 2), cellI W a' (i * 2 + 1)⟩), by simp, by simp; omega, fun h0 => ?_⟩
    have h0' : 0 < len := by simpa using h0
    have hc0 := hc 0 h0' 0 (by omega)
    rw [Nat.zero_mul, Nat.zero_add] at hc0
    obtain ⟨b, off, rfl, hb, e⟩ := spot_none hc0
    refine ⟨b, off, rfl, hb, fun i x hx j u hu => ?_⟩
    rw [List.getElem?_map] at hx
    rcases Nat.lt_or_ge i len with hi | hi
    · rw [List.getElem?_range hi] at hx
      injection hx with hx
      subst hx
      have hcj := fun j hj => hc i hi j hj
      simp only [e] at hcj
      rcases j with _ | _ | j
      · have q := hcj 0 (by omega)
        simp [InputR.enc] at hu
        subst hu
        simpa [Nat.add_assoc] using q
      · have q := hcj 1 (by omega)
        simp [InputR.enc] at hu
        subst hu
        simpa [Nat.add_assoc] using q
      · simp [InputR.enc] at hu
    · rw [List.getElem?_eq_none (by simpa using hi)] at hx
      cases hx
end Go.Proofs.Ytehedhkadjidpab
