import Derived.Test.YtcpjidbinhfapaaTyItem
import Derived.Test.YtcpjidbinhfapaaArg
import Derived.OpenShut
import Derived.Lib.SmallJoins
import Derived.ProofKit
set_option maxRecDepth 100000
namespace Go.Proofs.Ytcpjidbinhfapaa
open Go.RowKit Go.ChangeShapes Go.WideShapes Go.Joins
theorem cell_ItemS {H : Type} {enc : TypeId × Value → H} {W : World} {fuel : Nat} {v : Value} {x : DataW H × List MemPlace} (hf : DataW.trod enc Try.prog W 0 (fun _ => true) true fuel 42 [v] = some x) :
    ∃ (A : Option Addr) (cap : Nat) (l : List ItemR), v = .slice A l.length cap ∧ l.length ≤ maxLen ∧ RowA ItemR.enc 2 W A l := by
  rcases int_cells Try.underlying42 Try.underlying46 Try.underlying3 (by kernel_rfl) (by kernel_rfl) (by kernel_rfl) hf with hcs | ⟨a', len, cap, hcs, hl, hm, hc⟩
  · obtain rfl : v = .slice none 0 0 := by simpa using hcs
    exact ⟨none, 0, [], rfl, by simp, fun h => absurd h (by simp)⟩
  · obtain rfl : v = .slice (some a') len cap := by simpa using hcs
    change ∀ i, i < len → ∀ j, j < 2 → W.cell? (a'.add (i * 2 + j)) = some (.int .i64 (cellI W a' (i * 2 + j))) at hc
    refine ⟨some a', cap, (List.range len).map (fun i => ⟨cellI W a' (i * 2), cellI W a' (i * 2 + 1)⟩), by simp, by simp; omega, fun h0 => ?_⟩
    have h0' : 0 < len := by simpa using h0
    have hc0 := hc 0 h0' 0 (by omega)
    rw [Nat.zero_mul, Nat.zero_add] at hc0
    obtain ⟨b, off, rfl, hb, e⟩ := spot_none hc0
    refine ⟨b, off, rfl, hb, fun i x hx j u hu => ?_⟩
    rw [List.getElem?_map] at hx
    rcases Nat.lt_or_ge i len with hi | hi
    · rw [List.getElem?_range hi] at hx
      injection hx with hx
      subst hx
      have hcj := fun j hj => hc i hi j hj
      simp only [e] at hcj
      rcases j with _ | _ | j
      · have q := hcj 0 (by omega)
        simp [ItemR.enc] at hu
        subst hu
        simpa [Nat.add_assoc] using q
      · have q := hcj 1 (by omega)
        simp [ItemR.enc] at hu
        subst hu
        simpa [Nat.add_assoc] using q
      · simp [ItemR.enc] at hu
    · rw [List.getElem?_eq_none (by simpa using hi)] at hx
      cases hx
end Go.Proofs.Ytcpjidbinhfapaa
