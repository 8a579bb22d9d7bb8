import Derived.Test.YtjjjlpnbniofjaaTyInt
import Derived.Test.YtjjjlpnbniofjaaArg
import Derived.OpenShut
import Derived.Lib.SmallJoins
import Derived.ProofKit
set_option maxRecDepth 100000
namespace Go.Proofs.Ytjjjlpnbniofjaa
open Go.RowKit Go.ChangeShapes Go.WideShapes Go.Joins
theorem open_IntS {H : Type} {enc : TypeId × Value → H} {W : World} {r : Reach} {b0 : Nat} {v : Value} {d : DataW H} {p : List MemPlace} (hv : Value.okWide Try.prog W r b0 29 v)
    (h : DataW.Trod enc Try.prog W 0 (fun _ => true) true 29 v d p) : ∃ (A : Option Addr) (cap : Nat) (l : List Int), v = .slice A l.length cap ∧ l.length ≤ maxLen ∧ RowA IntR.enc 1 W A l ∧ ∀ x ∈ l, -9223372036854775808 ≤ x ∧ x ≤ 9223372036854775807 := by
  obtain ⟨a, len, cap, rfl⟩ := okWide_slice Try.underlying29 hv
  obtain ⟨fuel, hf⟩ := h
  rcases open_ints Try.underlying29 Try.underlying3 (by kernel_rfl) hf with ⟨hcs, _⟩ | ⟨x, l, c, zs, hcs, _, hl, hm, hz, hx, hcell, hwz⟩
  · simp [Value.cells] at hcs
    obtain ⟨rfl, rfl, rfl⟩ := hcs
    exact ⟨none, 0, [], rfl, by simp, fun h => absurd h (by simp), by simp⟩
  · simp [Value.cells] at hcs
    obtain ⟨rfl, rfl, rfl⟩ := hcs
    have hzl : zs.length = cap := by simpa using hz
    have hlt : (zs.take len).length = len := by rw [List.length_take]; omega
    refine ⟨some x, cap, zs.take len, by rw [hlt], by omega, fun h0 => ?_, fun y hy => bounds_i64 (hwz y ((List.take_sublist _ _).subset hy))⟩
    have hc0 := hcell 0 (by omega)
    obtain ⟨b, off, rfl, hb, e⟩ := spot_none hc0
    refine ⟨b, off, rfl, hb, fun i y hy j u hu => ?_⟩
    rcases j with _ | j
    · simp [IntR.enc] at hu
      subst hu
      rw [List.getElem?_take] at hy
      split at hy
      · have hil : i < zs.length := by omega
        have hq := hcell i hil
        rw [e] at hq
        have hy2 : zs.getD i 0 = y := by rw [List.getD_eq_getElem?_getD, hy]; rfl
        rw [hy2] at hq
        simpa using hq
      · cases hy
    · simp [IntR.enc] at hu
end Go.Proofs.Ytjjjlpnbniofjaa
