import Derived.Test.YtjjjlpnbniofjaaTyInt
namespace Go.Proofs.Ytjjjlpnbniofjaa
open Go.RowKit
set_option maxRecDepth 100000 in
set_option maxHeartbeats 1000000 in
theorem toIntS_any (A : Option Addr) (c : Nat) (l : List Int) (w : World) (ha : Row IntR.enc 1 w A l) :
    Calls Try.prog 21 #[.slice A l.length c] w (OwnPost IntR.enc 1 3 w l) := by
  have hal := ha.1
  obtain ⟨i0, hi, hz0, hz1, hz2⟩ := info_parts IntR.zero_info
  have hmk := fun W => run_make_rowN (P := Try.prog) 29 3 i0 _ Try.underlying29 hi hz0 .i64 .i64 l.length l.length (Nat.le_refl _) (by rw [hz2]; omega) (by omega) W
  have hF := filled_start IntR.enc 1 3 w l.length l (madeCells (Value.cells (.int .i64 0)) (l.length * i0.size)) (by rw [size_madeCells, hz1]) (by unfold maxLen; omega)
  have HF := Lib.hid hF
  clear hF hz0 hz1 hz2 hi
  go_enter Try.func21, Try.ntmps21
  go_wp2
  go_loopw [4] (fun i wr => ∃ j : Nat, j ≤ l.length ∧ i = .int .i64 j ∧ Filled IntR.enc 1 3 w l.length l j wr) (fun i _ => l.length - (intOf i).toNat)
  case atStart => exact ⟨0, Nat.zero_le _, rfl, HF.out⟩
  case round =>
    obtain ⟨j, hj, rfl, hfil⟩ := hrel
    have Hfil := Lib.hid hfil
    clear HF hmk
    by_cases hlt : j < l.length
    · obtain ⟨b, off, rfl, _, q0⟩ := (ha.keep (hfil.elim fun _ h => h.2.2)).atInt hlt
      have hx := List.getElem?_eq_getElem hlt
      generalize l[j] = x at *
      have Hx := Lib.hid hx
      clear hx hfil ha
      have hnext := filled_nextInt Hfil.out hlt Hx.out (Below.refl _ _)
      obtain ⟨xs, ho1, -, hB⟩ := Hfil.out
      have hlen := ho1.1
      have c0 : wr.cell? ⟨w.heap.size, j, none⟩ = some (xs[j]'(by omega)) := by rw [ho1.cellAt j (by omega)]; exact List.getElem?_eq_getElem _
      have f0 := ho1.frozenAt j
      have Hn := Lib.hid hnext
      clear hnext ho1 Hfil Hx
      go_wp2
      go_roundw
      case rel => exact ⟨j + 1, by omega, by go_num, Hn.out⟩
      case measure => simp [intOf]; omega
    · have hjl : j = l.length := by omega
      subst hjl
      go_wp2
      go_returns
      obtain ⟨h1, h2⟩ := filled_end IntR.enc_len hal Hfil.out
      exact ⟨_, _, rfl, h1, h2⟩
end Go.Proofs.Ytjjjlpnbniofjaa
