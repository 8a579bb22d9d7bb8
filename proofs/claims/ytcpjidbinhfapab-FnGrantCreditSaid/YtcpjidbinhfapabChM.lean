import Derived.Test.YtcpjidbinhfapabChI
import Derived.Test.YtcpjidbinhfapabEqIt
namespace Go.Proofs.Ytcpjidbinhfapab
open Go.RowKit
theorem newS_M (L : List ItemR) (h : L = []) (m n : Int) (hm : cnF n = m) (w : World) : Calls Try.prog 12 #[.int .i64 n] w (ChPost w m m L) := by
  subst h hm
  exact newS_any n w
theorem newI_M (L : List ItemR) (h : L = []) (m n : Int) (hm : cnF n = m) (w : World) : Calls Try.prog 10 #[.int .i64 n] w (ChPost w m m L) := by
  subst h hm
  exact newI_any n w
theorem Bx.cast1 {w : World} {g : Nat} {a b b' c : Value} (h : Bx w g a b c) (hb : b = b') : Bx w g a b' c := by subst hb; exact h
/-- The items that have been sent: numbers 0, 1, .. -/
def lstN (k : Nat) : List ItemR := (List.range k).map fun (i : Nat) => (⟨0, (i : Int)⟩ : ItemR)
theorem lstN_len (k : Nat) : (lstN k).length = k := by simp [lstN]
theorem lstN_succ (k : Nat) : lstN (k + 1) = lstN k ++ [⟨0, (k : Int)⟩] := by simp [lstN, List.range_succ]
theorem lstN_all {k : Nat} (h : k ≤ 9) : (lstN k).all itB = true := by
  rw [List.all_eq_true]
  intro x hx
  simp [lstN] at hx
  obtain ⟨i, hi, rfl⟩ := hx
  unfold itB
  exact decide_eq_true (.inl ⟨rfl, by simp, by simp; omega⟩)
theorem chB_lst {N k : Nat} (h1 : 1 ≤ N) (h8 : N ≤ 8) (hk : k ≤ N) : chB (N : Int) ((N : Int) - (k : Int)) (lstN k) = true := by
  unfold chB
  rw [lstN_all (by omega), lstN_len, decide_eq_true (show 1 ≤ (N : Int) ∧ (N : Int) ≤ 8 by omega), decide_eq_true (show 0 ≤ (N : Int) - (k : Int) ∧ (N : Int) - (k : Int) ≤ (N : Int) - (k : Int) by omega)]
  rfl
theorem sd_lst {N k : Nat} {M : Int} (h1 : 1 ≤ N) (h8 : N ≤ 8) (hk : k < N) (hM : M = (N : Int) - (k : Int)) : sd (N : Int) M (lstN k) ⟨0, (k : Int)⟩ = ((N : Int), M - 1, lstN (k + 1), true) := by
  subst hM
  unfold sd
  rw [if_pos ⟨chB_lst h1 h8 (by omega), by unfold itB; exact decide_eq_true (.inl ⟨rfl, by simp, by simp; omega⟩)⟩, if_neg (by omega), lstN_succ]
theorem sd_full {N k : Nat} {M : Int} (h1 : 1 ≤ N) (h8 : N ≤ 8) (hk : k = N) (hM : M = (N : Int) - (k : Int)) : sd (N : Int) M (lstN k) ⟨0, 1⟩ = ((N : Int), M, lstN k, false) := by
  subst hM hk
  unfold sd
  rw [if_pos ⟨chB_lst h1 h8 (Nat.le_refl _), by unfold itB; exact decide_eq_true (.inl ⟨rfl, by simp, by simp⟩)⟩, if_pos (by omega)]
end Go.Proofs.Ytcpjidbinhfapab
