import Derived.Test.YtehedhkadjidpaaLtA
import Derived.Test.YtehedhkadjidpaaEvB
import Derived.Test.YtehedhkadjidpaaDrFe
import Derived.Test.YtehedhkadjidpaaEqi
namespace Go.Proofs.Ytehedhkadjidpaa
open Go.RowKit
theorem implMarksOf_n (A : Option Addr) (c : Nat) (l : List EventR) (b : Int) (N : Nat) (hN : N = l.length) (w : World) (ha : Row EventR.enc 3 w A l) :
    Calls Try.prog 38 #[.slice A N c, .int .i64 b] w (OwnPost IntR.enc 1 3 w (marksF l b)) := by subst hN; exact implMarksOf_any A c l b w ha
theorem equalInts_n (A B : Option Addr) (c d : Nat) (l : List Int) (N K : Nat) (hN : N = l.length) (hK : K = l.length) (w : World) (ha : Row IntR.enc 1 w A l) (hb : Row IntR.enc 1 w B l) :
    Calls Try.prog 39 #[.slice A N c, .slice B K d] w fun e w' => e = .returned (.bool true) ∧ Below w.heap.size w w' := by subst hN hK; exact equalInts_same A B c d l w ha hb
theorem marksF_yes {l : List EventR} {b : Int} (h : (marksF l b).length ≠ 0) : vEvs l = true ∧ 0 ≤ b ∧ b ≤ 999 ∧ marksF l b = marksGo b (-1) l := by
  unfold marksF at h ⊢
  split at h
  · rename_i hv; rw [if_pos hv]; exact ⟨hv.1, hv.2.1, hv.2.2, rfl⟩
  · simp at h
theorem mk_at {l : List EventR} {M : List Int} {b : Int} (hM : M = marksGo b (-1) l) {k : Nat} (h : k < l.length) (hk : k < M.length) : M[k] = wm b (topT (-1) (l.take (k + 1))) := by
  have h1 := marks_at b (-1) l k h
  rw [← hM, List.getElem?_eq_getElem hk] at h1
  injection h1
end Go.Proofs.Ytehedhkadjidpaa
