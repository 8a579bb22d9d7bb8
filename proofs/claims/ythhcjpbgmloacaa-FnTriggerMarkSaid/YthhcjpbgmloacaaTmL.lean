import Derived.Test.YthhcjpbgmloacaaMkT
import Derived.Test.YthhcjpbgmloacaaBo
import Derived.Test.YthhcjpbgmloacaaDrawTM
namespace Go.Proofs.Ythhcjpbgmloacaa
open Go.RowKit
def TMC (f : Nat) (ev la s d o t : Int) (x y k : Bool) : Prop := ∀ w : World, Calls Try.prog f #[.agg #[.int .i64 ev, .int .i64 la], .agg #[.int .i64 s, .int .i64 d], .int .i64 o, .int .i64 t] w
    fun e w' => e = .returned (.tuple #[.bool x, .bool y, .bool k]) ∧ Below w.heap.size w w'
theorem tm_two {a c : Bool} (h : (a && c) = false) : (a = true ∧ c = false) ∨ (a = false ∧ c = true) ∨ (a = false ∧ c = false) := by
  cases a <;> cases c <;> simp_all
def tmV (ev la s d old mark : Int) : Prop := trgV ev la ∧ winV s d ∧ -1 ≤ old ∧ old ≤ 3000 ∧ -1 ≤ mark ∧ mark ≤ 3000 ∧ old ≤ mark
theorem tm_pos {ev la s d o t : Int} (h : tmV ev la s d o t) : mkFire ev la s d o t = decide (o < d - 1 ∧ d - 1 ≤ t) ∧ mkClean ev la s d o t = decide (o < d - 1 + la ∧ d - 1 + la ≤ t) ∧ mkOk ev la s d o t = true := by
  unfold mkFire mkClean mkOk
  exact ⟨decide_eq_decide.2 ⟨fun x => x.2, fun x => ⟨h, x⟩⟩, decide_eq_decide.2 ⟨fun x => x.2, fun x => ⟨h, x⟩⟩, decide_eq_true h⟩
theorem tm_all (ev la s d o t : Int) : (∃ x y : Bool, TMC 10 ev la s d o t x y false ∧ TMC 7 ev la s d o t x y false) ∨
    (o ≤ t ∧ (-1 ≤ o ∧ o ≤ 3000) ∧ (-1 ≤ t ∧ t ≤ 3000) ∧ ∃ a c b q : Bool, (a && c) = false ∧ (b && q) = false ∧ TMC 10 ev la s d o t (a || c) (b || q) true ∧ TMC 7 ev la s d o t (a || c) (b || q) true ∧
      TMC 10 ev la s d o (o + (t - o) / 2) a b true ∧ TMC 10 ev la s d (o + (t - o) / 2) t c q true) := by
  by_cases hv : tmV ev la s d o t
  · right
    obtain ⟨h1, h2, h3, h4, h5, h6, h7⟩ := hv
    have hm0 : o ≤ o + (t - o) / 2 := by omega
    have hm1 : o + (t - o) / 2 ≤ t := by omega
    have p1 := tm_pos (show tmV ev la s d o t from ⟨h1, h2, h3, h4, h5, h6, h7⟩)
    have p2 := tm_pos (show tmV ev la s d o (o + (t - o) / 2) from ⟨h1, h2, h3, h4, by omega, by omega, by omega⟩)
    have p3 := tm_pos (show tmV ev la s d (o + (t - o) / 2) t from ⟨h1, h2, by omega, by omega, h5, h6, by omega⟩)
    generalize o + (t - o) / 2 = m at *
    refine ⟨h7, ⟨h3, h4⟩, ⟨h5, h6⟩, decide (o < d - 1 ∧ d - 1 ≤ m), decide (m < d - 1 ∧ d - 1 ≤ t), decide (o < d - 1 + la ∧ d - 1 + la ≤ m), decide (m < d - 1 + la ∧ d - 1 + la ≤ t), ?_, ?_, ?_, ?_, ?_, ?_⟩
    · rw [← Bool.decide_and, decide_eq_false_iff_not]; omega
    · rw [← Bool.decide_and, decide_eq_false_iff_not]; omega
    · intro w
      refine (mkI_any ev la s d o t w).mono fun e w' h => ?_
      rw [p1.1, p1.2.1, p1.2.2] at h
      rw [← Bool.decide_or, ← Bool.decide_or, decide_eq_decide.2 (show (o < d - 1 ∧ d - 1 ≤ m ∨ m < d - 1 ∧ d - 1 ≤ t) ↔ (o < d - 1 ∧ d - 1 ≤ t) by omega), decide_eq_decide.2 (show (o < d - 1 + la ∧ d - 1 + la ≤ m ∨ m < d - 1 + la ∧ d - 1 + la ≤ t) ↔ (o < d - 1 + la ∧ d - 1 + la ≤ t) by omega)]
      exact h
    · intro w
      refine (mkS_any ev la s d o t w).mono fun e w' h => ?_
      rw [p1.1, p1.2.1, p1.2.2] at h
      rw [← Bool.decide_or, ← Bool.decide_or, decide_eq_decide.2 (show (o < d - 1 ∧ d - 1 ≤ m ∨ m < d - 1 ∧ d - 1 ≤ t) ↔ (o < d - 1 ∧ d - 1 ≤ t) by omega), decide_eq_decide.2 (show (o < d - 1 + la ∧ d - 1 + la ≤ m ∨ m < d - 1 + la ∧ d - 1 + la ≤ t) ↔ (o < d - 1 + la ∧ d - 1 + la ≤ t) by omega)]
      exact h
    · intro w
      refine (mkI_any ev la s d o m w).mono fun e w' h => ?_
      rw [p2.1, p2.2.1, p2.2.2] at h
      exact h
    · intro w
      refine (mkI_any ev la s d m t w).mono fun e w' h => ?_
      rw [p3.1, p3.2.1, p3.2.2] at h
      exact h
  · left
    have hk : mkOk ev la s d o t = false := by unfold mkOk; exact decide_eq_false hv
    refine ⟨mkFire ev la s d o t, mkClean ev la s d o t, fun w => ?_, fun w => ?_⟩
    · refine (mkI_any ev la s d o t w).mono fun e w' h => ?_
      rw [hk] at h; exact h
    · refine (mkS_any ev la s d o t w).mono fun e w' h => ?_
      rw [hk] at h; exact h
end Go.Proofs.Ythhcjpbgmloacaa
