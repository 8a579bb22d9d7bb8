import Derived.Test.YtmbhpnjhhhcjiaaDrawCmp
namespace Go.Proofs.Ytmbhpnjhhhcjiaa
open Go.RowKit
theorem cmpE_facts (t k v t' k' v' : Int) : (cmpE t k v t' k' v' = -1 ∧ cmpE t' k' v' t k v = 1 ∧ ¬ (t = t' ∧ k = k' ∧ v = v') ∧ t ≤ t') ∨ (cmpE t k v t' k' v' = 0 ∧ cmpE t' k' v' t k v = 0 ∧ (t = t' ∧ k = k' ∧ v = v')) ∨
    (cmpE t k v t' k' v' = 1 ∧ cmpE t' k' v' t k v = -1 ∧ ¬ (t = t' ∧ k = k' ∧ v = v') ∧ t' ≤ t) := by
  unfold cmpE cmpI
  (repeat' split) <;> omega
theorem bcell {W w1 : World} (hb : Below W.heap.size W w1) : (∀ b o, b < W.heap.size → w1.cell? ⟨b, o, none⟩ = W.cell? ⟨b, o, none⟩) ∧ (∀ b o, b < W.heap.size → w1.frozen? ⟨b, o, none⟩ = W.frozen? ⟨b, o, none⟩) :=
  ⟨fun b o h => hb.cell (p := ⟨b, o, none⟩) h, fun b o h => hb.frozen (p := ⟨b, o, none⟩) h⟩
def CmpC (f : FuncId) (t k v t' k' v' n : Int) : Prop := ∀ w, Calls Try.prog f #[.agg #[.int .i64 t, .int .i64 k, .int .i64 v], .agg #[.int .i64 t', .int .i64 k', .int .i64 v']] w
    fun e w' => e = .returned (.int .i64 n) ∧ Below w.heap.size w w'
theorem cmp_three (t k v t' k' v' : Int) : ∃ n : Int, CmpC 20 t k v t' k' v' n ∧ CmpC 21 t k v t' k' v' n ∧
    CmpC 20 t' k' v' t k v (-n) ∧ ((n = -1 ∧ ¬ (t = t' ∧ k = k' ∧ v = v') ∧ t ≤ t') ∨ (n = 0 ∧ (t = t' ∧ k = k' ∧ v = v')) ∨ (n = 1 ∧ ¬ (t = t' ∧ k = k' ∧ v = v') ∧ t' ≤ t)) := by
  refine ⟨cmpE t k v t' k' v', fun w => cmpImpl_any t k v t' k' v' w, fun w => cmpSpec_any t k v t' k' v' w, fun w => ?_, ?_⟩
  · have h := cmpImpl_any t' k' v' t k v w
    have e : cmpE t' k' v' t k v = - cmpE t k v t' k' v' := by rcases cmpE_facts t k v t' k' v' with h | h | h <;> omega
    rw [e] at h
    exact h
  · rcases cmpE_facts t k v t' k' v' with h | h | h
    · exact .inl ⟨h.1, h.2.2⟩
    · exact .inr (.inl ⟨h.1, h.2.2⟩)
    · exact .inr (.inr ⟨h.1, h.2.2⟩)
end Go.Proofs.Ytmbhpnjhhhcjiaa
