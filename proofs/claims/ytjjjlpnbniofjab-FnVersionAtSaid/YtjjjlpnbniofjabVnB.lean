import Derived.Test.YtjjjlpnbniofjabVnP
import Derived.Test.YtjjjlpnbniofjabDrVa
import Derived.Test.YtjjjlpnbniofjabBoxB
namespace Go.Proofs.Ytjjjlpnbniofjab
open Go.RowKit
/-- The latest version of a key up to a time among the first k, or none. -/
def LastV (l : List VersionR) (key time : Int) (k : Nat) (b0 b1 b2 : Int) : Prop :=
  (b1 = -1 ∧ ∀ x ∈ l.take k, ¬ (x.a0 = key ∧ x.a1 ≤ time)) ∨ ((⟨b0, b1, b2⟩ : VersionR) ∈ l.take k ∧ b0 = key ∧ b1 ≤ time ∧ ∀ y ∈ l.take k, y.a0 = key → y.a1 ≤ time → y.a1 ≤ b1)
theorem lv_start (l : List VersionR) (key time : Int) : LastV l key time 0 0 (-1) 0 := .inl ⟨rfl, by simp⟩
theorem memV_next {α : Type} {l : List α} {k : Nat} {x : α} (hx : l[k]? = some x) (y : α) : y ∈ l.take (k + 1) ↔ y ∈ l.take k ∨ y = x := by
  rw [List.take_add_one, hx]; simp
theorem lv_t {l : List VersionR} {key time b0 b1 b2 : Int} {k : Nat} {x : VersionR} (h : LastV l key time k b0 b1 b2) (hx : l[k]? = some x) (h0 : x.a0 = key) (h1 : x.a1 ≤ time) (h2 : b1 < x.a1) : LastV l key time (k + 1) x.a0 x.a1 x.a2 := by
  refine .inr ⟨(memV_next hx _).2 (.inr rfl), h0, h1, fun y hy e0 e1 => ?_⟩
  rcases (memV_next hx _).1 hy with hy | rfl
  · rcases h with ⟨_, hn⟩ | ⟨_, _, _, hm⟩
    · exact absurd ⟨e0, e1⟩ (hn y hy)
    · have := hm y hy e0 e1; omega
  · omega
theorem lv_f {l : List VersionR} {key time b0 b1 b2 : Int} {k : Nat} {x : VersionR} (hv : vVers l = true) (h : LastV l key time k b0 b1 b2) (hx : l[k]? = some x) (hn : ¬ (x.a0 = key ∧ x.a1 ≤ time ∧ b1 < x.a1)) : LastV l key time (k + 1) b0 b1 b2 := by
  have hb := vVers_all hv (List.mem_of_getElem? hx)
  unfold vVerB at hb
  rw [decide_eq_true_eq] at hb
  rcases h with ⟨hb1, h⟩ | ⟨hm, h0, h1, h2⟩
  · refine .inl ⟨hb1, fun y hy => ?_⟩
    rcases (memV_next hx _).1 hy with hy | rfl
    · exact h y hy
    · omega
  · refine .inr ⟨(memV_next hx _).2 (.inl hm), h0, h1, fun y hy e0 e1 => ?_⟩
    rcases (memV_next hx _).1 hy with hy | rfl
    · exact h2 y hy e0 e1
    · omega
theorem verK_v {l : List VersionR} {key time : Int} (h : verK l key time = true) : vVers l = true := by
  unfold verK at h
  split at h
  · assumption
  · cases h
theorem lv_end {l : List VersionR} {key time b0 b1 b2 : Int} (hk : verK l key time = true) (h : LastV l key time l.length b0 b1 b2) : 0 ≤ b1 ∧ b2 = verF l key time := by
  have hv := verK_v hk
  rw [LastV, List.take_length] at h
  rcases h with ⟨_, h⟩ | ⟨hm, h0, h1, h2⟩
  · have := (va_none h).2
    rw [hk] at this; cases this
  · have hb := vVers_all hv hm
    unfold vVerB at hb
    rw [decide_eq_true_eq] at hb
    exact ⟨hb.2.2.1, ((va_some hv hm h0 h1 h2).1).symm⟩
end Go.Proofs.Ytjjjlpnbniofjab
