import Derived.Test.YtjjjlpnbniofjabAddI
import Derived.Test.YtjjjlpnbniofjabFireI
import Derived.Test.YtjjjlpnbniofjabNext
import Derived.Test.YtjjjlpnbniofjabRemI
namespace Go.Proofs.Ytjjjlpnbniofjab
open Go.RowKit
theorem pw_asc {α : Type} {c : α → α → Int} {l : List α} (h : l.Pairwise (fun x y => c x y < 0)) : ascB c l = true := by
  rw [asc_iff]; intro i x y hx hy; exact pw_get h (Nat.lt_succ_self i) hx hy
theorem vTims_mk {l : List TimerR} (h1 : l.length ≤ 20) (h2 : ∀ x ∈ l, vTimB x = true) (h3 : l.Pairwise (fun x y => cmpTim x y < 0)) : vTims l = true := by
  unfold vTims
  rw [decide_eq_true h1, pw_asc h3, List.all_eq_true.2 h2]; rfl
theorem vTims_all {l : List TimerR} (h : vTims l = true) {x : TimerR} (hx : x ∈ l) : vTimB x = true := by
  unfold vTims at h
  rw [Bool.and_eq_true, Bool.and_eq_true, List.all_eq_true] at h
  exact h.1.2 x hx
theorem vTims_len {l : List TimerR} (h : vTims l = true) : l.length ≤ 20 := by
  unfold vTims at h
  rw [Bool.and_eq_true, Bool.and_eq_true] at h
  exact of_decide_eq_true h.1.1
theorem vTims_sub {l m : List TimerR} (h : vTims l = true) (hs : m.Sublist l) : vTims m = true :=
  vTims_mk (Nat.le_trans hs.length_le (vTims_len h)) (fun x hx => vTims_all h (hs.subset hx)) ((tm_pw h).sublist hs)
theorem addG_mem {l : List TimerR} {t x : TimerR} : x ∈ addG l t ↔ x ∈ l ∨ x = t := by
  unfold addG
  have e : x ∈ l ↔ x ∈ l.take (cutN (befTm t) l) ∨ x ∈ l.drop (cutN (befTm t) l) := by rw [← List.mem_append, List.take_append_drop]
  rw [e]
  simp only [List.mem_append, List.mem_singleton]
  constructor
  · rintro ((h | h) | h)
    · exact .inl (.inl h)
    · exact .inr h
    · exact .inl (.inr h)
  · rintro ((h | h) | h)
    · exact .inl (.inl h)
    · exact .inr h
    · exact .inl (.inr h)
theorem addG_len (l : List TimerR) (t : TimerR) : (addG l t).length = l.length + 1 := by
  unfold addG
  have := cutN_le (befTm t) l
  simp; omega
theorem addG_pw {l : List TimerR} (hv : vTims l = true) {t : TimerR} (hm : t ∉ l) : (addG l t).Pairwise (fun x y => cmpTim x y < 0) := by
  have hp := tm_pw hv
  have hc := add_cmp hv hm
  have hpl := place_at hv t
  have hsplit : (l.take (cutN (befTm t) l) ++ l.drop (cutN (befTm t) l)).Pairwise (fun x y => cmpTim x y < 0) := by rw [List.take_append_drop]; exact hp
  rw [List.pairwise_append] at hsplit
  unfold addG
  rw [List.append_assoc, List.pairwise_append]
  refine ⟨hsplit.1, ?_, ?_⟩
  · rw [List.singleton_append, List.pairwise_cons]
    refine ⟨fun x hx => ?_, hsplit.2.1⟩
    obtain ⟨i, hi⟩ := List.getElem?_of_mem hx
    rw [List.getElem?_drop] at hi
    exact hc.2 _ x (by omega) hi
  · intro x hx y hy
    rcases List.mem_append.1 hy with hy | hy
    · rw [List.mem_singleton] at hy
      subst hy
      obtain ⟨i, hi⟩ := List.getElem?_of_mem hx
      rw [List.getElem?_take] at hi
      split at hi
      · rename_i hlt
        exact hpl.1 i x hlt hi
      · cases hi
    · exact hsplit.2.2 x hx y hy
theorem addF_ok {l : List TimerR} {t : TimerR} (h : addK l t = true) : addP l t ∧ vTims (addF l t) = true ∧ t ∈ addF l t ∧ addF (addF l t) t = addF l t ∧ addK (addF l t) t = true := by
  unfold addK at h
  split at h
  · rename_i hp
    have hv : vTims (addF l t) = true ∧ t ∈ addF l t := by
      by_cases hm : t ∈ l
      · have : addF l t = l := by unfold addF; rw [if_pos hp, if_pos (.inl hm)]
        rw [this]; exact ⟨hp.1, hm⟩
      · rw [if_neg hm] at h
        split at h
        · cases h
        · rename_i h20
          have : addF l t = addG l t := by unfold addF; rw [if_pos hp, if_neg (by simp [hm, h20])]
          rw [this]
          refine ⟨vTims_mk ?_ ?_ (addG_pw hp.1 hm), addG_mem.2 (.inr rfl)⟩
          · rw [addG_len]; have := vTims_len hp.1; omega
          · intro x hx
            rcases addG_mem.1 hx with hx | rfl
            · exact vTims_all hp.1 hx
            · exact hp.2
    have hp2 : addP (addF l t) t := ⟨hv.1, hp.2⟩
    refine ⟨hp, hv.1, hv.2, ?_, ?_⟩
    · generalize addF l t = m at *
      unfold addF; rw [if_pos hp2, if_pos (.inl hv.2)]
    · generalize addF l t = m at *
      unfold addK; rw [if_pos hp2, if_pos hv.2]
  · cases h
theorem cmpTim_self (x : TimerR) : cmpTim x x = 0 := cmpTim_eq.2 rfl
/-- How often t stands in a list. -/
def cntT (t : TimerR) (l : List TimerR) : Nat := (l.filter (fun x => decide (x = t))).length
theorem cntT_next {t : TimerR} {l : List TimerR} {k : Nat} {x : TimerR} (hx : l[k]? = some x) : cntT t (l.take (k + 1)) = cntT t (l.take k) + (if x = t then 1 else 0) := by
  unfold cntT
  rw [List.take_add_one, hx, List.filter_append, List.length_append]
  congr 1
  by_cases h : x = t <;> simp [h]
theorem cntT_one {l : List TimerR} (hp : l.Pairwise (fun x y => cmpTim x y < 0)) {t : TimerR} (hm : t ∈ l) : cntT t l = 1 := by
  induction l with
  | nil => simp at hm
  | cons y l ih =>
    obtain ⟨h1, h2⟩ := List.pairwise_cons.1 hp
    unfold cntT at *
    by_cases hy : y = t
    · have hn : l.filter (fun x => decide (x = t)) = [] := by
        rw [List.filter_eq_nil_iff]
        intro x hx he
        rw [decide_eq_true_eq] at he
        have := h1 x hx
        rw [he, hy, cmpTim_self] at this
        omega
      rw [List.filter_cons, if_pos (by simp [hy]), hn]; rfl
    · rw [List.filter_cons, if_neg (by simp [hy])]
      refine ih h2 ?_
      rcases List.mem_cons.1 hm with e | h
      · exact absurd e.symm hy
      · exact h
theorem add_rem {l : List TimerR} {t : TimerR} (h : addK l t = true) (hn : (addF l t).length ≠ l.length) : remF (addF l t) t = l ∧ remK (addF l t) t = true := by
  obtain ⟨hp, hv, hm', -, -⟩ := addF_ok h
  have hm : t ∉ l := fun hm => hn (by unfold addF; rw [if_pos hp, if_pos (.inl hm)])
  have h20 : ¬ l.length = 20 := fun h20 => hn (by unfold addF; rw [if_pos hp, if_pos (.inr h20)])
  have e : addF l t = addG l t := by unfold addF; rw [if_pos hp, if_neg (by simp [hm, h20])]
  rw [e] at hv ⊢
  have hne : ∀ m : List TimerR, (∀ x ∈ m, x ∈ l) → m.filter (fun x => !decide (x = t)) = m := by
    intro m hml
    rw [List.filter_eq_self]
    intro x hx
    simp
    intro he
    exact hm (he ▸ hml x hx)
  have hf : (addG l t).filter (fun x => !decide (x = t)) = l := by
    unfold addG
    rw [List.filter_append, List.filter_append, hne _ (fun x hx => (List.take_sublist _ _).subset hx), hne _ (fun x hx => (List.drop_sublist _ _).subset hx)]
    simp [List.take_append_drop]
  refine ⟨by unfold remF; rw [if_pos hv, hf], ?_⟩
  unfold remK
  rw [if_pos hv, hf, addG_len]
  exact decide_eq_true (by omega)
theorem rem_again {l : List TimerR} {t : TimerR} (h : remK l t = true) : remF (remF l t) t = remF l t ∧ remK (remF l t) t = false ∧ (remF l t).length + 1 = l.length := by
  unfold remK at h
  split at h
  · rename_i hv
    rw [decide_eq_true_eq] at h
    have e : remF l t = l.filter (fun x => !decide (x = t)) := by unfold remF; rw [if_pos hv]
    have hv2 : vTims (remF l t) = true := by rw [e]; exact vTims_sub hv List.filter_sublist
    have hff : (remF l t).filter (fun x => !decide (x = t)) = remF l t := by rw [e, List.filter_filter]; simp
    refine ⟨?_, ?_, ?_⟩
    · generalize remF l t = m at *
      unfold remF; rw [if_pos hv2, hff]
    · generalize remF l t = m at *
      unfold remK; rw [if_pos hv2, hff]; simp
    · have hm : t ∈ l := by
        rcases Classical.em (t ∈ l) with hm | hm
        · exact hm
        · rw [rem_not t hm] at h; omega
      obtain ⟨h1, h2⟩ := rem_found hv t hm
      rw [e, h1]
      simp; omega
  · cases h
theorem fireA_le {l : List TimerR} {now : Int} {x : TimerR} (h : x ∈ fireA l now) : x.a0 ≤ now := by
  unfold fireA at h
  split at h
  · have := (List.mem_filter.1 h).2
    unfold fireP at this
    exact of_decide_eq_true this
  · simp at h
theorem fire_again {l : List TimerR} (hv : vTims l = true) (now : Int) : fireA (fireB l now) now = [] ∧ fireB (fireB l now) now = fireB l now ∧ fireA l now ++ fireB l now = l := by
  have e : fireB l now = l.filter (fun x => !fireP now x) := by unfold fireB; rw [if_pos hv]
  have hv2 : vTims (fireB l now) = true := by rw [e]; exact vTims_sub hv List.filter_sublist
  refine ⟨?_, ?_, ?_⟩
  · unfold fireA
    rw [if_pos hv2, e, List.filter_filter, List.filter_eq_nil_iff]
    intro x _ h
    simp at h
  · have : ∀ m, m = fireB l now → fireB m now = m := by
      intro m hm
      unfold fireB
      rw [hm, if_pos hv2, e, List.filter_filter]
      simp
    exact this _ rfl
  · have hc := filter_cut (fire_mono hv now)
    have h1 : fireA l now = l.take (cutN (fireP now) l) := by unfold fireA; rw [if_pos hv, hc.1]
    rw [h1, e, hc.2, List.take_append_drop]
theorem find_filter {α : Type} {p q : α → Bool} : ∀ {l : List α} {x : α}, l.find? q = some x → p x = true → (l.filter p).find? q = some x
  | [], _, h, _ => by simp at h
  | y :: l, x, h, hp => by
    rw [List.find?_cons] at h
    split at h
    · rename_i hq
      injection h with h
      subst h
      rw [List.filter_cons, if_pos hp, List.find?_cons, hq]
    · rename_i hq
      have ih := find_filter (p := p) h hp
      rw [List.filter_cons]
      split
      · rw [List.find?_cons, hq]; exact ih
      · exact ih
theorem find_first {α : Type} {R : α → α → Prop} {q : α → Bool} : ∀ {l : List α} {x : α}, l.Pairwise R → l.find? q = some x → ∀ y ∈ l, q y = true → y = x ∨ R x y
  | [], _, _, h => by simp at h
  | z :: l, x, hp, h => by
    obtain ⟨h1, h2⟩ := List.pairwise_cons.1 hp
    rw [List.find?_cons] at h
    intro y hy hq
    split at h
    · injection h with h
      subst h
      rcases List.mem_cons.1 hy with e | hy
      · exact .inl e
      · exact .inr (h1 y hy)
    · rename_i hz
      rcases List.mem_cons.1 hy with e | hy
      · rw [e, hz] at hq; cases hq
      · exact find_first h2 h y hy hq
theorem cmpTim_le {x y : TimerR} (h : cmpTim x y < 0) : x.a0 ≤ y.a0 := by
  unfold cmpTim cmp3L cmpI at h
  (repeat' split at h) <;> omega
theorem next_some {l : List TimerR} {key : Int} (h : 0 ≤ nextF l key) : vTims l = true ∧ ∃ x, l.find? (fun t => decide (t.a1 = key)) = some x ∧ nextF l key = x.a0 := by
  unfold nextF at h ⊢
  split at h
  · rename_i hv
    refine ⟨hv, ?_⟩
    rw [if_pos hv]
    unfold nextG at h ⊢
    split at h
    · rename_i x hx
      exact ⟨x, hx, rfl⟩
    · omega
  · omega
theorem fire_next {l : List TimerR} {key : Int} (h : 0 ≤ nextF l key) : nextF (fireA l (nextF l key)) key = nextF l key ∧ nextF (fireA l (nextF l key - 1)) key = -1 ∧ nextF l key ≤ 3000 := by
  obtain ⟨hv, x, hx, he⟩ := next_some h
  rw [he]
  have hxm := List.mem_of_find?_eq_some hx
  have hb := vTims_all hv hxm
  unfold vTimB at hb
  rw [decide_eq_true_eq] at hb
  have hs : ∀ now, vTims (fireA l now) = true := fun now => by
    unfold fireA; rw [if_pos hv]; exact vTims_sub hv List.filter_sublist
  refine ⟨?_, ?_, hb.2.1⟩
  · have hf : (fireA l x.a0).find? (fun t => decide (t.a1 = key)) = some x := by
      unfold fireA
      rw [if_pos hv]
      exact find_filter hx (by unfold fireP; simp)
    have := hs x.a0
    generalize fireA l x.a0 = m at *
    unfold nextF nextG
    rw [if_pos this, hf]
  · have hf : (fireA l (x.a0 - 1)).find? (fun t => decide (t.a1 = key)) = none := by
      rw [List.find?_eq_none]
      intro y hy hq
      have hle := fireA_le hy
      have hyl : y ∈ l := by
        unfold fireA at hy
        rw [if_pos hv] at hy
        exact (List.mem_filter.1 hy).1
      rcases find_first (tm_pw hv) hx y hyl hq with e | hr
      · subst e; omega
      · have := cmpTim_le hr; omega
    have := hs (x.a0 - 1)
    generalize fireA l (x.a0 - 1) = m at *
    unfold nextF nextG
    rw [if_pos this, hf]
end Go.Proofs.Ytjjjlpnbniofjab
