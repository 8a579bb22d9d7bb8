import Derived.Test.YtjjjlpnbniofjabPutI
import Derived.Test.YtjjjlpnbniofjabPur
import Derived.Test.YtjjjlpnbniofjabTmA
namespace Go.Proofs.Ytjjjlpnbniofjab
open Go.RowKit
theorem asc_ext {α : Type} {R : α → α → Prop} (hi : ∀ x, ¬ R x x) (ha : ∀ x y, R x y → ¬ R y x) : ∀ {l m : List α}, l.Pairwise R → m.Pairwise R → (∀ x, x ∈ l ↔ x ∈ m) → l = m
  | [], [], _, _, _ => rfl
  | [], y :: m, _, _, h => absurd ((h y).2 (by simp)) (by simp)
  | x :: l, [], _, _, h => absurd ((h x).1 (by simp)) (by simp)
  | x :: l, y :: m, hl, hm, h => by
    obtain ⟨h1, h2⟩ := List.pairwise_cons.1 hl
    obtain ⟨h3, h4⟩ := List.pairwise_cons.1 hm
    have e : x = y := by
      rcases List.mem_cons.1 ((h x).1 (by simp)) with e | hx
      · exact e
      · rcases List.mem_cons.1 ((h y).2 (by simp)) with e | hy
        · exact e.symm
        · exact absurd (h1 _ hy) (ha _ _ (h3 _ hx))
    subst e
    congr 1
    refine asc_ext hi ha h2 h4 (fun z => ?_)
    constructor
    · intro hz
      rcases List.mem_cons.1 ((h z).1 (by simp [hz])) with rfl | h'
      · exact absurd (h1 _ hz) (hi _)
      · exact h'
    · intro hz
      rcases List.mem_cons.1 ((h z).2 (by simp [hz])) with rfl | h'
      · exact absurd (h3 _ hz) (hi _)
      · exact h'
theorem vVers_mk {l : List VersionR} (h1 : l.length ≤ 40) (h2 : ∀ x ∈ l, vVerB x = true) (h3 : l.Pairwise (fun x y => cmpVer x y < 0)) : vVers l = true := by
  unfold vVers
  rw [decide_eq_true h1, pw_asc h3, List.all_eq_true.2 h2]; rfl
theorem vVers_all {l : List VersionR} (h : vVers l = true) {x : VersionR} (hx : x ∈ l) : vVerB x = true := by
  unfold vVers at h
  rw [Bool.and_eq_true, Bool.and_eq_true, List.all_eq_true] at h
  exact h.1.2 x hx
theorem cmpVer_neg (x y : VersionR) : cmpVer x y < 0 ↔ x.a0 < y.a0 ∨ (x.a0 = y.a0 ∧ x.a1 < y.a1) := by unfold cmpVer; exact cmp2_neg _ _ _ _
theorem vers_ext {l m : List VersionR} (hl : l.Pairwise (fun x y => cmpVer x y < 0)) (hm : m.Pairwise (fun x y => cmpVer x y < 0)) (h : ∀ x, x ∈ l ↔ x ∈ m) : l = m := by
  refine asc_ext (fun x => ?_) (fun x y h => ?_) hl hm h
  · rw [cmpVer_neg]; omega
  · rw [cmpVer_neg] at h ⊢; omega
/-- What a valid table says of a key at a time. -/
theorem va_some {l : List VersionR} (hv : vVers l = true) {key time : Int} {x : VersionR} (hx : x ∈ l) (h0 : x.a0 = key) (h1 : x.a1 ≤ time) (hmax : ∀ y ∈ l, y.a0 = key → y.a1 ≤ time → y.a1 ≤ x.a1) : verF l key time = x.a2 ∧ verK l key time = true := by
  obtain ⟨j, hj⟩ := List.getElem?_of_mem hx
  have hjl : j < l.length := (List.getElem?_eq_some_iff.1 hj).1
  have hI : verI l key time = j := by
    refine last_eq hjl hj (by unfold pVer; exact decide_eq_true ⟨h0, h1⟩) (fun i y h2 _ hy => ?_)
    rw [Bool.eq_false_iff]
    intro hp
    unfold pVer at hp
    rw [decide_eq_true_eq] at hp
    have hlt := pw_get (ver_pw hv) h2 hj hy
    rw [cmpVer_neg] at hlt
    have := hmax y (List.mem_of_getElem? hy) hp.1 hp.2
    omega
  obtain ⟨q1, q2⟩ := val_some hI hj
  unfold verF verK
  rw [if_pos hv, if_pos hv]
  exact ⟨q1, q2⟩
theorem va_none {l : List VersionR} {key time : Int} (h : ∀ x ∈ l, ¬ (x.a0 = key ∧ x.a1 ≤ time)) : verF l key time = 0 ∧ verK l key time = false := by
  have hI : verI l key time = -1 := last_none (fun i x _ hx => by
    rw [Bool.eq_false_iff]
    intro hp
    unfold pVer at hp
    rw [decide_eq_true_eq] at hp
    exact h x (List.mem_of_getElem? hx) hp)
  obtain ⟨q1, q2⟩ := val_none hI
  unfold verF verK
  constructor <;> split <;> simp_all
theorem va_or {l : List VersionR} (hv : vVers l = true) (key time : Int) : (∀ x ∈ l, ¬ (x.a0 = key ∧ x.a1 ≤ time)) ∨ ∃ x ∈ l, x.a0 = key ∧ x.a1 ≤ time ∧ ∀ y ∈ l, y.a0 = key → y.a1 ≤ time → y.a1 ≤ x.a1 := by
  rcases ver_bdI l key time with h | ⟨j, x, h, hx, hj⟩
  · left
    intro x hx hp
    obtain ⟨i, hi⟩ := List.getElem?_of_mem hx
    have hil : i < l.length := (List.getElem?_eq_some_iff.1 hi).1
    -- the last one that has the property would be found
    have : ∀ k, i < k → 0 ≤ lastIx (pVer key time) l k := by
      intro k hk
      induction k with
      | zero => omega
      | succ k ih =>
        unfold lastIx
        split
        · split
          · omega
          · rename_i y hy hne
            rcases Nat.lt_or_ge i k with h1 | h1
            · exact ih h1
            · have : k = i := by omega
              subst this
              rw [hi] at hy
              injection hy with hy
              subst hy
              exact absurd (show pVer key time x = true from decide_eq_true hp) hne
        · rename_i hnone
          rcases Nat.lt_or_ge i k with h1 | h1
          · exact ih h1
          · have : k = i := by omega
            subst this
            rw [hi] at hnone; cases hnone
    have h2 := this l.length hil
    unfold verI at h
    omega
  · right
    have hp : pVer key time x = true := by
      have key2 : ∀ k (j : Nat), lastIx (pVer key time) l k = j → ∀ y, l[j]? = some y → pVer key time y = true := by
        intro k
        induction k with
        | zero => intro j h0 y hy; simp [lastIx] at h0
        | succ k ih =>
          intro j h0 y hy
          unfold lastIx at h0
          split at h0
          · split at h0
            · rename_i z hz hpz
              have : k = j := by omega
              subst this
              rw [hz] at hy; injection hy with hy; subst hy; exact hpz
            · exact ih j h0 y hy
          · exact ih j h0 y hy
      exact key2 l.length j h x hx
    unfold pVer at hp
    rw [decide_eq_true_eq] at hp
    refine ⟨x, List.mem_of_getElem? hx, hp.1, hp.2, fun y hy h0 h1 => ?_⟩
    obtain ⟨i, hi⟩ := List.getElem?_of_mem hy
    have hil : i < l.length := (List.getElem?_eq_some_iff.1 hi).1
    rcases Nat.lt_trichotomy i j with h2 | h2 | h2
    · have := pw_get (ver_pw hv) h2 hi hx
      rw [cmpVer_neg] at this
      omega
    · subst h2; rw [hi] at hx; injection hx with hx; subst hx; omega
    · -- a later one would be found
      exfalso
      have key3 : ∀ k, i < k → (i : Int) ≤ lastIx (pVer key time) l k := by
        intro k hk
        induction k with
        | zero => omega
        | succ k ih =>
          unfold lastIx
          split
          · split
            · omega
            · rename_i z hz hne
              rcases Nat.lt_or_ge i k with h3 | h3
              · exact ih h3
              · have : k = i := by omega
                subst this
                rw [hi] at hz; injection hz with hz; subst hz
                exact absurd (show pVer key time y = true from decide_eq_true ⟨h0, h1⟩) hne
          · rename_i hnone
            rcases Nat.lt_or_ge i k with h3 | h3
            · exact ih h3
            · have : k = i := by omega
              subst this
              rw [hi] at hnone; cases hnone
      have := key3 l.length hil
      unfold verI at h
      omega
/-- Tables that agree on what counts at a time say the same. -/
theorem va_congr {l m : List VersionR} (hl : vVers l = true) (hm : vVers m = true) {key time : Int} (h : ∀ x, x.a0 = key → x.a1 ≤ time → (x ∈ l ↔ x ∈ m)) : verF l key time = verF m key time ∧ verK l key time = verK m key time := by
  rcases va_or hl key time with hn | ⟨x, hx, h0, h1, hmax⟩
  · obtain ⟨a, b⟩ := va_none hn
    obtain ⟨c, d⟩ := va_none (l := m) (key := key) (time := time) (fun x hx hp => hn x ((h x hp.1 hp.2).2 hx) hp)
    rw [a, b, c, d]; exact ⟨rfl, rfl⟩
  · obtain ⟨a, b⟩ := va_some hl hx h0 h1 hmax
    obtain ⟨c, d⟩ := va_some hm ((h x h0 h1).1 hx) h0 h1 (fun y hy g0 g1 => hmax y ((h y g0 g1).2 hy) g0 g1)
    rw [a, b, c, d]; exact ⟨rfl, rfl⟩
theorem putK_p {l : List VersionR} {v : VersionR} (h : putK l v = true) : putP l v ∧ (hitVn v l[cutN (befV v) l]? = true ∨ l.length ≠ 40) ∧ putF l v = putG l v := by
  unfold putK at h
  rw [decide_eq_true_eq] at h
  exact ⟨h.1, h.2, by unfold putF; rw [if_pos h]⟩
theorem cmpVer_zero (x y : VersionR) : cmpVer x y = 0 ↔ x.a0 = y.a0 ∧ x.a1 = y.a1 := by
  unfold cmpVer cmp2L cmpI; (repeat' split) <;> omega
/-- The elements of a table into which a version has been put. -/
theorem putG_mem {l : List VersionR} (hv : vVers l = true) {v x : VersionR} : x ∈ putG l v ↔ x = v ∨ (x ∈ l ∧ ¬ (x.a0 = v.a0 ∧ x.a1 = v.a1)) := by
  have hp := placeV hv v
  have hK := cutN_le (befV v) l
  unfold putG
  rw [List.mem_append, List.mem_append, List.mem_singleton]
  have hcut : ∀ y, y ∈ l.take (cutN (befV v) l) → cmpVer y v < 0 := by
    intro y hy
    obtain ⟨i, hi⟩ := List.getElem?_of_mem hy
    rw [List.getElem?_take] at hi
    split at hi
    · rename_i hlt; exact hp.1 i y hlt hi
    · cases hi
  have hdrop : ∀ y, y ∈ l.drop (putJ l v) → 0 < cmpVer y v := by
    intro y hy
    obtain ⟨i, hi⟩ := List.getElem?_of_mem hy
    rw [List.getElem?_drop] at hi
    unfold putJ at hi
    split at hi
    · rename_i hh
      rcases hz : l[cutN (befV v) l]? with _ | z
      · rw [hz] at hh; cases hh
      · rw [hz] at hh
        have hzv : cmpVer z v = 0 := of_decide_eq_true hh
        have hlt := pw_get (ver_pw hv) (show cutN (befV v) l < cutN (befV v) l + 1 + i by omega) hz hi
        rw [cmpVer_zero] at hzv
        rw [cmpVer_neg] at hlt
        have : cmpVer v y < 0 := by rw [cmpVer_neg]; omega
        have := cmpVer_flip y v
        omega
    · rename_i hh
      have h1 := hp.2 _ y (show cutN (befV v) l ≤ cutN (befV v) l + i by omega) hi
      rcases Classical.em (cmpVer y v = 0) with h0 | h0
      · exfalso
        rcases Nat.eq_zero_or_pos i with hi0 | hi0
        · subst hi0
          rw [Nat.add_zero] at hi
          exact hh (by rw [hi]; exact decide_eq_true h0)
        · have hil : cutN (befV v) l + i < l.length := (List.getElem?_eq_some_iff.1 hi).1
          have hz : l[cutN (befV v) l]? = some l[cutN (befV v) l] := List.getElem?_eq_getElem (by omega)
          have hlt := pw_get (ver_pw hv) (show cutN (befV v) l < cutN (befV v) l + i by omega) hz hi
          have h2 := hp.2 _ _ (Nat.le_refl _) hz
          rw [cmpVer_zero] at h0
          rw [cmpVer_neg] at hlt h2
          omega
      · omega
  constructor
  · rintro ((h | h) | h)
    · have := hcut x h
      rw [cmpVer_neg] at this
      exact .inr ⟨(List.take_sublist _ _).subset h, by omega⟩
    · exact .inl h
    · have := hdrop x h
      exact .inr ⟨(List.drop_sublist _ _).subset h, fun he => by have := (cmpVer_zero x v).2 he; omega⟩
  · rintro (h | ⟨h, hne⟩)
    · exact .inl (.inr h)
    · obtain ⟨i, hi⟩ := List.getElem?_of_mem h
      rcases Nat.lt_or_ge i (cutN (befV v) l) with h1 | h1
      · exact .inl (.inl (List.mem_of_getElem? (by rw [List.getElem?_take, if_pos h1]; exact hi)))
      · right
        have hge : putJ l v ≤ i := by
          unfold putJ
          split
          · rename_i hh
            rcases Nat.lt_or_eq_of_le h1 with h2 | h2
            · exact h2
            · subst h2
              rw [hi] at hh
              exact absurd ((cmpVer_zero x v).1 (of_decide_eq_true hh)) hne
          · exact h1
        refine List.mem_of_getElem? (i := i - putJ l v) ?_
        rw [List.getElem?_drop, show putJ l v + (i - putJ l v) = i by omega]
        exact hi
theorem putG_pw {l : List VersionR} (hv : vVers l = true) (v : VersionR) : (putG l v).Pairwise (fun x y => cmpVer x y < 0) := by
  have hp := placeV hv v
  unfold putG
  have hcut : ∀ y, y ∈ l.take (cutN (befV v) l) → cmpVer y v < 0 := by
    intro y hy
    obtain ⟨i, hi⟩ := List.getElem?_of_mem hy
    rw [List.getElem?_take] at hi
    split at hi
    · rename_i hlt; exact hp.1 i y hlt hi
    · cases hi
  have hdrop : ∀ y, y ∈ l.drop (putJ l v) → cmpVer v y < 0 := by
    intro y hy
    have hm : y ∈ putG l v := by unfold putG; simp [hy]
    obtain ⟨i, hi⟩ := List.getElem?_of_mem hy
    rw [List.getElem?_drop] at hi
    have hJ : cutN (befV v) l ≤ putJ l v := by unfold putJ; split <;> omega
    have h1 := hp.2 _ y (show cutN (befV v) l ≤ putJ l v + i by omega) hi
    rcases (putG_mem hv).1 hm with e | ⟨_, hne⟩
    · -- v itself behind its place: it would be doubled
      subst e
      exfalso
      unfold putJ at hi
      split at hi
      · rename_i hh
        rcases hz : l[cutN (befV y) l]? with _ | z
        · rw [hz] at hh; cases hh
        · rw [hz] at hh
          have hzv : cmpVer z y = 0 := of_decide_eq_true hh
          have hlt := pw_get (ver_pw hv) (show cutN (befV y) l < cutN (befV y) l + 1 + i by omega) hz hi
          omega
      · rename_i hh
        rcases Nat.eq_zero_or_pos i with hi0 | hi0
        · subst hi0
          rw [Nat.add_zero] at hi
          exact hh (by rw [hi]; exact decide_eq_true ((cmpVer_zero y y).2 ⟨rfl, rfl⟩))
        · have hil : cutN (befV y) l + i < l.length := (List.getElem?_eq_some_iff.1 hi).1
          have hz : l[cutN (befV y) l]? = some l[cutN (befV y) l] := List.getElem?_eq_getElem (by omega)
          have hlt := pw_get (ver_pw hv) (show cutN (befV y) l < cutN (befV y) l + i by omega) hz hi
          exact absurd hlt (hp.2 _ _ (Nat.le_refl _) hz)
    · have h2 : cmpVer y v ≠ 0 := fun h => hne ((cmpVer_zero y v).1 h)
      have := cmpVer_flip y v
      omega
  rw [List.append_assoc, List.pairwise_append]
  refine ⟨(ver_pw hv).sublist (List.take_sublist _ _), ?_, ?_⟩
  · rw [List.singleton_append, List.pairwise_cons]
    exact ⟨hdrop, (ver_pw hv).sublist (List.drop_sublist _ _)⟩
  · intro x hx y hy
    have h1 := hcut x hx
    rcases List.mem_append.1 hy with hy | hy
    · rw [List.mem_singleton] at hy; subst hy; exact h1
    · have h2 := hdrop y hy
      rw [cmpVer_neg] at h1 h2 ⊢
      omega
theorem putG_len {l : List VersionR} {v : VersionR} (hv : vVers l = true) (h : hitVn v l[cutN (befV v) l]? = true ∨ l.length ≠ 40) : (putG l v).length ≤ 40 := by
  have hK := cutN_le (befV v) l
  have hl := ver_len hv
  unfold putG putJ
  split
  · rename_i hh
    have hlt : cutN (befV v) l < l.length := by
      rcases Nat.lt_or_ge (cutN (befV v) l) l.length with h1 | h1
      · exact h1
      · rw [List.getElem?_eq_none h1] at hh; cases hh
    simp; omega
  · rename_i hh
    rcases h with h | h
    · exact absurd h hh
    · simp; omega
theorem put_ok {l : List VersionR} {v : VersionR} (h : putK l v = true) : vVers l = true ∧ vVers (putF l v) = true ∧ (∀ x, x ∈ putF l v ↔ x = v ∨ (x ∈ l ∧ ¬ (x.a0 = v.a0 ∧ x.a1 = v.a1))) ∧ putF (putF l v) v = putF l v ∧ putK (putF l v) v = true := by
  obtain ⟨hp, h2, e⟩ := putK_p h
  have hm : ∀ x, x ∈ putF l v ↔ x = v ∨ (x ∈ l ∧ ¬ (x.a0 = v.a0 ∧ x.a1 = v.a1)) := fun x => by rw [e]; exact putG_mem hp.1
  have hv2 : vVers (putF l v) = true := vVers_mk (by rw [e]; exact putG_len hp.1 h2) (fun x hx => by
    rcases (hm x).1 hx with rfl | ⟨h1, _⟩
    · exact hp.2
    · exact vVers_all hp.1 h1) (by rw [e]; exact putG_pw hp.1 v)
  refine ⟨hp.1, hv2, hm, ?_⟩
  have hin : v ∈ putF l v := (hm v).2 (.inl rfl)
  generalize putF l v = m at *
  have hhit : hitVn v m[cutN (befV v) m]? = true := by
    obtain ⟨i, hi⟩ := List.getElem?_of_mem hin
    have hpl := placeV hv2 v
    have hi1 : ¬ i < cutN (befV v) m := fun hlt => by have := hpl.1 i v hlt hi; rw [cmpVer_neg] at this; omega
    have hil : i < m.length := (List.getElem?_eq_some_iff.1 hi).1
    rcases Nat.lt_or_eq_of_le (Nat.le_of_not_lt hi1) with h3 | h3
    · have hz : m[cutN (befV v) m]? = some m[cutN (befV v) m] := List.getElem?_eq_getElem (by omega)
      have hlt := pw_get (ver_pw hv2) h3 hz hi
      exact absurd hlt (hpl.2 _ _ (Nat.le_refl _) hz)
    · rw [h3, hi]; exact decide_eq_true ((cmpVer_zero v v).2 ⟨rfl, rfl⟩)
  have hk : putK m v = true := decide_eq_true ⟨⟨hv2, hp.2⟩, .inl hhit⟩
  refine ⟨?_, hk⟩
  obtain ⟨_, _, e2⟩ := putK_p hk
  rw [e2]
  refine vers_ext (putG_pw hv2 v) (ver_pw hv2) (fun x => ?_)
  rw [putG_mem hv2]
  constructor
  · rintro (rfl | ⟨h1, _⟩)
    · exact hin
    · exact h1
  · intro hx
    rcases (hm x).1 hx with rfl | ⟨h1, h3⟩
    · exact .inl rfl
    · exact .inr ⟨hx, h3⟩
theorem put_len40 {l : List VersionR} {v : VersionR} (h : putK l v = true) : (putF l v).length ≤ 40 := ver_len (put_ok h).2.1
theorem put_facts {l : List VersionR} {v : VersionR} (h : putK l v = true) : verF (putF l v) v.a0 v.a1 = v.a2 ∧ verK (putF l v) v.a0 v.a1 = true ∧ verF l v.a0 (v.a1 - 1) = verF (putF l v) v.a0 (v.a1 - 1) ∧ verK l v.a0 (v.a1 - 1) = verK (putF l v) v.a0 (v.a1 - 1) ∧ (∀ key time, key ≠ v.a0 → verF l key time = verF (putF l v) key time ∧ verK l key time = verK (putF l v) key time) := by
  obtain ⟨h1, h2, hm, -, -⟩ := put_ok h
  obtain ⟨a, b⟩ := va_some h2 (key := v.a0) (time := v.a1) ((hm v).2 (.inl rfl)) rfl (Int.le_refl _) (fun y _ _ hy => hy)
  obtain ⟨c, d⟩ := va_congr h1 h2 (key := v.a0) (time := v.a1 - 1) (fun x _ hx1 => by
    rw [hm]
    constructor
    · intro hx; exact .inr ⟨hx, by omega⟩
    · rintro (rfl | ⟨hx, _⟩)
      · omega
      · exact hx)
  refine ⟨a, b, c, d, fun key time hne => va_congr h1 h2 (fun x hx0 _ => ?_)⟩
  rw [hm]
  constructor
  · intro hx; exact .inr ⟨hx, by omega⟩
  · rintro (rfl | ⟨hx, _⟩)
    · exact absurd hx0.symm hne
    · exact hx
theorem ver_bd2 {l : List VersionR} {v : VersionR} (h : putK l v = true) : 0 ≤ v.a0 ∧ v.a0 ≤ 15 ∧ 0 ≤ v.a1 ∧ v.a1 ≤ 999 ∧ 0 ≤ v.a2 ∧ v.a2 ≤ 99 := by
  have := (putK_p h).1.2
  unfold vVerB at this
  exact of_decide_eq_true this
end Go.Proofs.Ytjjjlpnbniofjab
