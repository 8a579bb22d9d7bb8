import Derived.Test.YtjjjlpnbniofjabEqVn
import Derived.Test.YtjjjlpnbniofjabDrV
import Derived.Test.YtjjjlpnbniofjabBo
import Derived.Test.YtjjjlpnbniofjabVnA
namespace Go.Proofs.Ytjjjlpnbniofjab
open Go.RowKit
theorem keepAt_get {l : List VersionR} {m : Int} {i : Nat} {x : VersionR} (h : keepAt l m i = some x) : l[i]? = some x := by
  unfold keepAt at h
  split at h
  · rename_i y hy
    split at h
    · split at h
      · cases h
      · rw [hy]; exact h
    · rw [hy]; exact h
  · cases h
theorem purK_mem {l : List VersionR} (hv : vVers l = true) {m : Int} {x : VersionR} : x ∈ purK l m l.length ↔ x ∈ l ∧ ∀ y ∈ l, y.a0 = x.a0 → x.a1 < y.a1 → m + 1 < y.a1 := by
  unfold purK
  rw [List.mem_filterMap]
  constructor
  · rintro ⟨i, hi, hk⟩
    have hx := keepAt_get hk
    refine ⟨List.mem_of_getElem? hx, fun y hy h0 h1 => ?_⟩
    obtain ⟨j, hj⟩ := List.getElem?_of_mem hy
    have hij : i < j := by
      rcases Nat.lt_trichotomy i j with h | h | h
      · exact h
      · subst h; rw [hx] at hj; injection hj with hj; subst hj; omega
      · have := pw_get (ver_pw hv) h hj hx
        rw [cmpVer_neg] at this; omega
    have hjl : j < l.length := (List.getElem?_eq_some_iff.1 hj).1
    have hz : l[i + 1]? = some l[i + 1] := List.getElem?_eq_getElem (by omega)
    generalize l[i + 1] = z at *
    have hn : ¬ (z.a0 = x.a0 ∧ z.a1 ≤ m + 1) := fun hp => by rw [keep_no hx hz hp] at hk; cases hk
    have hxz := pw_get (ver_pw hv) (show i < i + 1 by omega) hx hz
    rw [cmpVer_neg] at hxz
    rcases Nat.lt_or_eq_of_le (show i + 1 ≤ j by omega) with h | h
    · have hzy := pw_get (ver_pw hv) h hz hj
      rw [cmpVer_neg] at hzy
      omega
    · subst h; rw [hz] at hj; injection hj with hj; subst hj
      omega
  · rintro ⟨hx, hc⟩
    obtain ⟨i, hi⟩ := List.getElem?_of_mem hx
    have hil : i < l.length := (List.getElem?_eq_some_iff.1 hi).1
    refine ⟨i, by simpa using hil, ?_⟩
    rcases Nat.lt_or_ge (i + 1) l.length with h | h
    · have hz : l[i + 1]? = some l[i + 1] := List.getElem?_eq_getElem h
      generalize l[i + 1] = z at *
      refine keep_yes hi hz (fun hp => ?_)
      have hxz := pw_get (ver_pw hv) (show i < i + 1 by omega) hi hz
      rw [cmpVer_neg] at hxz
      have := hc z (List.mem_of_getElem? hz) hp.1 (by omega)
      omega
    · exact keep_last hi (by omega)
theorem purK_pw {l : List VersionR} (hv : vVers l = true) (m : Int) : (purK l m l.length).Pairwise (fun x y => cmpVer x y < 0) := by
  unfold purK
  refine List.Pairwise.filterMap _ ?_ (List.pairwise_lt_range (n := l.length))
  intro i j hij b hb b' hb'
  exact pw_get (ver_pw hv) hij (keepAt_get hb) (keepAt_get hb')
theorem purK_valid {l : List VersionR} (hv : vVers l = true) (m : Int) : vVers (purK l m l.length) = true :=
  vVers_mk (Nat.le_trans (pur_len _ _ _) (ver_len hv)) (fun _ hx => vVers_all hv ((purK_mem hv).1 hx).1) (purK_pw hv m)
theorem pur_facts {l : List VersionR} {m : Int} (h : (purF l m).length ≠ 0) : (∀ key time, m + 1 ≤ time → verF l key time = verF (purF l m) key time ∧ verK l key time = verK (purF l m) key time) ∧ purF (purF l m) m = purF l m := by
  have hp : purP l m := by
    rcases Classical.em (purP l m) with h' | h'
    · exact h'
    · exact absurd (by unfold purF; rw [if_neg h']; rfl) h
  have hv := hp.1
  have e : purF l m = purK l m l.length := by unfold purF; rw [if_pos hp]
  have hm : ∀ x, x ∈ purF l m ↔ x ∈ l ∧ ∀ y ∈ l, y.a0 = x.a0 → x.a1 < y.a1 → m + 1 < y.a1 := fun x => by rw [e]; exact purK_mem hv
  have hv2 : vVers (purF l m) = true := by rw [e]; exact purK_valid hv m
  refine ⟨fun key time ht => ?_, ?_⟩
  · rcases va_or hv key time with hn | ⟨x, hx, h0, h1, hmax⟩
    · obtain ⟨a, b⟩ := va_none hn
      obtain ⟨c, d⟩ := va_none (l := purF l m) (key := key) (time := time) (fun x hx hq => hn x ((hm x).1 hx).1 hq)
      rw [a, b, c, d]; exact ⟨rfl, rfl⟩
    · obtain ⟨a, b⟩ := va_some hv hx h0 h1 hmax
      have hxu : x ∈ purF l m := (hm x).2 ⟨hx, fun y hy g0 g1 => by
        rcases (show time < y.a1 ∨ y.a1 ≤ time by omega) with h2 | h2
        · omega
        · have := hmax y hy (by omega) h2; omega⟩
      obtain ⟨c, d⟩ := va_some hv2 hxu h0 h1 (fun y hy g0 g1 => hmax y ((hm y).1 hy).1 g0 g1)
      rw [a, b, c, d]; exact ⟨rfl, rfl⟩
  · generalize purF l m = u at *
    have hpu : purP u m := ⟨hv2, hp.2⟩
    have eu : purF u m = purK u m u.length := by unfold purF; rw [if_pos hpu]
    rw [eu]
    refine vers_ext (purK_pw hv2 m) (ver_pw hv2) (fun x => ?_)
    rw [purK_mem hv2]
    constructor
    · exact fun h => h.1
    · intro hx
      exact ⟨hx, fun y hy => ((hm x).1 hx).2 y ((hm y).1 hy).1⟩
end Go.Proofs.Ytjjjlpnbniofjab
