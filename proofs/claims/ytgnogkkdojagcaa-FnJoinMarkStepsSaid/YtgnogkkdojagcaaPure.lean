import Derived.Test.YtgnogkkdojagcaaSlk2
import Derived.Maps.AppendAt
namespace Go.Proofs.Ytgnogkkdojagcaa
open Go.RowKit
/-- Each element is before the next one. -/
def ascB {α : Type} (c : α → α → Int) : List α → Bool
  | x :: y :: l => decide (c x y < 0) && ascB c (y :: l)
  | _ => true
theorem asc_iff {α : Type} (c : α → α → Int) (l : List α) : ascB c l = true ↔ ∀ i x y, l[i]? = some x → l[i + 1]? = some y → c x y < 0 := by
  induction l with
  | nil => simp [ascB]
  | cons a l ih =>
    rcases l with _ | ⟨b, l⟩
    · simp [ascB]
    · rw [ascB, Bool.and_eq_true, ih, decide_eq_true_eq]
      constructor
      · rintro ⟨h1, h2⟩ i x y hx hy
        rcases i with _ | i
        · simp at hx hy; subst hx hy; exact h1
        · exact h2 i x y (by simpa using hx) (by simpa using hy)
      · intro h
        exact ⟨h 0 a b rfl rfl, fun i x y hx hy => h (i + 1) x y (by simpa using hx) (by simpa using hy)⟩
theorem asc_next {α : Type} {c : α → α → Int} {l : List α} {k : Nat} {x y : α} (h : ascB c (l.take (k + 1)) = true) (hx : l[k]? = some x) (hy : l[k + 1]? = some y) (hc : c x y < 0) : ascB c (l.take (k + 1 + 1)) = true := by
  rw [asc_iff] at h ⊢
  intro i u v hu hv
  have hv' := hv
  rw [List.getElem?_take] at hu hv
  split at hv
  · rename_i h2
    by_cases hi : i + 1 < k + 1
    · exact h i u v (by rw [List.getElem?_take, if_pos (by omega)]; simpa [show i < k + 1 + 1 by omega] using hu) (by rw [List.getElem?_take, if_pos hi]; exact hv)
    · have hik : i = k := by omega
      subst hik
      rw [if_pos (by omega), hx] at hu
      rw [hy] at hv
      injection hu with hu
      injection hv with hv
      subst hu hv
      exact hc
  · cases hv
theorem asc_one {α : Type} (c : α → α → Int) (l : List α) : ascB c (l.take 1) = true := by
  rcases l with _ | ⟨a, l⟩ <;> simp [ascB]
theorem asc_zero {α : Type} (c : α → α → Int) (l : List α) : ascB c (l.take 0) = true := by simp [ascB]
theorem asc_stop {α : Type} {c : α → α → Int} {l : List α} {k : Nat} {x y : α} (hx : l[k]? = some x) (hy : l[k + 1]? = some y) (hc : ¬ c x y < 0) : ascB c l = false := by
  rw [Bool.eq_false_iff]
  intro h
  exact hc ((asc_iff c l).1 h k x y hx hy)
/-- Ascending lists under a transitive comparison: whatever is ahead is before. -/
theorem asc_pairwise {α : Type} {c : α → α → Int} (ht : ∀ x y z, c x y < 0 → c y z < 0 → c x z < 0) {l : List α} (h : ascB c l = true) : l.Pairwise (fun x y => c x y < 0) := by
  induction l with
  | nil => exact List.Pairwise.nil
  | cons a l ih =>
    rcases l with _ | ⟨b, l⟩
    · exact List.pairwise_singleton _ _
    · rw [ascB, Bool.and_eq_true, decide_eq_true_eq] at h
      have hp := ih h.2
      refine List.Pairwise.cons ?_ hp
      intro z hz
      rcases List.mem_cons.1 hz with rfl | hz
      · exact h.1
      · exact ht _ _ _ h.1 ((List.pairwise_cons.1 hp).1 z hz)
theorem pw_get {α : Type} {R : α → α → Prop} {l : List α} (h : l.Pairwise R) {i j : Nat} {x y : α} (hij : i < j) (hx : l[i]? = some x) (hy : l[j]? = some y) : R x y := by
  obtain ⟨hi, rfl⟩ := List.getElem?_eq_some_iff.1 hx
  obtain ⟨hj, rfl⟩ := List.getElem?_eq_some_iff.1 hy
  exact List.pairwise_iff_getElem.1 h i j hi hj hij
/-- How many elements are ahead of the first one that has not a property. -/
def cutN {α : Type} (p : α → Bool) (l : List α) : Nat := (l.takeWhile p).length
theorem cutN_le {α : Type} (p : α → Bool) (l : List α) : cutN p l ≤ l.length := by
  unfold cutN; exact (List.takeWhile_sublist p).length_le
theorem take_cutN {α : Type} (p : α → Bool) (l : List α) : l.take (cutN p l) = l.takeWhile p := by
  unfold cutN
  have h : l.take (l.takeWhile p).length = (l.takeWhile p ++ l.dropWhile p).take (l.takeWhile p).length := by rw [List.takeWhile_append_dropWhile]
  rw [h, List.take_left]
theorem drop_cutN {α : Type} (p : α → Bool) (l : List α) : l.drop (cutN p l) = l.dropWhile p := by
  unfold cutN
  have h : l.drop (l.takeWhile p).length = (l.takeWhile p ++ l.dropWhile p).drop (l.takeWhile p).length := by rw [List.takeWhile_append_dropWhile]
  rw [h, List.drop_left]
theorem cutN_lt {α : Type} {p : α → Bool} {l : List α} {i : Nat} {x : α} (hi : i < cutN p l) (hx : l[i]? = some x) : p x = true := by
  have h : (l.take (cutN p l))[i]? = some x := by rw [List.getElem?_take, if_pos hi]; exact hx
  rw [take_cutN] at h
  have := List.all_takeWhile (p := p) (l := l)
  exact List.all_eq_true.1 this x (List.mem_of_getElem? h)
theorem cutN_at {α : Type} {p : α → Bool} {l : List α} {x : α} (hx : l[cutN p l]? = some x) : p x = false := by
  have h : (l.drop (cutN p l))[0]? = some x := by rw [List.getElem?_drop]; simpa using hx
  rw [drop_cutN] at h
  cases hd : l.dropWhile p with
  | nil => rw [hd] at h; simp at h
  | cons a t =>
    rw [hd] at h
    simp at h
    subst h
    have := List.head?_dropWhile_not p l
    rw [hd] at this
    simpa using this
/-- Where the property does not come back, it is false from the cut on. -/
theorem cutN_ge {α : Type} {p : α → Bool} {l : List α} (hm : ∀ (i j : Nat) (x y : α), i ≤ j → l[i]? = some x → l[j]? = some y → p y = true → p x = true) {i : Nat} {x : α} (hi : cutN p l ≤ i) (hx : l[i]? = some x) : p x = false := by
  rw [Bool.eq_false_iff]
  intro hp
  have hlt : cutN p l < l.length := Nat.lt_of_le_of_lt hi (List.getElem?_eq_some_iff.1 hx).1
  have hc : l[cutN p l]? = some l[cutN p l] := List.getElem?_eq_getElem hlt
  have := hm _ _ _ _ hi hc hx hp
  rw [cutN_at hc] at this
  cases this
/-- Where the property does not come back, filtering cuts. -/
theorem filter_cut {α : Type} {p : α → Bool} {l : List α} (hm : ∀ (i j : Nat) (x y : α), i ≤ j → l[i]? = some x → l[j]? = some y → p y = true → p x = true) : l.filter p = l.take (cutN p l) ∧ l.filter (fun x => !p x) = l.drop (cutN p l) := by
  have h := List.take_append_drop (cutN p l) l
  have h1 : ∀ x ∈ l.take (cutN p l), p x = true := by
    intro x hx
    obtain ⟨i, hi⟩ := List.mem_iff_getElem?.1 hx
    rw [List.getElem?_take] at hi
    split at hi
    · exact cutN_lt ‹_› hi
    · cases hi
  have h2 : ∀ x ∈ l.drop (cutN p l), p x = false := by
    intro x hx
    obtain ⟨i, hi⟩ := List.mem_iff_getElem?.1 hx
    rw [List.getElem?_drop] at hi
    exact cutN_ge hm (by omega) hi
  constructor
  · conv => lhs; rw [← h]
    rw [List.filter_append, List.filter_eq_self.2 h1, List.filter_eq_nil_iff.2 (by intro x hx; simp [h2 x hx]), List.append_nil]
  · conv => lhs; rw [← h]
    rw [List.filter_append, List.filter_eq_nil_iff.2 (by intro x hx; simp [h1 x hx] : ∀ x ∈ l.take (cutN p l), ¬ (!p x) = true), List.nil_append, List.filter_eq_self.2 (by intro x hx; simp [h2 x hx])]
theorem filter_next {α : Type} {p : α → Bool} {l : List α} {k : Nat} {x : α} (hx : l[k]? = some x) (hp : p x = true) : (l.take (k + 1)).filter p = (l.take k).filter p ++ [x] := by
  rw [List.take_add_one, hx, List.filter_append]
  simp [hp]
theorem filter_skip {α : Type} {p : α → Bool} {l : List α} {k : Nat} {x : α} (hx : l[k]? = some x) (hp : p x = false) : (l.take (k + 1)).filter p = (l.take k).filter p := by
  rw [List.take_add_one, hx, List.filter_append]
  simp [hp]
theorem filter_len {α : Type} (p : α → Bool) (l : List α) (k : Nat) : ((l.take k).filter p).length ≤ l.length :=
  Nat.le_trans (List.length_filter_le _ _) (List.length_take_le' _ _)
theorem fmap_next {α β : Type} {f : α → Option β} {l : List α} {k : Nat} {x : α} {y : β} (hx : l[k]? = some x) (hp : f x = some y) : (l.take (k + 1)).filterMap f = (l.take k).filterMap f ++ [y] := by
  rw [List.take_add_one, hx, List.filterMap_append]
  simp [hp]
theorem fmap_skip {α β : Type} {f : α → Option β} {l : List α} {k : Nat} {x : α} (hx : l[k]? = some x) (hp : f x = none) : (l.take (k + 1)).filterMap f = (l.take k).filterMap f := by
  rw [List.take_add_one, hx, List.filterMap_append]
  simp [hp]
theorem fmap_len {α β : Type} (f : α → Option β) (l : List α) (k : Nat) : ((l.take k).filterMap f).length ≤ l.length :=
  Nat.le_trans (List.length_filterMap_le _ _) (List.length_take_le' _ _)
/-- Two results of a call that are slices of its own, in blocks of their own. -/
def Own2Post {α β : Type} (enc : α → List Value) (k T : Nat) (enc' : β → List Value) (k' T' : Nat) (w : World) (l : List α) (m : List β) (e : Ending) (w' : World) : Prop :=
  ∃ A c A' c', e = .returned (.tuple #[.slice A l.length c, .slice A' m.length c']) ∧ Own enc k T w' w.heap.size (.slice A l.length c) l ∧ Own enc' k' T' w' w.heap.size (.slice A' m.length c') m ∧
    (∀ g g', Value.ownBlock (.slice A l.length c) = some g → Value.ownBlock (.slice A' m.length c') = some g' → g ≠ g') ∧ Below w.heap.size w w'
def OwnBPost {α : Type} (enc : α → List Value) (k T : Nat) (w : World) (l : List α) (b : Bool) (e : Ending) (w' : World) : Prop :=
  ∃ A c, e = .returned (.tuple #[.slice A l.length c, .bool b]) ∧ Own enc k T w' w.heap.size (.slice A l.length c) l ∧ Below w.heap.size w w'
theorem accB {α : Type} {enc : α → List Value} {k T : Nat} {B0 wr : World} {xs : List α} {v : Value} {b b' : Bool} (h : Acc enc k T B0 xs v wr) (hl : xs.length ≤ 1048576) (hb : b = b') : OwnBPost enc k T B0 xs b (.returned (.tuple #[v, .bool b'])) wr := by
  subst hb
  obtain ⟨h1, h2⟩ := h
  have ho : Own enc k T wr B0.heap.size v xs := ⟨hl, h1⟩
  obtain ⟨A, c, rfl⟩ := ho.form
  exact ⟨A, c, rfl, ho, h2⟩
theorem acc2 {α β : Type} {enc : α → List Value} {k T : Nat} {enc' : β → List Value} {k' T' : Nat} {B0 wr : World} {xs : List α} {ys : List β} {v u : Value} (h : Acc enc k T B0 xs v wr) (h' : Acc enc' k' T' B0 ys u wr)
    (hl : xs.length ≤ 1048576) (hl' : ys.length ≤ 1048576) (hd : ∀ g g', v.ownBlock = some g → u.ownBlock = some g' → g ≠ g') : Own2Post enc k T enc' k' T' B0 xs ys (.returned (.tuple #[v, u])) wr := by
  obtain ⟨h1, h2⟩ := h
  obtain ⟨h1', h2'⟩ := h'
  have ho : Own enc k T wr B0.heap.size v xs := ⟨hl, h1⟩
  have ho' : Own enc' k' T' wr B0.heap.size u ys := ⟨hl', h1'⟩
  obtain ⟨A, c, rfl⟩ := ho.form
  obtain ⟨A', c', rfl⟩ := ho'.form
  exact ⟨A, c, A', c', rfl, ho, ho', hd, h2⟩
/-- Two slices of one call that are collected at once: the first one has grown. -/
theorem acc2_push {α β : Type} {enc : α → List Value} {k T : Nat} {enc' : β → List Value} {k' T' : Nat} {B0 wr w1 w' : World} {xs : List α} {ys : List β} {x : α} {v u v' : Value} (h : Acc enc k T B0 xs v wr) (h' : Acc enc' k' T' B0 ys u wr)
    (hd : ∀ g g', v.ownBlock = some g → u.ownBlock = some g' → g ≠ g') (hb1 : Below wr.heap.size wr w1)
    (hown : w'.ownsRow B0.heap.size T k v' (xs.length + 1) (xs.flatMap enc ++ enc x)) (hg : w1.grownBy w' v.ownBlock) (hat : v'.ownBlock = v.ownBlock ∨ v'.ownBlock = some w1.heap.size) :
    Acc enc k T B0 (xs ++ [x]) v' w' ∧ Acc enc' k' T' B0 ys u w' ∧ (∀ g g', v'.ownBlock = some g → u.ownBlock = some g' → g ≠ g') := by
  have hlt := h'.1.lt
  have hu1 := ownsRow_keep h'.1 hb1
  refine ⟨acc_push h hb1 hown hg, ⟨?_, ?_⟩, ?_⟩
  · refine hu1.kept hg ?_
    rcases hu : u.ownBlock with _ | g'
    · exact .inl rfl
    · right
      intro he
      exact hd g' g' he.symm hu rfl
  · exact (acc_push h hb1 hown hg).2
  · intro g g' hg1 hg2
    rcases hat with hat | hat
    · exact hd g g' (hat ▸ hg1) hg2
    · rw [hat] at hg1
      injection hg1 with hg1
      have := (hlt g' hg2).2
      have := hb1.size
      omega
theorem acc2_push' {α β : Type} {enc : α → List Value} {k T : Nat} {enc' : β → List Value} {k' T' : Nat} {B0 wr w1 w' : World} {xs : List α} {ys : List β} {x : α} {v u v' : Value} (h : Acc enc k T B0 xs v wr) (h' : Acc enc' k' T' B0 ys u wr)
    (hd : ∀ g g', u.ownBlock = some g → v.ownBlock = some g' → g ≠ g') (hb1 : Below wr.heap.size wr w1)
    (hown : w'.ownsRow B0.heap.size T k v' (xs.length + 1) (xs.flatMap enc ++ enc x)) (hg : w1.grownBy w' v.ownBlock) (hat : v'.ownBlock = v.ownBlock ∨ v'.ownBlock = some w1.heap.size) :
    Acc enc k T B0 (xs ++ [x]) v' w' ∧ Acc enc' k' T' B0 ys u w' ∧ (∀ g g', u.ownBlock = some g → v'.ownBlock = some g' → g ≠ g') := by
  obtain ⟨h1, h2, h3⟩ := acc2_push h h' (fun g g' h1 h2 => (hd g' g h2 h1).symm) hb1 hown hg hat
  exact ⟨h1, h2, fun g g' h4 h5 => (h3 g' g h5 h4).symm⟩
theorem orow_far {w w' : World} {B e size n : Nat} {v v' : Value} {xs : List Value} (h : w.ownsRow B e size v n xs) (hg : w.grownBy w' v'.ownBlock) (hne : ∀ g g', v.ownBlock = some g → v'.ownBlock = some g' → g ≠ g') : w'.ownsRow B e size v n xs := by
  refine h.kept hg ?_
  rcases hv : v.ownBlock with _ | g
  · exact .inl rfl
  · right
    intro he
    exact hne g g hv he.symm rfl
theorem Own.lenCap {α : Type} {enc : α → List Value} {k T : Nat} {w : World} {B n c : Nat} {A : Option Addr} {l : List α} (h : Own enc k T w B (.slice A n c) l) : n ≤ c := by
  rcases h.2.2 with ⟨hv, hn⟩ | ⟨g, cap, cur, hv, hB, hg, hnc, hcm, hcs, ht⟩
  · injection hv with _ h1 h2; omega
  · injection hv with _ h1 h2; omega
theorem Row.take {α : Type} {enc : α → List Value} {k : Nat} {w : World} {A : Option Addr} {l : List α} (h : Row enc k w A l) (p : Nat) : Row enc k w A (l.take p) := by
  refine ⟨Nat.le_trans (List.length_take_le' _ _) h.1, fun h0 => ?_⟩
  have h0' : 0 < l.length := by rw [List.length_take] at h0; omega
  obtain ⟨b, off, rfl, hlt, hc⟩ := h.2 h0'
  refine ⟨b, off, rfl, hlt, fun i x hx j u hu => hc i x ?_ j u hu⟩
  rw [List.getElem?_take] at hx
  split at hx
  · exact hx
  · cases hx
theorem Row.drop {α : Type} {enc : α → List Value} {k : Nat} {w : World} {b off : Nat} {l : List α} (h : Row enc k w (some ⟨b, off, none⟩) l) (p : Nat) : Row enc k w (some ⟨b, off + p * k, none⟩) (l.drop p) := by
  refine ⟨by rw [List.length_drop]; have := h.1; omega, fun h0 => ?_⟩
  rw [List.length_drop] at h0
  obtain ⟨b', off', e, hlt, hc⟩ := h.2 (by omega)
  injection e with e
  injection e with e1 e2
  subst e1 e2
  refine ⟨b, off + p * k, rfl, hlt, fun i x hx j u hu => ?_⟩
  rw [List.getElem?_drop] at hx
  have := hc _ x hx j u hu
  rwa [Nat.add_mul, ← Nat.add_assoc] at this
theorem Row.none_nil {α : Type} {enc : α → List Value} {k : Nat} {w : World} {l : List α} (h : Row enc k w none l) : l = [] := by
  rcases l with _ | ⟨x, l⟩
  · rfl
  · obtain ⟨b, off, h, _⟩ := h.2 (by simp)
    cases h
/-- Where a slice lies that is cut at its element p. -/
def dropA (A : Option Addr) (c p k : Nat) : Option Addr := if c = p then A else Option.map (fun x => x.add (p * k)) A
theorem Row.dropIf {α : Type} {enc : α → List Value} {k : Nat} {w : World} {A : Option Addr} {l : List α} {c p : Nat} (h : Row enc k w A l) (hc : l.length ≤ c) : Row enc k w (dropA A c p k) (l.drop p) := by
  unfold dropA
  by_cases hp : c = p
  · rw [if_pos hp, List.drop_of_length_le (by omega)]
    exact ⟨by simp, fun h0 => absurd h0 (by simp)⟩
  · rw [if_neg hp]
    rcases A with _ | ⟨b, off, spot⟩
    · have := h.none_nil
      subst this
      exact ⟨by simp, fun h0 => absurd h0 (by simp)⟩
    · by_cases h0 : 0 < l.length
      · obtain ⟨b', off', e, _⟩ := h.2 h0
        injection e with e
        injection e with e1 e2 e3
        subst e1 e2 e3
        have ha : (⟨b, off, none⟩ : Addr).add (p * k) = ⟨b, off + p * k, none⟩ := by
          unfold Addr.add; split
          · rename_i h; rw [h]; rfl
          · rfl
        rw [Option.map_some, ha]
        exact h.drop p
      · have : l = [] := List.eq_nil_of_length_eq_zero (by omega)
        subst this
        exact ⟨by simp, fun h0 => absurd h0 (by simp)⟩
theorem own_rebase {α : Type} {enc : α → List Value} {k T : Nat} {w' : World} {B B' : Nat} {v : Value} {l : List α} (h : Own enc k T w' B' v l) (hB : B ≤ B') : Own enc k T w' B v l :=
  ⟨h.1, h.2.1, h.2.2.imp_right fun ⟨g, cap, cur, h1, h2, h3⟩ => ⟨g, cap, cur, h1, Nat.le_trans hB h2, h3⟩⟩
theorem own_acc {α : Type} {enc : α → List Value} {k T : Nat} {w w' : World} {B' : Nat} {v : Value} {l : List α} (h : Own enc k T w' B' v l) (hB : w.heap.size ≤ B') (hb : Below w.heap.size w w') : Acc enc k T w l v w' := ⟨(own_rebase h hB).2, hb⟩
/-- A callee's slice was made ahead of another's. -/
theorem own_dis {α β : Type} {enc : α → List Value} {k T : Nat} {enc' : β → List Value} {k' T' : Nat} {w1 w2 : World} {B : Nat} {v u : Value} {l : List α} {m : List β} (h : Own enc k T w1 B v l) (h' : Own enc' k' T' w2 w1.heap.size u m) :
    ∀ g g', v.ownBlock = some g → u.ownBlock = some g' → g ≠ g' := fun g g' hg hg' => by
  have := (h.lt g hg).2
  have := (h'.lt g' hg').1
  omega
theorem acc_up {α : Type} {enc : α → List Value} {k T : Nat} {w wA wr : World} {v : Value} {l : List α} (h : Acc enc k T wA l v wr) (hb : Below w.heap.size w wA) : Acc enc k T w l v wr :=
  ⟨⟨h.1.1, h.1.2.imp_right fun ⟨g, cap, cur, h1, h2, h3⟩ => ⟨g, cap, cur, h1, Nat.le_trans hb.size h2, h3⟩⟩, hb.trans (h.2.mono hb.size)⟩
/-- A callee's own slice is the caller's own. -/
theorem post_up {α : Type} {enc : α → List Value} {k T : Nat} {w w1 w' : World} {A : Option Addr} {c : Nat} {l : List α} (hb : Below w.heap.size w w1) (h : Own enc k T w' w1.heap.size (.slice A l.length c) l) (hb' : Below w1.heap.size w1 w') : Acc enc k T w l (.slice A l.length c) w' :=
  ⟨(own_rebase h hb.size).2, hb.trans (hb'.mono hb.size)⟩
def cmpI (a b : Int) : Int := if a < b then -1 else if b < a then 1 else 0
def cmp3L (x0 x1 x2 y0 y1 y2 : Int) : Int := if x0 ≠ y0 then cmpI x0 y0 else if x1 ≠ y1 then cmpI x1 y1 else cmpI x2 y2
def cmp2L (x0 x1 y0 y1 : Int) : Int := if x0 ≠ y0 then cmpI x0 y0 else cmpI x1 y1
def orV (x y z : Int) : Int := if x ≠ 0 then x else if y ≠ 0 then y else z
def orV2 (x y : Int) : Int := if x ≠ 0 then x else y
theorem cmp3_or (t k v t' k' v' : Int) : orV (cmpI t t') (cmpI k k') (cmpI v v') = cmp3L t k v t' k' v' := by
  unfold orV cmp3L cmpI
  (repeat' split) <;> omega
theorem cmp2_or (t k t' k' : Int) : orV2 (cmpI t t') (cmpI k k') = cmp2L t k t' k' := by
  unfold orV2 cmp2L cmpI
  (repeat' split) <;> omega
theorem cmp3_neg (a b c d e f : Int) : cmp3L a b c d e f < 0 ↔ a < d ∨ (a = d ∧ (b < e ∨ (b = e ∧ c < f))) := by
  unfold cmp3L cmpI
  (repeat' split) <;> omega
theorem cmp2_neg (a b d e : Int) : cmp2L a b d e < 0 ↔ a < d ∨ (a = d ∧ b < e) := by
  unfold cmp2L cmpI
  (repeat' split) <;> omega
theorem cmp3_trans (a b c d e f g h i : Int) : cmp3L a b c d e f < 0 → cmp3L d e f g h i < 0 → cmp3L a b c g h i < 0 := by
  simp only [cmp3_neg]; omega
theorem cmp2_trans (a b d e g h : Int) : cmp2L a b d e < 0 → cmp2L d e g h < 0 → cmp2L a b g h < 0 := by
  simp only [cmp2_neg]; omega
theorem cmp3_zero (a b c d e f : Int) : cmp3L a b c d e f = 0 ↔ a = d ∧ b = e ∧ c = f := by
  unfold cmp3L cmpI
  (repeat' split) <;> omega
theorem cmp2_zero (a b d e : Int) : cmp2L a b d e = 0 ↔ a = d ∧ b = e := by
  unfold cmp2L cmpI
  (repeat' split) <;> omega
theorem cmp3_flip (a b c d e f : Int) : cmp3L a b c d e f = - cmp3L d e f a b c := by
  unfold cmp3L
  by_cases h1 : a = d <;> by_cases h2 : b = e <;> simp only [h1, h2, ne_eq, not_true_eq_false, if_false, not_false_eq_true, if_true, eq_comm] <;> unfold cmpI <;> (repeat' split) <;> omega
theorem cmp2_flip (a b d e : Int) : cmp2L a b d e = - cmp2L d e a b := by
  unfold cmp2L cmpI
  (repeat' split) <;> omega
end Go.Proofs.Ytgnogkkdojagcaa
