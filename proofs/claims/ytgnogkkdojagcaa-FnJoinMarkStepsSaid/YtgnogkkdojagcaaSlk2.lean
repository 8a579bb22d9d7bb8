import Derived.Test.YtgnogkkdojagcaaSlk
namespace Go.Proofs.Ytgnogkkdojagcaa
open Go.RowKit
theorem run_make_rowN {P : Program} (t e : TypeId) (i : TypeInfo) (z : Value) (ht : P.underlying t = some (.slice e)) (hi : P.info? e = some i) (hz : i.zero = some z)
    (kl kc : IntKind) (n c : Nat) (hnc : n ≤ c) (hbytes : i.bytes * c ≤ 281474976710656) (h63 : c ≤ 9223372036854775807) (w : World) :
    (Instr.makeSlice t (.int kl (n : Int)) (.int kc (c : Int))).run P w = .ok (.slice (some ⟨w.heap.size, 0, none⟩) n c) (w.alloc (.cells (madeCells z.cells (c * i.size)) e)) := by
  have hb : (i.bytes : Int) * (c : Int) ≤ 281474976710656 := by
    have h : ((i.bytes * c : Nat) : Int) ≤ 281474976710656 := by omega
    rwa [Int.natCast_mul] at h
  have hr := run_make (P := P) w t e i z ht hi hz kl kc n c (by omega) (by omega) hb (by omega)
  simp only [Int.toNat_natCast] at hr
  exact hr
theorem take_set_next {β : Type} {xs : List β} {p : Nat} {pre : List β} (h : xs.take p = pre) (hp : p < xs.length) (u : β) : (xs.set p u).take (p + 1) = pre ++ [u] := by
  rw [List.take_succ_eq_append_getElem (by simpa using hp), List.take_set_of_le (Nat.le_refl p), h]
  simp
/-- The marks k, k + 1, .. of m cells. -/
def marks (k : Int) (m : Nat) : List Value := (List.range m).map fun (q : Nat) => Value.int .i64 (k + (q : Int))
theorem marks_succ (k : Int) (m : Nat) : marks k (m + 1) = marks k m ++ [.int .i64 (k + (m : Int))] := by unfold marks; rw [List.range_succ, List.map_append]; rfl
theorem marks_len (k : Int) (m : Nat) : (marks k m).length = m := by simp [marks]
theorem marks_get (k : Int) (m q : Nat) (h : q < m) : (marks k m)[q]? = some (.int .i64 (k + (q : Int))) := by simp [marks, h]
def OwnPost {α : Type} (enc : α → List Value) (k T : Nat) (w : World) (l : List α) (e : Ending) (w' : World) : Prop :=
  ∃ A c, e = .returned (.slice A l.length c) ∧ Own enc k T w' w.heap.size (.slice A l.length c) l ∧ Below w.heap.size w w'
/-- The state of a fresh row of n elements of which the first j have been stored. -/
def Filled {α : Type} (enc : α → List Value) (k T : Nat) (w : World) (n : Nat) (l : List α) (j : Nat) (wr : World) : Prop :=
  ∃ xs, wr.ownsRow w.heap.size T k (.slice (some ⟨w.heap.size, 0, none⟩) n n) n xs ∧ xs.take (j * k) = (l.take j).flatMap enc ∧ Below w.heap.size w wr
theorem filled_start {α : Type} (enc : α → List Value) (k T : Nat) (w : World) (n : Nat) (l : List α) (cs : Array Value) (hs : cs.size = n * k) (hm : n ≤ maxLen) : Filled enc k T w n l 0 (w.alloc (.cells cs T)) :=
  ⟨cs.toList, World.ownsRow_lit w cs n (Nat.le_refl _) hm hs, by simp, (Below.refl _ _).alloc (Nat.le_refl _) _⟩
theorem filled_end {α : Type} {enc : α → List Value} {k T : Nat} {w wr : World} {l : List α} (hk : ∀ x : α, (enc x).length = k) (hl : l.length ≤ 1048576) (h : Filled enc k T w l.length l l.length wr) :
    Own enc k T wr w.heap.size (.slice (some ⟨w.heap.size, 0, none⟩) l.length l.length) l ∧ Below w.heap.size w wr := by
  obtain ⟨xs, ho, ht, hb⟩ := h
  have hlen := ho.1
  rw [List.take_of_length_le (by omega), List.take_of_length_le (Nat.le_refl _)] at ht
  subst ht
  exact ⟨⟨hl, ho⟩, hb⟩
theorem below_drewN {B : Nat} {a w : World} (h : Below B a w) (n : Nat) : Below B a (w.drewN n) := ⟨h.os, h.tape, h.output, h.size, h.block⟩
theorem ownsRow_keep {w w' : World} {B e size n : Nat} {v : Value} {xs : List Value} (h : w.ownsRow B e size v n xs) (hb : Below w.heap.size w w') : w'.ownsRow B e size v n xs := h.kept (gb_of_below hb) (by cases v.ownBlock <;> simp)
/-- What has been collected so far: v owns the elements xs, nothing older than B0 has changed. -/
def Acc {α : Type} (enc : α → List Value) (k T : Nat) (B0 : World) (xs : List α) (v : Value) (wr : World) : Prop :=
  wr.ownsRow B0.heap.size T k v xs.length (xs.flatMap enc) ∧ Below B0.heap.size B0 wr
theorem acc_none {α : Type} (enc : α → List Value) (k T : Nat) {B0 wr : World} (hb : Below B0.heap.size B0 wr) : Acc enc k T B0 [] (.slice none 0 0) wr := ⟨World.ownsRow_nil _ _ _ _, hb⟩
theorem acc_made {α : Type} (enc : α → List Value) (k T : Nat) {B0 wr : World} (hb : Below B0.heap.size B0 wr) : Acc enc k T B0 [] (.slice (some ⟨wr.heap.size, 0, none⟩) 0 0) (wr.alloc (.cells #[] T)) :=
  ⟨by simpa using World.ownsRow_lit wr (base := B0.heap.size) (e := T) (size := k) #[] 0 hb.size (by simp [maxLen]) (by simp), hb.alloc hb.size _⟩
theorem acc_push {α : Type} {enc : α → List Value} {k T : Nat} {B0 wr w1 w' : World} {xs : List α} {x : α} {v v' : Value} (h : Acc enc k T B0 xs v wr) (hb1 : Below wr.heap.size wr w1)
    (hown : w'.ownsRow B0.heap.size T k v' (xs.length + 1) (xs.flatMap enc ++ enc x)) (hg : w1.grownBy w' v.ownBlock) : Acc enc k T B0 (xs ++ [x]) v' w' := by
  have hB1 := h.2.trans (hb1.mono h.2.size)
  refine ⟨by simpa using hown, hB1.trans (below_of_gb hg hB1.size fun g hg' => (h.1.lt g hg').1)⟩
theorem acc_keep {α : Type} {enc : α → List Value} {k T : Nat} {B0 wr w1 : World} {xs : List α} {v : Value} (h : Acc enc k T B0 xs v wr) (hb1 : Below wr.heap.size wr w1) : Acc enc k T B0 xs v w1 :=
  ⟨ownsRow_keep h.1 hb1, h.2.trans (hb1.mono h.2.size)⟩
theorem acc_post {α : Type} {enc : α → List Value} {k T : Nat} {B0 wr : World} {xs : List α} {v : Value} (h : Acc enc k T B0 xs v wr) (hl : xs.length ≤ 1048576) : OwnPost enc k T B0 xs (.returned v) wr := by
  obtain ⟨h1, h2⟩ := h
  have ho : Own enc k T wr B0.heap.size v xs := ⟨hl, h1⟩
  obtain ⟨A, c, rfl⟩ := ho.form
  exact ⟨A, c, rfl, ho, h2⟩
theorem all_next {α : Type} {p : α → Bool} {l : List α} {k : Nat} {x : α} (h : (l.take k).all p = true) (hx : l[k]? = some x) (hp : p x = true) : (l.take (k + 1)).all p = true := by
  rw [List.take_add_one, hx, List.all_append, h]
  simp [hp]
theorem all_stop {α : Type} {p : α → Bool} {l : List α} {k : Nat} {x : α} (hx : l[k]? = some x) (hp : p x = false) : l.all p = false := by
  rw [List.all_eq_false]
  exact ⟨x, List.mem_of_getElem? hx, by simp [hp]⟩
/-- The indices of the elements that have a property, from i on. -/
def idxs {α : Type} (p : α → Bool) : List α → Nat → List Int
  | [], _ => []
  | x :: l, i => if p x then (i : Int) :: idxs p l (i + 1) else idxs p l (i + 1)
theorem idxs_append {α : Type} (p : α → Bool) (l : List α) (x : α) (i : Nat) : idxs p (l ++ [x]) i = idxs p l i ++ (if p x then [((i + l.length : Nat) : Int)] else []) := by
  induction l generalizing i with
  | nil => simp [idxs]
  | cons y l ih =>
    simp only [List.cons_append, idxs, ih, List.length_cons]
    have e : i + 1 + l.length = i + (l.length + 1) := by omega
    rw [e]
    split <;> simp
theorem idxs_len {α : Type} (p : α → Bool) (l : List α) (i : Nat) : (idxs p l i).length ≤ l.length := by
  induction l generalizing i with
  | nil => simp [idxs]
  | cons y l ih =>
    simp only [idxs]
    have := ih (i + 1)
    split <;> simp <;> omega
theorem idxs_next {α : Type} {p : α → Bool} {l : List α} {k : Nat} {x : α} (hx : l[k]? = some x) (hp : p x = true) : idxs p (l.take (k + 1)) 0 = idxs p (l.take k) 0 ++ [(k : Int)] := by
  have hk : k < l.length := (List.getElem?_eq_some_iff.1 hx).1
  rw [List.take_add_one, hx]
  simp only [Option.toList, idxs_append, hp, if_true]
  rw [List.length_take]
  congr 2
  omega
theorem idxs_skip {α : Type} {p : α → Bool} {l : List α} {k : Nat} {x : α} (hx : l[k]? = some x) (hp : p x = false) : idxs p (l.take (k + 1)) 0 = idxs p (l.take k) 0 := by
  rw [List.take_add_one, hx]
  simp [Option.toList, idxs_append, hp]
theorem val_int {a b : Int} (h : a = b) : Value.int .i64 a = .int .i64 b := by rw [h]
theorem take_next {α : Type} {l m : List α} {k : Nat} (hl : k < l.length) (hm : k < m.length) (h : l.take k = m.take k) (hx : l[k] = m[k]) : l.take (k + 1) = m.take (k + 1) := by
  rw [List.take_succ_eq_append_getElem hl, List.take_succ_eq_append_getElem hm, h, hx]
/-- The state of a row of N elements of n cells of which the first j have been marked. -/
def Marked (n T : Nat) (w : World) (B : Nat) (v : Value) (N : Nat) (k0 : Int) (j : Nat) (wr : World) : Prop :=
  ∃ xs, wr.ownsRow B T n v N xs ∧ xs.take (j * n) = marks k0 (j * n) ∧ w.grownBy wr v.ownBlock
def MarkPost (n T : Nat) (w : World) (B : Nat) (v : Value) (N : Nat) (k0 : Int) (e : Ending) (w' : World) : Prop :=
  e = .returned (.int .i64 (k0 + (N : Int) * (n : Int))) ∧ w'.ownsRow B T n v N (marks k0 (N * n)) ∧ w.grownBy w' v.ownBlock
theorem marked_end {n T : Nat} {w wr : World} {B : Nat} {v : Value} {N : Nat} {k0 : Int} (h : Marked n T w B v N k0 N wr) : wr.ownsRow B T n v N (marks k0 (N * n)) ∧ w.grownBy wr v.ownBlock := by
  obtain ⟨xs, ho, ht, hg⟩ := h
  rw [List.take_of_length_le (by rw [ho.1]; exact Nat.le_refl _)] at ht
  subst ht
  exact ⟨ho, hg⟩
theorem gb_trans {a b c : World} {row : Option Nat} (h : a.grownBy b row) (k : b.grownBy c row) : a.grownBy c row :=
  ⟨k.os.trans h.os, k.tape.trans h.tape, k.output.trans h.output, Nat.le_trans h.size k.size, fun i hi hne => (k.block i (Nat.lt_of_lt_of_le hi h.size) hne).trans (h.block i hi hne)⟩
end Go.Proofs.Ytgnogkkdojagcaa
