import Derived.Test.YtgnogkkdojagcaaQb
import Derived.Lib.AppendZerosOnto
import Derived.Laws.OwnMore
namespace Go.Proofs.Ytgnogkkdojagcaa
open Go.RowKit
theorem flat_inv {α : Type} {enc : α → List Value} {k : Nat} (hk : ∀ x : α, (enc x).length = k) (h0 : 0 < k) (l : List α) (j : Nat) (u : Value) (hu : (l.flatMap enc)[j]? = some u) :
    ∃ x, l[j / k]? = some x ∧ (enc x)[j % k]? = some u := by
  have hj : j < l.length * k := by
    have := (List.getElem?_eq_some_iff.1 hu).1
    rwa [flat_len hk] at this
  have hi : j / k < l.length := Nat.div_lt_of_lt_mul (by rw [Nat.mul_comm]; exact hj)
  have hx : l[j / k]? = some l[j / k] := List.getElem?_eq_getElem hi
  have hm : j % k < (enc l[j / k]).length := by rw [hk]; exact Nat.mod_lt _ h0
  have hu' := flat_get hk l (j / k) _ hx (j % k) _ (List.getElem?_eq_getElem hm)
  have e : j / k * k + j % k = j := by rw [Nat.mul_comm]; exact Nat.div_add_mod j k
  rw [e, hu] at hu'
  exact ⟨_, hx, by rw [List.getElem?_eq_getElem hm]; exact hu'.symm⟩
theorem row_flat {α : Type} {enc : α → List Value} {k : Nat} (hk : ∀ x : α, (enc x).length = k) (h0 : 0 < k) {w : World} {b off : Nat} {l : List α} (h : Row enc k w (some ⟨b, off, none⟩) l) :
    ∀ j u, (l.flatMap enc)[j]? = some u → w.cell? ((⟨b, off, none⟩ : Addr).add j) = some u := by
  intro j u hu
  obtain ⟨x, hx, he⟩ := flat_inv hk h0 l j u hu
  have hl : 0 < l.length := Nat.lt_of_le_of_lt (Nat.zero_le _) (List.getElem?_eq_some_iff.1 hx).1
  obtain ⟨b', off', e, _, hc⟩ := h.2 hl
  injection e with e
  injection e with e1 e2
  subst e1 e2
  have := hc _ x hx _ u he
  have e : off + j / k * k + j % k = off + j := by rw [Nat.add_assoc, Nat.mul_comm]; rw [Nat.div_add_mod]
  rw [e] at this
  have ha : (⟨b, off, none⟩ : Addr).add j = ⟨b, off + j, none⟩ := by
    unfold Addr.add; split
    · rename_i h; subst h; rfl
    · rfl
  rw [ha]; exact this
theorem acc_all {α : Type} {enc : α → List Value} {k T : Nat} {B0 wr w' : World} {l : List α} {v v' : Value} (h : Acc enc k T B0 [] v wr) (hown : w'.ownsRow B0.heap.size T k v' l.length (l.flatMap enc)) (hg : wr.grownBy w' v.ownBlock) : Acc enc k T B0 l v' w' :=
  ⟨hown, h.2.trans (below_of_gb hg h.2.size fun g hg' => (h.1.lt g hg').1)⟩
theorem run_nil_src {P : Program} (w : World) (base : Nat) (t ty e : TypeId) (i : TypeInfo) (size : Nat) (ht : P.underlying t = some (.slice e)) (hi : P.info? e = some i)
    (v : Value) (n : Nat) (xs : List Value) (hown : w.ownsRow base e size v n xs) (c : Nat) : (Builtin.append_ #[t, t] ty #[v, .slice none 0 c]).run P w = .ok v w := by
  rcases hown.2 with ⟨rfl, rfl⟩ | ⟨g, cap, cur, rfl, _, _, hnc, _⟩
  · simp [Builtin.append_, run_underlying ht, sizeOf, typeInfo, hi, Builtin.lenOf, Builtin.firstCells]
  · simp [Builtin.append_, run_underlying ht, sizeOf, typeInfo, hi, Builtin.lenOf, Builtin.firstCells, hnc, storeCells]
/-- append of all elements of a slice (nil or not) to what has been collected. -/
theorem wpList_append_row {P : Program} {ops : Array Oper} {rest : List Oper} {o : Oper} {a : Act} {Q : Exit → Act → World → Prop} {B0 wr : World} {α : Type} {enc : α → List Value} {k T : Nat} (hgd : o.guard = none) (s x : Operand) (t : TypeId)
    (ho : o.op = .call { callee := .builtin .append, args := #[s, x], argTypes := #[t, t] }) (i : TypeInfo) (z : Value) (bytes : Nat) (ht : P.underlying t = some (.slice T)) (hi : P.info? T = some i) (hz : i.zero = some z)
    (hsize : i.size = k) (hby : i.bytes = bytes) (hzs : z.cells.size = k) (hsz : 0 < k) (hb : bytes ≤ 1000)
    (v : Value) (xs : List α) (hs : a.eval s = v) (hacc : Acc enc k T B0 xs v wr) (A : Option Addr) (n c : Nat) (l : List α) (hx : a.eval x = .slice A n c) (hn : n = l.length) (hrow : Row enc k wr A l)
    (hk : ∀ x : α, (enc x).length = k) (h1 : ∀ x : α, ∀ u ∈ enc x, u.oneCell' = true) (hlen : xs.length + l.length ≤ 1048576)
    (h : ∀ v' w', Acc enc k T B0 (xs ++ l) v' w' → wr.grownBy w' v.ownBlock → (v'.ownBlock = v.ownBlock ∨ v'.ownBlock = some wr.heap.size) → wpList P ops Q rest (a.put o.dst v') w') :
    wpList P ops Q (o :: rest) a wr := by
  subst hn
  rcases A with _ | ad
  · have hl := hrow.none_nil
    subst hl
    refine wpList_plain hgd fun K hK => ?_
    have hrun := run_nil_src (P := P) wr B0.heap.size t o.type T i k ht hi v xs.length (xs.flatMap enc) hacc.1 c
    unfold Oper.wp execOp
    simp only [ho, resolve, invoke, builtin, Sem.run_bind, Sem.run_pure, Result.andThen_ok, List.map_toArray, List.map_cons, List.map_nil, hs, hx, List.length_nil, hrun]
    exact hK _ _ (h v wr (by simpa using hacc) (World.grownBy.refl wr _) (.inl rfl))
  · refine wpList_append_own_at wr hgd s x t ho B0.heap.size T i z k bytes ht hi hz hsize hby hzs hsz v xs.length (xs.flatMap enc) hs hacc.1 ad l.length c (l.flatMap enc) hx (flat_len hk l) ?_ ?_ (by unfold maxLen; omega) ?_ hacc.2.size ?_
    · intro j u hu
      obtain ⟨y, hy, _⟩ := flat_inv hk hsz l j u hu
      obtain ⟨b, off, e, _, _⟩ := hrow.2 (Nat.lt_of_le_of_lt (Nat.zero_le _) (List.getElem?_eq_some_iff.1 hy).1)
      injection e with e
      subst e
      exact row_flat hk hsz hrow j u hu
    · intro u hu
      rw [List.mem_flatMap] at hu
      obtain ⟨y, _, hy⟩ := hu
      exact h1 y u hy
    · calc (xs.length + l.length) * bytes ≤ 1048576 * 1000 := Nat.mul_le_mul hlen hb
        _ ≤ 140737488355328 := by omega
    · intro v' w' hown hg _ hat
      refine h v' w' ⟨by simpa using hown, hacc.2.trans (below_of_gb hg hacc.2.size fun g hg' => (hacc.1.lt g hg').1)⟩ hg hat
/-- append of one element, as a step of a region that draws its order. -/
theorem step_append_acc {P : Program} {ops : Array Oper} {o : Oper} {a : Act} {w : World} {K : Act → World → Prop} {Q : Exit → Act → World → Prop} {E : Prop} {B0 : World} {α : Type} {enc : α → List Value} {k T : Nat} (hgd : o.guard = none) (s x : Operand) (t : TypeId)
    (ho : o.op = .call { callee := .builtin .append, args := #[s, x], argTypes := #[t, t] }) (i : TypeInfo) (z : Value) (bytes : Nat) (ht : P.underlying t = some (.slice T)) (hi : P.info? T = some i) (hz : i.zero = some z)
    (hsize : i.size = k) (hby : i.bytes = bytes) (hzs : z.cells.size = k) (hsz : 0 < k) (hb : bytes ≤ 1000)
    (v : Value) (xs : List α) (hs : a.eval s = v) (hacc : Acc enc k T B0 xs v w) (ad : Addr) (c : Nat) (y : α) (hx : a.eval x = .slice (some ad) 1 c)
    (hnews : ∀ j u, (enc y)[j]? = some u → w.cell? (ad.add j) = some u) (hk : (enc y).length = k) (h1 : ∀ u ∈ enc y, u.oneCell' = true) (hlen : xs.length + 1 ≤ 1048576)
    (h : ∀ v' w', Acc enc k T B0 (xs ++ [y]) v' w' → w.grownBy w' v.ownBlock → (v'.ownBlock = v.ownBlock ∨ v'.ownBlock = some w.heap.size) → K (a.put o.dst v') w') :
    if Region.wanted o (yielded ops a.tmps) = true then Oper.wp P o a w K Q else E := by
  have hw : Region.wanted o (yielded ops a.tmps) = true := by simp [Region.wanted, hgd]
  rw [if_pos hw]
  obtain ⟨v', w', hr, h2, h3, h4, h5⟩ := run_append_own_at (P := P) w B0.heap.size t o.type T i z k bytes ht hi hz hsize hby hzs hsz v xs.length (xs.flatMap enc) hacc.1 ad 1 c (enc y) (by rw [hk]; omega) hnews h1 (by unfold maxLen; omega)
    (by calc (xs.length + 1) * bytes ≤ 1048576 * 1000 := Nat.mul_le_mul hlen hb
          _ ≤ 140737488355328 := by omega) hacc.2.size
  unfold Oper.wp execOp
  simp only [ho, resolve, invoke, builtin, Sem.run_bind, Sem.run_pure, Result.andThen_ok, List.map_toArray, List.map_cons, List.map_nil, hs, hx, hr]
  exact h _ _ (acc_push hacc (Below.refl _ _) h2 h3) h3 h5
theorem far_cell {w w' : World} {v : Value} {g o : Nat} {u : Value} (hg : w.grownBy w' v.ownBlock) (hne : ∀ g', v.ownBlock = some g' → g' ≠ g) (hlt : g < w.heap.size) (h : w.cell? ⟨g, o, none⟩ = some u) : w'.cell? ⟨g, o, none⟩ = some u :=
  (World.cell?_of_block (hg.block g hlt (fun e => hne g e.symm rfl))).trans h
theorem far_blk {v v' : Value} {g H : Nat} (hat : v'.ownBlock = v.ownBlock ∨ v'.ownBlock = some H) (hne : ∀ g', v.ownBlock = some g' → g' ≠ g) (hlt : g < H) : ∀ g', v'.ownBlock = some g' → g' ≠ g := fun g' h => by
  rcases hat with hat | hat
  · exact hne g' (hat ▸ h)
  · rw [hat] at h
    injection h with h
    omega
theorem wpList_append_eq {P : Program} {ops : Array Oper} {rest : List Oper} {o : Oper} {a : Act} {Q : Exit → Act → World → Prop} {w : World} (hgd : o.guard = none) (s x : Operand) (t tn : TypeId)
    (ho : o.op = .call { callee := .builtin .append, args := #[s, x], argTypes := #[t, tn] }) (v u : Value) (hs : a.eval s = v) (hx : a.eval x = u) (v' : Value) (w' : World)
    (hrun : (Builtin.append_ #[t, tn] o.type #[v, u]).run P w = .ok v' w') (h : wpList P ops Q rest (a.put o.dst v') w') : wpList P ops Q (o :: rest) a w := by
  refine wpList_plain hgd fun K hK => ?_
  unfold Oper.wp execOp
  simp only [ho, resolve, invoke, builtin, Sem.run_bind, Sem.run_pure, Result.andThen_ok, List.map_toArray, List.map_cons, List.map_nil, hs, hx, hrun]
  exact hK _ _ h
def GrowPost {α : Type} (enc : α → List Value) (k T : Nat) (w : World) (e : Ending) (w' : World) : Prop := ∃ v, e = .returned v ∧ Acc enc k T w ([] : List α) v w'
end Go.Proofs.Ytgnogkkdojagcaa
