import Derived.Test.YtcpjidbinhfapabChU
import Derived.Test.YtcpjidbinhfapabAnyIt
import Derived.Deep.DeepCutAuto
import Derived.Deep.RegionHeld3
namespace Go.Proofs.Ytcpjidbinhfapab
open Go.RowKit
theorem sd_ok {x y : Int} {l : List ItemR} {e : ItemR} (h : (sd x y l e).2.2.2 = true) : chB (sd x y l e).1 (sd x y l e).2.1 (sd x y l e).2.2.1 = true := by
  unfold sd at h ⊢
  split at h
  · rename_i hv
    split at h
    · cases h
    · rename_i hy
      rw [if_pos hv, if_neg hy]
      obtain ⟨a, b, c, d, f⟩ := chB_parts hv.1
      show chB x (y - 1) (l ++ [e]) = true
      unfold chB
      rw [decide_eq_true (show 1 ≤ x ∧ x ≤ 8 from ⟨a, b⟩), decide_eq_true (show 0 ≤ y - 1 ∧ y - 1 ≤ x - ((l ++ [e]).length : Int) by simp; omega), List.all_append, f]
      simp [hv.2]
  · cases h
theorem gc_ok {x y : Int} {l : List ItemR} (h : (gc x y l).2.2.2 = true) : chB (gc x y l).1 (gc x y l).2.1 (gc x y l).2.2.1 = true := by
  unfold gc at h ⊢
  split at h
  · rename_i hv
    split at h
    · cases h
    · rename_i hy
      rw [if_pos hv, if_neg hy]
      obtain ⟨a, b, c, d, f⟩ := chB_parts hv
      show chB x (y + 1) l = true
      unfold chB
      rw [decide_eq_true (show 1 ≤ x ∧ x ≤ 8 from ⟨a, b⟩), decide_eq_true (show 0 ≤ y + 1 ∧ y + 1 ≤ x - (l.length : Int) by omega), f]
      rfl
  · cases h
theorem tk_ok {x y : Int} {l : List ItemR} (h : tkK x y l = true) : chB (tkX x y l) (tkY x y l) (tkL x y l) = true := by
  unfold tkK at h
  rw [Bool.and_eq_true] at h
  unfold tkX tkY tkL
  rw [if_pos h.1, if_pos h.1, if_pos h.1]
  obtain ⟨a, b, c, d, f⟩ := chB_parts h.1
  unfold chB
  have hl : (l.tail.length : Int) ≤ (l.length : Int) := by simp
  rw [decide_eq_true (show 1 ≤ x ∧ x ≤ 8 from ⟨a, b⟩), decide_eq_true (show 0 ≤ y ∧ y ≤ x - (l.tail.length : Int) by omega)]
  have : l.tail.all itB = true := by
    rcases l with _ | ⟨u, l⟩
    · rfl
    · rw [List.all_cons, Bool.and_eq_true] at f; exact f.2
  rw [this]
  rfl
theorem new_ok {n : Int} (h : 1 ≤ n ∧ n ≤ 8) : chB (cnF n) (cnF n) [] = true := by
  have : cnF n = n := by unfold cnF; rw [if_pos h]
  rw [this]
  unfold chB
  rw [decide_eq_true h, decide_eq_true (show 0 ≤ n ∧ n ≤ n - (([] : List ItemR).length : Int) by simp; omega)]
  rfl
/-- The state of the draw: the reader at p, the channel in box G, valid, its items in memory of the call's own. -/
def ChSt (w wr : World) (R p G : Nat) (x y : Int) (A : Option Addr) (c : Nat) (l : List ItemR) : Prop :=
  Rd wr R p ∧ Gr w wr R ∧ Bx wr G (.int .i64 x) (.int .i64 y) (.slice A l.length c) ∧ chB x y l = true ∧ Own ItemR.enc 2 32 wr (w.heap.size + 1) (.slice A l.length c) l ∧ (∀ g, Value.ownBlock (.slice A l.length c) = some g → g ≠ G) ∧ Bx wr w.heap.size (.int .i64 0) (.int .i64 0) (.slice none 0 0)
theorem rd_below {w w' : World} {R p : Nat} (h : Rd w R p) (hb : Below w.heap.size w w') : Rd w' R p := rd_keep h fun k hk => hb.block k (by have := rd_lt h; omega)
theorem ChSt.keep {w wr w' : World} {R p G : Nat} {x y : Int} {A : Option Addr} {c : Nat} {l : List ItemR} (h : ChSt w wr R p G x y A c l) (hb : Below wr.heap.size wr w') : ChSt w w' R p G x y A c l :=
  ⟨rd_below h.1 hb, gr_below h.2.1 hb, h.2.2.1.keep hb, h.2.2.2.1, h.2.2.2.2.1.keep hb, h.2.2.2.2.2.1, h.2.2.2.2.2.2.keep hb⟩
theorem own_gr {α : Type} {enc : α → List Value} {k T B : Nat} {w w' : World} {v : Value} {l : List α} {R : Nat} (h : Own enc k T w B v l) (hg : Gr w w' R) (hR : R < B) : Own enc k T w' B v l :=
  h.kept hg (by
    rcases hv : v.ownBlock with _ | g
    · exact .inl rfl
    · exact .inr (fun e => by injection e with e; have := (h.lt g hv).1; omega))
theorem ChSt.pick {w wr w' : World} {R p p' G : Nat} {x y : Int} {A : Option Addr} {c : Nat} {l : List ItemR} (h : ChSt w wr R p G x y A c l) (hr : Rd w' R p') (hg : Gr wr w' R) (hR : R < w.heap.size) (hG : R ≠ G) : ChSt w w' R p' G x y A c l :=
  ⟨hr, gr_trans h.2.1 hg, h.2.2.1.far hg (fun e => hG (by injection e with e; exact e.symm)), h.2.2.2.1, own_gr h.2.2.2.2.1 hg (by omega), h.2.2.2.2.2.1, h.2.2.2.2.2.2.far hg (fun e => by injection e with e; omega)⟩
/-- A candidate (a valid channel in memory of the call's own) is stored into the box. -/
theorem ChSt.put {w wr : World} {R p G : Nat} {x y x' y' : Int} {A A' : Option Addr} {c c' : Nat} {l l' : List ItemR} (h : ChSt w wr R p G x y A c l) (hR : R < G) (hG : w.heap.size < G) (hv : chB x' y' l' = true) (o : Own ItemR.enc 2 32 wr (w.heap.size + 1) (.slice A' l'.length c') l')
    (q : ∀ g, Value.ownBlock (.slice A' l'.length c') = some g → g ≠ G) : ChSt w (((wr.setCell ⟨G, 0, none⟩ (.int .i64 x')).setCell ⟨G, 1, none⟩ (.int .i64 y')).setCell ⟨G, 2, none⟩ (.slice A' l'.length c')) R p G x' y' A' c' l' := by
  obtain ⟨h1, h2, h3, h4, h5, h6, h7⟩ := h
  exact ⟨rd_setCell (a := ⟨G, 2, none⟩) (rd_setCell (a := ⟨G, 1, none⟩) (rd_setCell (a := ⟨G, 0, none⟩) h1 hR _) hR _) hR _,
    gr_setCell (p := ⟨G, 2, none⟩) (gr_setCell (p := ⟨G, 1, none⟩) (gr_setCell (p := ⟨G, 0, none⟩) h2 (Nat.le_of_lt hG) _) (Nat.le_of_lt hG) _) (Nat.le_of_lt hG) _,
    ((h3.set0 _).set1 _).set2 _, hv, ((o.set (p := ⟨G, 0, none⟩) q _).set (p := ⟨G, 1, none⟩) q _).set (p := ⟨G, 2, none⟩) q _, q,
    ((h7.set_far (p := ⟨G, 0, none⟩) (by simp; omega) _).set_far (p := ⟨G, 1, none⟩) (by simp; omega) _).set_far (p := ⟨G, 2, none⟩) (by simp; omega) _⟩
end Go.Proofs.Ytcpjidbinhfapab
