import Derived.Test.YtehedhkadjidpaaEv
import Derived.Test.YtehedhkadjidpaaTyInt
import Derived.Test.YtehedhkadjidpaaInR
namespace Go.Proofs.Ytehedhkadjidpaa
open Go.RowKit
def wm (b h : Int) : Int := if -1 < h - b - 1 then h - b - 1 else -1
def mx (a b : Int) : Int := if a < b then b else a
theorem specMT_any (b h : Int) (w : World) (b0 : 0 ≤ b) (b1 : b ≤ 999) (h0 : -1 ≤ h) (h1 : h ≤ 999) : Calls Try.prog 90 #[.agg #[.int .i64 b, .int .i64 h]] w
    fun e w' => e = .returned (.int .i64 (wm b h)) ∧ Below w.heap.size w w' := by
  go_enter Try.func90, Try.ntmps90
  go_wp2
  all_goals go_returns
  all_goals refine ⟨ret_int ?_, by go_grown⟩
  all_goals (unfold wm; (repeat' split) <;> omega)
theorem implWm_any (b h : Int) (w : World) (b0 : 0 ≤ b) (b1 : b ≤ 999) (h0 : -1 ≤ h) (h1 : h ≤ 999) : Calls Try.prog 72 #[.agg #[.int .i64 b, .int .i64 h]] w
    fun e w' => e = .returned (.int .i64 (wm b h)) ∧ Below w.heap.size w w' := by
  go_enter Try.func72, Try.ntmps72
  go_wp2
  all_goals go_returns
  all_goals refine ⟨ret_int ?_, by go_grown⟩
  all_goals (unfold wm; (repeat' split) <;> omega)
theorem ret_agg2 {a b a' b' : Int} (h : a = a') (h' : b = b') : Ending.returned (.agg #[.int .i64 a, .int .i64 b]) = .returned (.agg #[.int .i64 a', .int .i64 b']) := by rw [h, h']
theorem implSee_any (b g t : Int) (w : World) : Calls Try.prog 71 #[.agg #[.int .i64 b, .int .i64 g], .int .i64 t] w
    fun e w' => e = .returned (.agg #[.int .i64 b, .int .i64 (mx g t)]) ∧ Below w.heap.size w w' := by
  go_enter Try.func71, Try.ntmps71
  go_wp2
  all_goals go_returns
  all_goals refine ⟨ret_agg2 rfl ?_, by go_grown⟩
  all_goals (unfold mx; split <;> omega)
def marksGo (b : Int) : Int → List EventR → List Int
  | _, [] => []
  | g, x :: l => wm b (mx g x.a0) :: marksGo b (mx g x.a0) l
def topT (g : Int) (l : List EventR) : Int := l.foldl (fun a x => mx a x.a0) g
theorem marksGo_append (b g : Int) (l : List EventR) (x : EventR) : marksGo b g (l ++ [x]) = marksGo b g l ++ [wm b (mx (topT g l) x.a0)] := by
  induction l generalizing g with
  | nil => simp [marksGo, topT]
  | cons y l ih => simp only [List.cons_append, marksGo, ih]; rfl
theorem marksGo_len (b g : Int) (l : List EventR) : (marksGo b g l).length = l.length := by
  induction l generalizing g with
  | nil => rfl
  | cons y l ih => simp [marksGo, ih]
theorem marks_next {b : Int} {l : List EventR} {k : Nat} {x : EventR} (hx : l[k]? = some x) : marksGo b (-1) (l.take (k + 1)) = marksGo b (-1) (l.take k) ++ [wm b (mx (topT (-1) (l.take k)) x.a0)] := by
  rw [List.take_add_one, hx]; exact marksGo_append _ _ _ _
theorem top_next {l : List EventR} {k : Nat} {x : EventR} (hx : l[k]? = some x) : topT (-1) (l.take (k + 1)) = mx (topT (-1) (l.take k)) x.a0 := by
  rw [List.take_add_one, hx]; simp [topT]
theorem ev_bounds {l : List EventR} {k : Nat} {x : EventR} (h : vEvs l = true) (hx : l[k]? = some x) : 0 ≤ x.a0 ∧ x.a0 ≤ 999 ∧ 0 ≤ x.a1 ∧ x.a1 ≤ 15 ∧ 0 ≤ x.a2 ∧ x.a2 ≤ 99 := by
  unfold vEvs at h
  rw [Bool.and_eq_true, List.all_eq_true] at h
  have := h.2 x (List.mem_of_getElem? hx)
  unfold vEvB at this
  exact of_decide_eq_true this
theorem top_bounds {l : List EventR} (h : ∀ x ∈ l, x.a0 ≤ 999) (g : Int) (g0 : -1 ≤ g) (g1 : g ≤ 999) : -1 ≤ topT g l ∧ topT g l ≤ 999 := by
  induction l generalizing g with
  | nil => exact ⟨g0, g1⟩
  | cons y l ih =>
    have hy := h y (by simp)
    have hm : -1 ≤ mx g y.a0 ∧ mx g y.a0 ≤ 999 := by unfold mx; split <;> omega
    exact ih (fun x hx => h x (by simp [hx])) (mx g y.a0) hm.1 hm.2
theorem top_ok {l : List EventR} (h : vEvs l = true) (k : Nat) : -1 ≤ topT (-1) (l.take k) ∧ topT (-1) (l.take k) ≤ 999 := by
  refine top_bounds (fun x hx => ?_) (-1) (by omega) (by omega)
  obtain ⟨i, hi, hxi⟩ := List.mem_iff_getElem.1 (List.mem_of_mem_take hx)
  exact (ev_bounds h (k := i) (by rw [List.getElem?_eq_getElem hi, hxi])).2.1
/-- Block g is just these cells. -/
def Blk (w : World) (g t : Nat) (cs : Array Value) : Prop := w.heap[g]? = some (.cells cs t (0, 0))
theorem own_ne {w : World} {B e size n g t : Nat} {v : Value} {xs : List Value} {cs : Array Value} (h : w.ownsRow B e size v n xs) (hg : Blk w g t cs) (hne : e ≠ t) : v.ownBlock ≠ some g := by
  rcases h.2 with ⟨rfl, _⟩ | ⟨g', cap, cur, rfl, _, hh, _⟩
  · simp [Value.ownBlock]
  · intro he
    have : g' = g := by simpa [Value.ownBlock] using he
    subst this
    unfold Blk at hg
    rw [hg] at hh
    injection hh with hh
    injection hh with _ ht
    exact hne ht.symm
theorem blk_gb {w w' : World} {g t : Nat} {cs : Array Value} {row : Option Nat} (h : Blk w g t cs) (hg : w.grownBy w' row) (hne : row ≠ some g) : Blk w' g t cs := (hg.block g (blk_lt h) (fun e => hne e.symm)).trans h
theorem blk_below {w w' : World} {g t : Nat} {cs : Array Value} (h : Blk w g t cs) (hb : Below w.heap.size w w') : Blk w' g t cs := (hb.block g (blk_lt h)).trans h
theorem own_set {w : World} {B e size n g : Nat} {v : Value} {xs : List Value} (h : w.ownsRow B e size v n xs) (hne : v.ownBlock ≠ some g) (o : Nat) (u : Value) : (w.setCell ⟨g, o, none⟩ u).ownsRow B e size v n xs := by
  refine h.kept (row := some g) ⟨rfl, rfl, rfl, by simp [World.setCell], fun i _ hi => Below.heap_setCell w _ u i (fun e => hi (by rw [e]))⟩ (.inr hne)
end Go.Proofs.Ytehedhkadjidpaa
