import Derived.Test.YtehedhkadjidpaaCmp3
import Derived.Test.YtehedhkadjidpaaLayA
import Derived.Test.YtehedhkadjidpaaTyEvent
import Derived.Shelf.SlSortCmp.NoneTotal
import Derived.StillTailTactics
namespace Go.Proofs.Ytehedhkadjidpaa
open Go.RowKit
theorem gr3 (w : World) (a b c : Obj) : ∃ (q : Nat) (os : Array Obj), (((w.alloc a).alloc b).drew).alloc c = Go.Sort.grow (w.drewN q) os := by
  refine ⟨1, #[a] ++ #[b] ++ #[c], ?_⟩
  rw [Go.Sort.alloc_eq_grow, Go.Sort.alloc_eq_grow (w.alloc a), Go.Sort.alloc_eq_grow w, Go.Sort.grow_grow, Go.Sort.drew_grow, Go.Sort.grow_grow]
  rfl
set_option maxRecDepth 100000 in
set_option maxHeartbeats 1000000 in
theorem cmpImplW_any (t k v t' k' v' : Int) (w : World) : Calls Try.prog 30 #[.agg #[.int .i64 t, .int .i64 k, .int .i64 v], .agg #[.int .i64 t', .int .i64 k', .int .i64 v']] w
    fun e w' => e = .returned (.int .i64 (cmpE t k v t' k' v')) ∧ ∃ (q : Nat) (os : Array Obj), w' = Go.Sort.grow (w.drewN q) os := by
  go_enter Try.func30, Try.ntmps30
  go_wp2
  refine wp_region_still_tail 15 (by kernel_rfl) (by kernel_rfl) ?_
  change wpStill _ _ (((w.alloc (.cells #[.int .i64 t, .int .i64 k, .int .i64 v] 32)).alloc (.cells #[.int .i64 t', .int .i64 k', .int .i64 v'] 32)).drew) (fun a' => wpList _ _ _ _ a' (((w.alloc (.cells #[.int .i64 t, .int .i64 k, .int .i64 v] 32)).alloc (.cells #[.int .i64 t', .int .i64 k', .int .i64 v'] 32)).drew)) _ _
  simp only [List.take_succ_cons, List.take_zero, List.drop_succ_cons, List.drop_zero]
  repeat (first | still_step | still_call (cmpC_any _ _ _))
  refine wpStill_nil ?_
  go_wp2_with fail
  refine (cmpOr_any (cmpI t t') (cmpI k k') (cmpI v v') _ _ (by simp [go_sem]) (by simp [go_sem]) (by simp [go_sem])).mono ?_
  rintro e w' ⟨rfl, rfl⟩
  go_wp2
  go_returns
  exact ⟨ret_int (cmp3 t k v t' k' v'), gr3 _ _ _ _⟩


def cfE (x y : EventR) : Int := cmpE x.a0 x.a1 x.a2 y.a0 y.a1 y.a2
theorem cmpE_neg (t k v t' k' v' : Int) : cmpE t k v t' k' v' < 0 ↔ t < t' ∨ (t = t' ∧ (k < k' ∨ (k = k' ∧ v < v'))) := by
  unfold cmpE cmpI
  (repeat' split) <;> omega
theorem ltE (x y : EventR) : Go.Proofs.ltOf cfE x y = decide (x.a0 < y.a0 ∨ (x.a0 = y.a0 ∧ (x.a1 < y.a1 ∨ (x.a1 = y.a1 ∧ x.a2 < y.a2)))) := by
  unfold Go.Proofs.ltOf cfE
  exact decide_eq_decide.2 (cmpE_neg _ _ _ _ _ _)
theorem swoE : Go.Sort.SWO (Go.Proofs.ltOf cfE) where
  irrefl x := by rw [ltE]; simp
  trans x y z h1 h2 := by
    rw [ltE, decide_eq_true_eq] at *
    omega
  ntrans x y z h1 h2 := by
    rw [ltE, decide_eq_false_iff_not] at *
    omega
theorem ev_ext {x y : EventR} (h0 : x.a0 = y.a0) (h1 : x.a1 = y.a1) (h2 : x.a2 = y.a2) : x = y := by cases x; cases y; simp_all
theorem totE (x y : EventR) (h1 : Go.Proofs.ltOf cfE x y = false) (h2 : Go.Proofs.ltOf cfE y x = false) : x = y := by
  rw [ltE, decide_eq_false_iff_not] at *
  exact ev_ext (by omega) (by omega) (by omega)
instance : Inhabited EventR := ⟨⟨0, 0, 0⟩⟩
theorem cmpLaysE (blk off size : Nat) (w : World) : Go.Proofs.CmpLays Try.prog 30 #[] EventR.enc 3 cfE blk off size w := fun m os dk _ x y =>
  cmpImplW_any x.a0 x.a1 x.a2 y.a0 y.a1 y.a2 (Go.Proofs.sortWorldK EventR.enc 3 w blk off m dk os)
theorem flatK_list {α : Type} [Inhabited α] (enc : α → List Value) (k : Nat) (hk : ∀ x, (enc x).length = k) (h0 : 0 < k) (l : List α) : (Go.Sort.flatK enc k l.toArray).toList = l.flatMap enc := by
  apply List.ext_getElem?
  intro t
  rw [Array.getElem?_toList]
  by_cases ht : t < l.length * k
  · have hd : t / k < l.length := Nat.div_lt_of_lt_mul (by rw [Nat.mul_comm]; exact ht)
    have hm : t % k < (enc l[t / k]).length := by rw [hk]; exact Nat.mod_lt _ h0
    have h1 := flat_get hk l (t / k) _ (List.getElem?_eq_getElem hd) (t % k) _ (List.getElem?_eq_getElem hm)
    have e : t / k * k + t % k = t := by rw [Nat.mul_comm]; exact Nat.div_add_mod t k
    rw [e] at h1
    rw [h1, Array.getElem?_eq_getElem (by simp; exact ht)]
    have h2 := Go.Sort.get_flatK enc k l.toArray t (by simpa using ht)
    rw [getElem!_pos _ t (by simp; exact ht)] at h2
    rw [h2]
    simp [getElem!_pos, hd, hm]
  · rw [Array.getElem?_eq_none (by simp; omega), List.getElem?_eq_none (by rw [flat_len hk]; omega)]
theorem holdsK_own {w : World} {B T g n cap : Nat} {l : List EventR} (h : w.ownsRow B T 3 (.slice (some ⟨g, 0, none⟩) n cap) n (l.flatMap EventR.enc)) : Go.Sort.HoldsK EventR.enc 3 w g 0 l.toArray := by
  intro j hj
  have hl := h.1
  rw [flat_len EventR.enc_len] at hl
  have hj' : j < l.length * 3 := by simpa using hj
  refine ⟨?_, by simpa using h.frozenAt j⟩
  rw [Nat.zero_add, h.cellAt j (by omega), ← flatK_list EventR.enc 3 EventR.enc_len (by omega) l, Array.getElem?_toList, Array.getElem?_eq_getElem hj]
  exact congrArg some (getElem!_pos _ j hj).symm
theorem own_sorted {w : World} {B T g n cap q : Nat} {l ys : List EventR} {os : Array Obj} (h : w.ownsRow B T 3 (.slice (some ⟨g, 0, none⟩) n cap) n (l.flatMap EventR.enc)) (hy : ys.length = n) :
    (Go.Proofs.sortWorldK EventR.enc 3 w g 0 q ys.toArray os).ownsRow B T 3 (.slice (some ⟨g, 0, none⟩) n cap) n (ys.flatMap EventR.enc) ∧ w.grownBy (Go.Proofs.sortWorldK EventR.enc 3 w g 0 q ys.toArray os) (some g) := by
  rcases h.2 with ⟨e0, _⟩ | ⟨g', cap', cur, e0, hb, hg, hn, hm, hs, ht⟩
  · cases e0
  · injection e0 with e1 _ e3
    injection e1 with e1
    injection e1 with e1
    subst e1; subst e3
    have hlt : g < w.heap.size := by
      rcases Nat.lt_or_ge g w.heap.size with h' | h'
      · exact h'
      · rw [Array.getElem?_eq_none h'] at hg; cases hg
    have hF := flatK_list EventR.enc 3 EventR.enc_len (by omega) ys
    have hFs : (Go.Sort.flatK EventR.enc 3 ys.toArray).size = n * 3 := by simp [hy]
    refine ⟨⟨by rw [flat_len EventR.enc_len, hy], .inr ⟨g, cap, Go.Sort.putCells id 0 (Go.Sort.flatK EventR.enc 3 ys.toArray) cur, rfl, hb, ?_, hn, hm, by simpa [Go.Sort.putCells] using hs, ?_⟩⟩, ?_⟩
    · unfold Go.Proofs.sortWorldK Go.Sort.putRowK Go.Sort.grow Go.Sort.putRow Go.Sort.mapBlock Go.Sort.ahead
      rw [Array.getElem?_append_left (by simpa using hlt)]
      simp [Array.getElem?_modify, hg, Go.Sort.onCells]
    · rw [← hF]
      apply List.ext_getElem?
      intro j
      rw [List.getElem?_take, Array.getElem?_toList, Array.getElem?_toList]
      by_cases hj : j < n * 3
      · have hjc : j < cur.size := by omega
        rw [if_pos hj]
        simp only [Go.Sort.putCells, Array.getElem?_mapIdx, Array.getElem?_eq_getElem hjc, Option.map_some]
        rw [if_pos (by rw [hFs]; omega), Array.getElem?_eq_getElem (by omega)]
        simp [getElem!_pos, show j < ys.length * 3 by omega]
      · rw [if_neg hj, Array.getElem?_eq_none (by omega)]
    · refine ⟨rfl, rfl, rfl, by simp [Go.Proofs.sortWorldK, Go.Sort.grow, Go.Sort.putRowK, Go.Sort.putRow, Go.Sort.mapBlock, Go.Sort.ahead], fun i hi hne => ?_⟩
      have hne' : g ≠ i := fun e => hne (by rw [e])
      unfold Go.Proofs.sortWorldK Go.Sort.putRowK Go.Sort.grow Go.Sort.putRow Go.Sort.mapBlock Go.Sort.ahead
      rw [Array.getElem?_append_left (by simpa using hi)]
      simp [Array.getElem?_modify, hne']
/-- The events in order. -/
def sortE (l : List EventR) : List EventR := l.mergeSort fun x y => !(Go.Proofs.ltOf cfE) y x
theorem sortE_len (l : List EventR) : (sortE l).length = l.length := by unfold sortE; simp
theorem isAggE (w : World) : (isAgg 32).run Try.prog w = .ok true w := by kernel_rfl
theorem sizeOfE (w : World) : (Go.sizeOf 32).run Try.prog w = .ok 3 w := by kernel_rfl
set_option maxHeartbeats 2000000 in
/-- slices.SortFunc of a slice of the call's own that is not empty. -/
theorem sortF_any {B g cap : Nat} (l : List EventR) (w : World) (h : Own EventR.enc 3 32 w B (.slice (some ⟨g, 0, none⟩) l.length cap) l) :
    Calls Try.prog 64 #[.slice (some ⟨g, 0, none⟩) l.length cap, .func (.func 30) #[] #[]] w fun e w' => e = .returned (.tuple #[]) ∧ Own EventR.enc 3 32 w' B (.slice (some ⟨g, 0, none⟩) (sortE l).length cap) (sortE l) ∧ w.grownBy w' (some g) := by
  have eg : ∀ args w, (callFunc 30 args).run Try.prog w = .ok (.enter 30 args) w := enters_of Try.func30 (by kernel_rfl) rfl
  have hlt := (h.lt g rfl).2
  have hl := h.1
  have hc := Go.Proofs.AnyQ.slices_SortFunc_total sfA 3 isAggE sizeOfE EventR.enc EventR.enc_len (fun x v hv => by simp [EventR.enc] at hv; rcases hv with rfl | rfl | rfl <;> rfl) cfE swoE 30 #[] g 0 cap l.toArray w eg (cmpLaysE g 0 _ w) (holdsK_own h.2) hlt (by simp; omega) totE
  refine hc.mono ?_
  rintro e w' ⟨rfl, n, os, rfl⟩
  have hs := own_sorted (q := n) (os := os) h.2 (sortE_len l)
  refine ⟨rfl, ⟨by rw [sortE_len]; exact hl, ?_⟩, hs.2⟩
  have h2 := hs.1
  rw [sortE_len]
  exact h2
end Go.Proofs.Ytehedhkadjidpaa
