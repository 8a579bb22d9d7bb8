import Derived.Test.YtehedhkadjidpaaSoP
import Derived.Test.YtehedhkadjidpaaBoxB
namespace Go.Proofs.Ytehedhkadjidpaa
open Go.RowKit
set_option maxRecDepth 100000 in
set_option maxHeartbeats 1000000 in
theorem copyE_any (A : Option Addr) (c : Nat) (l : List EventR) (w : World) (ha : Row EventR.enc 3 w A l) : Calls Try.prog 54 #[.slice A l.length c] w (OwnPost EventR.enc 3 32 w l) := by
  have hal := ha.1
  obtain ⟨j0, hj0, hy0, hy1, hy2⟩ := info_parts EventR.zero_info
  have Hacc0 := Lib.hid (acc_made EventR.enc 3 32 (Below.refl w.heap.size w))
  have bA0 : Below w.heap.size w (w.alloc (.cells #[] 32)) := (Below.refl _ _).alloc (Nat.le_refl _) _
  go_enter Try.func54, Try.ntmps54
  go_wp2_with (first | (at_builtin; refine wpList_append_row rfl _ _ 24 rfl j0 _ 24 Try.underlying24 hj0 hy0 hy1 hy2 rfl (by decide) (by decide) _ [] rfl Hacc0.out A l.length c l rfl rfl (ha.keep bA0) EventR.enc_len (by intro x u hu; simp [EventR.enc] at hu; rcases hu with rfl | rfl | rfl <;> rfl) (by simp; omega) ?_; intro v1 y1 hacc1 _ _) | fail)
  all_goals go_returns
  all_goals exact acc_post hacc1 hal
theorem cmpSpecE_any (x y : EventR) (w : World) : Calls Try.prog 82 #[.agg #[.int .i64 x.a0, .int .i64 x.a1, .int .i64 x.a2], .agg #[.int .i64 y.a0, .int .i64 y.a1, .int .i64 y.a2]] w fun e w' => e = .returned (.int .i64 (cfE x y)) ∧ Below w.heap.size w w' := cmpSpec_any x.a0 x.a1 x.a2 y.a0 y.a1 y.a2 w
theorem flat_set3E : ∀ (l : List EventR) (i : Nat) (x : EventR), i < l.length → (((l.flatMap EventR.enc).set (i * 3) (.int .i64 x.a0)).set (i * 3 + 1) (.int .i64 x.a1)).set (i * 3 + 2) (.int .i64 x.a2) = (l.set i x).flatMap EventR.enc
  | [], i, x, hi => by simp at hi
  | y :: l, 0, x, _ => by
    rw [List.flatMap_cons, List.set_cons_zero, List.flatMap_cons]
    simp [EventR.enc]
  | y :: l, i + 1, x, hi => by
    have ih := flat_set3E l i x (by simpa using hi)
    rw [List.set_cons_succ, List.flatMap_cons, List.flatMap_cons, ← ih, show (i + 1) * 3 = i * 3 + 3 by omega, show i * 3 + 3 + 1 = i * 3 + 1 + 3 by omega, show i * 3 + 3 + 2 = i * 3 + 2 + 3 by omega]
    rfl
/-- A store of a whole event into a slice of the call's own. -/
theorem own_put {T B : Nat} {w : World} {g c : Nat} {l : List EventR} (h : Own EventR.enc 3 T w B (.slice (some ⟨g, 0, none⟩) l.length c) l) {i : Nat} (hi : i < l.length) (x : EventR) :
    Own EventR.enc 3 T (((w.setCell ⟨g, i * 3, none⟩ (.int .i64 x.a0)).setCell ⟨g, i * 3 + 1, none⟩ (.int .i64 x.a1)).setCell ⟨g, i * 3 + 2, none⟩ (.int .i64 x.a2)) B (.slice (some ⟨g, 0, none⟩) (l.set i x).length c) (l.set i x) := by
  obtain ⟨h1, h2⟩ := h
  obtain ⟨s1, -⟩ := h2.stored (i * 3) (.int .i64 x.a0)
  obtain ⟨s2, -⟩ := s1.stored (i * 3 + 1) (.int .i64 x.a1)
  obtain ⟨s3, -⟩ := s2.stored (i * 3 + 2) (.int .i64 x.a2)
  rw [flat_set3E l i x hi] at s3
  exact ⟨by simpa using h1, by simpa using s3⟩
end Go.Proofs.Ytehedhkadjidpaa
