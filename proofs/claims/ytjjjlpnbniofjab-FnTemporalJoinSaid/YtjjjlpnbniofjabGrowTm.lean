import Derived.Test.YtjjjlpnbniofjabTm2
import Derived.Test.YtjjjlpnbniofjabApp
import Derived.Laws.OwnMore
namespace Go.Proofs.Ytjjjlpnbniofjab
open Go.RowKit
set_option maxRecDepth 100000 in
set_option maxHeartbeats 4000000 in
theorem growTm_any (n : Nat) (w : World) (hn : n ≤ 1048576) : Calls Try.prog 95 #[.slice none 0 0, .int .i64 n] w (GrowPost TimerR.enc 3 25 w) := by
  obtain ⟨i0, hi0, hz0, hz1, hz2⟩ := info_parts TimerR.zero_info
  by_cases h0 : n = 0
  · subst h0
    go_enter Try.func95, Try.ntmps95
    go_wp2
    all_goals go_returns
    all_goals exact ⟨_, rfl, acc_none _ _ _ (Below.refl _ _)⟩
  · have hold : (Builtin.firstCells i0.size 0 (.slice none 0 0)).run Try.prog w.drew = .ok #[] w.drew := run_firstCells_none w.drew i0.size 0 0 0
    have hfit : Builtin.nextslicecap (0 + n) 0 * i0.bytes ≤ 281474976710656 := growslice_fits (by omega) (by rw [hz2]; omega)
    have hrz := fun ty => Lib.run_append_grow_zeros (P := Try.prog) w 23 3 ty 25 i0 _ .i64 .i64 Try.underlying23 Try.underlying3 hi0 hz0 none 0 0 [] hold n (by omega) (by rw [hz1]; omega) (by omega) (by omega) (by rw [hz2]; omega) hfit
    simp only [Nat.zero_add] at hrz
    have hge := grownCap_ge w n 0 25
    have hle := grownCap_le_maxLen w n 0 25 (by unfold maxLen; omega)
    have hst : Acc (α := TimerR) TimerR.enc 3 25 w [] (.slice (some ⟨w.heap.size, 0, none⟩) 0 (grownCap w n 0 25)) ((w.alloc (.cells (Builtin.zeroCells #[.int .i64 0, .int .i64 0, .int .i64 0] n ++ Builtin.zeroCells #[.int .i64 0, .int .i64 0, .int .i64 0] (grownCap w n 0 25 - n)) 25)).drew) := by
      refine ⟨⟨by simp, .inr ⟨w.heap.size, _, _, rfl, Nat.le_refl _, heap_alloc_new w _, Nat.zero_le _, hle, ?_, by simp⟩⟩, ((Below.refl _ _).alloc (by simp) _).drew⟩
      simp [size_zeroCells]
      omega
    have Hst := Lib.hid hst
    have hn0 : 0 < (n : Int) := by omega
    have hle2 : grownCap w n 0 25 ≤ 9223372036854775807 := by unfold maxLen at hle; omega
    generalize grownCap w n 0 25 = G at *
    have Hrz := Lib.hid hrz
    clear hold hfit hst hz0 hz1 hz2 hi0 hle hrz
    go_enter Try.func95, Try.ntmps95
    go_wp2_with (at_builtin; refine wpList_append_eq rfl _ _ 23 3 rfl _ _ rfl rfl _ _ (Hrz.out _) ?_)
    all_goals go_returns
    all_goals exact ⟨_, rfl, Hst.out⟩
end Go.Proofs.Ytjjjlpnbniofjab
