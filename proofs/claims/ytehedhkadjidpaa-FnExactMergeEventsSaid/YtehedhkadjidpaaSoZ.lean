import Derived.Test.YtehedhkadjidpaaSoR
namespace Go.Proofs.Ytehedhkadjidpaa
open Go.RowKit
set_option maxRecDepth 100000 in
set_option maxHeartbeats 2000000 in
theorem specSort_any (A : Option Addr) (c : Nat) (l : List EventR) (w : World) (ha : Row EventR.enc 3 w A l) :
    Calls Try.prog 28 #[.slice A l.length c] w (OwnPost EventR.enc 3 32 w (soF l)) := by
  have hal := ha.1
  unfold soF
  rcases Bool.eq_false_or_eq_true (vEvs l) with hv | hv
  all_goals
    rw [hv]
    have Hv := Lib.hid hv
    clear hv
    go_enter Try.func28, Try.ntmps28
    go_wp2_with fail
    refine (specValidEvents_any A c l w ha).mono ?_
    rintro e w1 ⟨rfl, hb1⟩
    rw [Hv.out]
  · go_wp2_with fail
    refine (specSortIn_any A c l _ (ha.keep hb1)).mono ?_
    rintro e w2 ⟨A2, c2, rfl, o2, b2⟩
    have Hp := Lib.hid (show _ ∧ _ from ⟨own_rebase (B := w.heap.size) o2 hb1.size, hb1.trans (b2.mono hb1.size)⟩)
    clear o2 b2 hb1 ha
    go_wp2
    all_goals go_returns
    all_goals exact ⟨A2, c2, rfl, Hp.out.1, Hp.out.2⟩
  · have Hn := Lib.hid (acc_keep (acc_none EventR.enc 3 32 (Below.refl w.heap.size w)) hb1)
    go_wp2
    all_goals go_returns
    all_goals exact acc_post Hn.out (by simp)
end Go.Proofs.Ytehedhkadjidpaa
