import Derived.Test.YtjjjlpnbniofjabVaS
namespace Go.Proofs.Ytjjjlpnbniofjab
open Go.RowKit
def gtV (l : List VersionR) (key time : Int) (i : Nat) : Bool := match l[i]? with | some x => decide (0 < cmp2L x.a0 x.a1 key time) | none => true
set_option maxRecDepth 100000 in
set_option maxHeartbeats 1000000 in
theorem valC_any (A : Option Addr) (c : Nat) (l : List VersionR) (key time : Int) (i : Nat) (x : VersionR) (m1 m2 : Nat) (w : World) (ha : Row VersionR.enc 3 w A l) (hx : l[i]? = some x)
    (h1 : w.cell? ⟨m1, 0, none⟩ = some (.slice A l.length c)) (h2 : w.cell? ⟨m2, 0, none⟩ = some (.int .i64 key)) (h3 : w.cell? ⟨m2, 1, none⟩ = some (.int .i64 time)) (h4 : w.cell? ⟨m2, 2, none⟩ = some (.int .i64 0)) :
    Calls Try.prog 102 #[.int .i64 i, .pointer (some ⟨m1, 0, none⟩), .pointer (some ⟨m2, 0, none⟩)] w fun e w' => e = .returned (.bool (decide (0 < cmpVer x ⟨key, time, 0⟩))) ∧ Below w.heap.size w w' := by
  have hal := ha.1
  have hi : i < l.length := (List.getElem?_eq_some_iff.1 hx).1
  obtain ⟨b, off, rfl, hb, q0, q1, q2⟩ := ha.atVersion hi
  have hx' : l[i] = x := (List.getElem?_eq_some_iff.1 hx).2
  rw [hx'] at q0 q1 q2
  have R0 := Bw.cellOf hb q0
  have R1 := Bw.cellOf hb q1
  have R2 := Bw.cellOf hb q2
  have S1 := Bw.cellOf (cell_lt h1) h1
  have S2 := Bw.cellOf (cell_lt h2) h2
  have S3 := Bw.cellOf (cell_lt h3) h3
  have S4 := Bw.cellOf (cell_lt h4) h4
  have i0 : (0 : Int) ≤ (i : Int) := by omega
  have i1 : (i : Int) < (l.length : Int) := by omega
  clear hx hx' ha
  go_enter Try.func102, Try.ntmps102
  go_wp2
  refine wp_region_quiet_below (by kernel_rfl) (by kernel_rfl) ?_
  repeat (any_goals (go_big_quiet_step (first | (go_at_call 71; refine Calls.below_of (cmpVerI_any x ⟨key, time, 0⟩ _)))))
  refine wpQuiet_nil ?_
  intro w1 hb1
  go_wp2
  all_goals go_returns
  all_goals exact ⟨rfl, hb1⟩
set_option maxRecDepth 100000 in
set_option maxHeartbeats 4000000 in
theorem implVal_any (A : Option Addr) (c : Nat) (l : List VersionR) (key time : Int) (w : World) (ha : Row VersionR.enc 3 w A l) (hv : vVers l = true) :
    Calls Try.prog 76 #[.slice A l.length c, .int .i64 key, .int .i64 time] w fun e w' => e = .returned (.tuple #[.int .i64 (valV l key time), .bool (valK l key time)]) ∧ Below w.heap.size w w' := by
  have hal := ha.1
  have hB : Below w.heap.size w ((w.alloc (.cells #[.slice A l.length c] 37)).alloc (.cells #[.int .i64 key, .int .i64 time, .int .i64 0] 39)) := ((Below.refl _ _).alloc (Nat.le_refl _) _).alloc (by simp) _
  have hcut := verI_cut hv key time
  have hK := cutN_le (leV key time) l
  have hmono := leV_mono hv key time
  have h0 : ∀ i, i < cutN (leV key time) l → gtV l key time i = false := by
    intro i hi
    have hx : l[i]? = some l[i] := List.getElem?_eq_getElem (by omega)
    have := cutN_lt hi hx
    unfold leV at this
    unfold gtV
    rw [hx]
    simp at this ⊢
    omega
  have h1 : ∀ i, cutN (leV key time) l ≤ i → i < l.length → gtV l key time i = true := by
    intro i hi hil
    have hx : l[i]? = some l[i] := List.getElem?_eq_getElem hil
    have := cutN_ge hmono hi hx
    unfold leV at this
    unfold gtV
    rw [hx]
    simp at this ⊢
    omega
  have hS : ∀ W, Below ((w.alloc (.cells #[.slice A l.length c] 37)).alloc (.cells #[.int .i64 key, .int .i64 time, .int .i64 0] 39)).heap.size ((w.alloc (.cells #[.slice A l.length c] 37)).alloc (.cells #[.int .i64 key, .int .i64 time, .int .i64 0] 39)) W →
      Calls Try.prog 64 #[.int .i64 l.length, .func (.func 102) #[] #[.pointer (some ⟨w.heap.size, 0, none⟩), .pointer (some ⟨w.heap.size + 1, 0, none⟩)]] W fun e w' => e = .returned (.int .i64 (cutN (leV key time) l : Nat)) ∧ Below W.heap.size W w' := fun W hW =>
    search_any 102 #[.pointer (some ⟨w.heap.size, 0, none⟩), .pointer (some ⟨w.heap.size + 1, 0, none⟩)] l.length (cutN (leV key time) l) (gtV l key time) W (Go.Proofs.enters_of Try.func102 (by kernel_rfl) rfl) hal hK
      (fun i wr hi hb => by
        have hx : l[i]? = some l[i] := List.getElem?_eq_getElem hi
        have hbb := hW.trans (hb.mono hW.size)
        have h := valC_any A c l key time i l[i] w.heap.size (w.heap.size + 1) wr (ha.keep (hB.trans (hbb.mono hB.size))) hx ((hbb.cell (by simp; omega)).trans (by simp [go_sem])) ((hbb.cell (by simp)).trans (by simp [go_sem])) ((hbb.cell (by simp)).trans (by simp [go_sem])) ((hbb.cell (by simp)).trans (by simp [go_sem]))
        have e : gtV l key time i = decide (0 < cmpVer l[i] ⟨key, time, 0⟩) := by unfold gtV; rw [hx]; rfl
        rw [e]
        exact h) h0 h1
  have HS := Lib.hid hS
  have Hcut := Lib.hid hcut
  clear hcut hmono h0 h1 hS
  generalize cutN (leV key time) l = K at *
  go_enter Try.func76, Try.ntmps76
  go_wp2_with fail
  refine (HS.out _ (Below.refl _ _)).mono ?_
  rintro e w2 ⟨rfl, hb2⟩
  have c1 : w2.cell? ⟨w.heap.size, 0, none⟩ = some (.slice A l.length c) := (hb2.cell (by simp; omega)).trans (by simp [go_sem])
  have hbw2 := hB.trans (hb2.mono hB.size)
  clear HS hb2 hB
  rcases K with _ | j
  · have HN := Lib.hid (val_none (Hcut.out.1 rfl))
    clear Hcut ha
    go_wp2
    all_goals go_returns
    all_goals exact ⟨ret_ib (by rw [HN.out.1]) (by rw [HN.out.2]), hbw2⟩
  · have hj : j < l.length := by omega
    have hx : l[j]? = some l[j] := List.getElem?_eq_getElem hj
    obtain ⟨b, off, rfl, hblt, q0, q1, q2⟩ := (ha.keep hbw2).atVersion hj
    have hc2 := Hcut.out.2 j _ rfl hx
    generalize l[j] = x at *
    have j0 : (0 : Int) ≤ (j : Int) := by omega
    have j1 : (j : Int) < (l.length : Int) := by omega
    by_cases he : x.a0 = key
    · have HN := Lib.hid (val_some (hc2.2 he) hx)
      have e1 : (x.a0 != key) = false := by simp [he]
      clear hc2 he hx Hcut ha
      go_wp2
      all_goals go_returns
      all_goals exact ⟨ret_ib (by rw [HN.out.1]) (by rw [HN.out.2]), hbw2⟩
    · have HN := Lib.hid (val_none (hc2.1 he))
      have e1 : (x.a0 != key) = true := by simp [he]
      clear hc2 he hx Hcut ha
      go_wp2
      all_goals go_returns
      all_goals exact ⟨ret_ib (by rw [HN.out.1]) (by rw [HN.out.2]), hbw2⟩
set_option maxRecDepth 100000 in
set_option maxHeartbeats 2000000 in
theorem implVer_any (A : Option Addr) (c : Nat) (l : List VersionR) (key time : Int) (w : World) (ha : Row VersionR.enc 3 w A l) :
    Calls Try.prog 32 #[.slice A l.length c, .int .i64 key, .int .i64 time] w fun e w' => e = .returned (.tuple #[.int .i64 (verF l key time), .bool (verK l key time)]) ∧ Below w.heap.size w w' := by
  have hal := ha.1
  rcases Bool.eq_false_or_eq_true (vVers l) with hv | hv
  · have HF := Lib.hid (show verF l key time = valV l key time ∧ verK l key time = valK l key time by unfold verF verK; rw [hv]; simp)
    have Hv := Lib.hid hv
    clear hv
    go_enter Try.func32, Try.ntmps32
    go_wp2_with fail
    refine (implVers_any A c l w ha).mono ?_
    rintro e w1 ⟨rfl, hb1⟩
    rw [Hv.out]
    go_wp2_with fail
    refine (implVal_any A c l key time _ (ha.keep hb1) Hv.out).mono ?_
    rintro e w2 ⟨rfl, hb2⟩
    have hbw := hb1.trans (hb2.mono hb1.size)
    go_wp2
    all_goals go_returns
    all_goals exact ⟨ret_ib (by rw [HF.out.1]) (by rw [HF.out.2]), hbw⟩
  · have HF := Lib.hid (show verF l key time = 0 ∧ verK l key time = false by unfold verF verK; rw [hv]; simp)
    have Hv := Lib.hid hv
    clear hv
    go_enter Try.func32, Try.ntmps32
    go_wp2_with fail
    refine (implVers_any A c l w ha).mono ?_
    rintro e w1 ⟨rfl, hb1⟩
    rw [Hv.out]
    go_wp2
    all_goals go_returns
    all_goals exact ⟨ret_ib (by rw [HF.out.1]) (by rw [HF.out.2]), hb1⟩
end Go.Proofs.Ytjjjlpnbniofjab
