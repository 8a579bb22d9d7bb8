import Derived.Test.YtjjjlpnbniofjabFireS
import Derived.Deep.RegionHeld3
import Derived.Shelf.Abstract
namespace Go.Proofs.Ytjjjlpnbniofjab
open Go.RowKit
set_option maxRecDepth 100000 in
set_option maxHeartbeats 1000000 in
theorem fireC_any (A : Option Addr) (c : Nat) (l : List TimerR) (now : Int) (i : Nat) (x : TimerR) (m1 m2 : Nat) (w : World) (ha : Row TimerR.enc 3 w A l) (hx : l[i]? = some x)
    (h1 : w.cell? ⟨m1, 0, none⟩ = some (.slice A l.length c)) (h2 : w.cell? ⟨m2, 0, none⟩ = some (.int .i64 now)) :
    Calls Try.prog 65 #[.int .i64 i, .pointer (some ⟨m1, 0, none⟩), .pointer (some ⟨m2, 0, none⟩)] w fun e w' => e = .returned (.bool (decide (now < x.a0))) ∧ Below w.heap.size w w' := by
  have hal := ha.1
  have hi : i < l.length := (List.getElem?_eq_some_iff.1 hx).1
  obtain ⟨b, off, rfl, hb, q0, q1, q2⟩ := ha.atTimer hi
  have hx' : l[i] = x := (List.getElem?_eq_some_iff.1 hx).2
  rw [hx'] at q0 q1 q2
  have R0 := Bw.cellOf hb q0
  have R1 := Bw.cellOf (cell_lt h1) h1
  have R2 := Bw.cellOf (cell_lt h2) h2
  have i0 : (0 : Int) ≤ (i : Int) := by omega
  have i1 : (i : Int) < (l.length : Int) := by omega
  clear hx hx' ha
  go_enter Try.func65, Try.ntmps65
  go_wp2
  refine wp_region_quiet_below (by kernel_rfl) (by kernel_rfl) ?_
  repeat (any_goals (go_big_quiet_step (fail)))
  refine wpQuiet_nil ?_
  intro w1 hb1
  go_wp2
  all_goals go_returns
  all_goals exact ⟨rfl, hb1⟩
theorem cloneTm_take (A : Option Addr) (c : Nat) (l : List TimerR) (k : Nat) (w : World) (ha : Row TimerR.enc 3 w A l) (hk : k ≤ l.length) :
    Calls Try.prog 59 #[.slice A k c] w (OwnPost TimerR.enc 3 25 w (l.take k)) := by
  have h := cloneTm_any A c (l.take k) w (ha.take k)
  have e : (l.take k).length = k := by rw [List.length_take]; omega
  rw [e] at h
  exact h
theorem cloneTm_drop (A : Option Addr) (c : Nat) (l : List TimerR) (k : Nat) (w : World) (ha : Row TimerR.enc 3 w A l) (hc : l.length ≤ c) :
    Calls Try.prog 59 #[.slice (dropA A c k 3) (l.length - k) (c - k)] w (OwnPost TimerR.enc 3 25 w (l.drop k)) := by
  have h := cloneTm_any _ (c - k) (l.drop k) w (ha.dropIf (p := k) hc)
  rw [List.length_drop] at h
  exact h
theorem fire_mono {l : List TimerR} (hv : vTims l = true) (now : Int) : ∀ (i j : Nat) (x y : TimerR), i ≤ j → l[i]? = some x → l[j]? = some y → fireP now y = true → fireP now x = true := by
  intro i j x y hij hx hy h
  unfold vTims at hv
  rw [Bool.and_eq_true] at hv
  unfold fireP at h ⊢
  rw [decide_eq_true_eq] at h ⊢
  rcases Nat.lt_or_eq_of_le hij with hlt | rfl
  · have := pw_get (asc_pairwise (c := cmpTim) (fun x y z => cmp3_trans _ _ _ _ _ _ _ _ _) hv.2) hlt hx hy
    unfold cmpTim at this
    rw [cmp3_neg] at this
    omega
  · rw [hx] at hy
    injection hy with hy
    subst hy
    exact h
def fireN (l : List TimerR) (now : Int) (i : Nat) : Bool := match l[i]? with | some x => decide (now < x.a0) | none => true
set_option maxRecDepth 100000 in
set_option maxHeartbeats 4000000 in
theorem implFire_any (A : Option Addr) (c : Nat) (l : List TimerR) (now : Int) (w : World) (ha : Row TimerR.enc 3 w A l) (hc : l.length ≤ c) :
    Calls Try.prog 23 #[.slice A l.length c, .int .i64 now] w (Own2Post TimerR.enc 3 25 TimerR.enc 3 25 w (fireA l now) (fireB l now)) := by
  have hal := ha.1
  have hB : Below w.heap.size w ((w.alloc (.cells #[.slice A l.length c] 23)).alloc (.cells #[.int .i64 now] 3)) := ((Below.refl _ _).alloc (Nat.le_refl _) _).alloc (by simp) _
  go_enter Try.func23, Try.ntmps23
  go_wp2_with fail
  refine (implTims_any A c l _ (ha.keep hB)).mono ?_
  rintro e w1 ⟨rfl, hb1⟩
  have c1 : w1.cell? ⟨w.heap.size, 0, none⟩ = some (.slice A l.length c) := (hb1.cell (by simp; omega)).trans (by simp [go_sem])
  have c2 : w1.cell? ⟨w.heap.size + 1, 0, none⟩ = some (.int .i64 now) := (hb1.cell (by simp)).trans (by simp [go_sem])
  have hz : w.heap.size + 1 < w1.heap.size := by have := hb1.size; simp at this; omega
  have hbw := hB.trans (hb1.mono hB.size)
  clear hB hb1
  rcases Bool.eq_false_or_eq_true (vTims l) with hv | hv
  · have hmono := fire_mono hv now
    have hfc := filter_cut hmono
    have HF := Lib.hid (show fireA l now = l.take (cutN (fireP now) l) ∧ fireB l now = l.drop (cutN (fireP now) l) by unfold fireA fireB; rw [hv, if_pos rfl, if_pos rfl]; exact hfc)
    have hk := cutN_le (fireP now) l
    have h0 : ∀ i, i < cutN (fireP now) l → fireN l now i = false := by
      intro i hi
      have hx : l[i]? = some l[i] := List.getElem?_eq_getElem (by omega)
      have := cutN_lt hi hx
      unfold fireP at this
      unfold fireN
      rw [hx]
      simp at this ⊢
      exact this
    have h1 : ∀ i, cutN (fireP now) l ≤ i → i < l.length → fireN l now i = true := by
      intro i hi hil
      have hx : l[i]? = some l[i] := List.getElem?_eq_getElem hil
      have := cutN_ge hmono hi hx
      unfold fireP at this
      unfold fireN
      rw [hx]
      simp at this ⊢
      exact this
    have hS := search_any 65 #[.pointer (some ⟨w.heap.size, 0, none⟩), .pointer (some ⟨w.heap.size + 1, 0, none⟩)] l.length (cutN (fireP now) l) (fireN l now) w1 (Go.Proofs.enters_of Try.func65 (by kernel_rfl) rfl) hal hk
      (fun i wr hi hb => by
        have hx : l[i]? = some l[i] := List.getElem?_eq_getElem hi
        have h := fireC_any A c l now i l[i] w.heap.size (w.heap.size + 1) wr ((ha.keep hbw).keep hb) hx ((hb.cell (by show w.heap.size < w1.heap.size; omega)).trans c1) ((hb.cell hz).trans c2)
        have e : fireN l now i = decide (now < l[i].a0) := by unfold fireN; rw [hx]
        rw [e]
        exact h) h0 h1
    have HS := Lib.hid hS
    rw [hv]
    generalize cutN (fireP now) l = k at *
    clear hv hmono hfc h0 h1 hS
    go_wp2_with fail
    refine HS.out.mono ?_
    rintro e w2 ⟨rfl, hb2⟩
    have c1' : w2.cell? ⟨w.heap.size, 0, none⟩ = some (.slice A l.length c) := (hb2.cell (by show w.heap.size < w1.heap.size; omega)).trans c1
    have hbw2 := hbw.trans (hb2.mono hbw.size)
    have hz2 : w.heap.size < w2.heap.size := by have := hb2.size; omega
    clear HS c1 c2 hb2 hbw hz
    have ha2 := Lib.hid (ha.keep hbw2)
    clear ha
    go_wp2_with fail
    have hD : (if c = k then A else Option.map (fun x => x.add (k * 3)) A) = dropA A c k 3 := rfl
    have i0 : (0 : Int) ≤ (k : Int) := by omega
    have i1 : (k : Int) ≤ (l.length : Int) := by omega
    have i2 : (k : Int) ≤ (c : Int) := by omega
    go_region_held3 (fun w' => w'.cell? ⟨w.heap.size, 0, none⟩ = some (.slice A l.length c) ∧ w2.heap.size + 0 ≤ w'.heap.size ∧ Below w2.heap.size w2 w') ((go_split_ands; (try have hz0 := b2.size); (try have hz1 := b1.size); (repeat' apply And.intro) <;> first | assumption | (simp only [World.cell?_drew]; assumption) | (simp only [World.size_drew]; omega) | omega | exact Below.drew (Below.refl _ _) | (refine (b2.cell (by first | omega | (simp; done) | (simp; omega))).trans ?_; first | assumption | (simp only [World.cell?_drew]; assumption)) | (refine Below.trans ?_ (b2.mono (by first | omega | (simp; done) | (simp; omega) | (exact Below.size (by assumption)))); first | assumption | exact Below.drew (Below.refl _ _)) | (refine (b1.cell (by first | omega | (simp; done) | (simp; omega))).trans ?_; first | assumption | (simp only [World.cell?_drew]; assumption)) | (refine Below.trans ?_ (b1.mono (by first | omega | (simp; done) | (simp; omega) | (exact Below.size (by assumption)))); first | assumption | exact Below.drew (Below.refl _ _)) | (go_keep; done))) (first | ((go_at_call 59; go_split_ands; refine (cloneTm_take A c l k _ (ha2.out.keep (by assumption)) hk).mono ?_; rintro e w3 ⟨A1, d1, rfl, o1, b1⟩)) | ((go_at_call 59; go_split_ands; refine (cloneTm_drop A c l k _ (ha2.out.keep (by assumption)) hc).mono ?_; rintro e w4 ⟨A2, d2, rfl, o2, b2⟩)))
    have ek : (l.take k).length = k := by rw [List.length_take]; omega
    have ed : (l.drop k).length = l.length - k := List.length_drop
    have hd := own_dis o1 o2
    rw [ek] at o1 hd
    rw [ed] at o2 hd
    have hb4 : Below w.heap.size w w4 := hbw2.trans ((‹_ ∧ _ ∧ Below w2.heap.size w2 w4›).2.2.mono hbw2.size)
    have A1' := own_acc (w := w) (o1.keep b2) (by have := hbw2.size; simp; omega) hb4
    have A2' := own_acc (w := w) o2 (by have := hbw2.size; omega) hb4
    have Hfin := Lib.hid (show _ ∧ _ ∧ _ from ⟨A1', A2', hd⟩)
    clear o1 o2 b1 b2 hd A1' A2' hb4 hD ek ed
    go_wp2
    all_goals go_returns
    all_goals (rw [HF.out.1, HF.out.2]; exact acc2 Hfin.out.1 Hfin.out.2.1 (by simp; omega) (by simp; omega) Hfin.out.2.2)
  · have HF := Lib.hid (show fireA l now = [] ∧ fireB l now = [] by unfold fireA fireB; rw [hv]; simp)
    rw [hv]
    clear hv
    go_wp2
    all_goals go_returns
    all_goals (rw [HF.out.1, HF.out.2]; exact acc2 (acc_none _ _ _ hbw) (acc_none _ _ _ hbw) (by simp) (by simp) (fun g g' h _ => by simp [Value.ownBlock] at h))
end Go.Proofs.Ytjjjlpnbniofjab
