import Derived.Test.YtehedhkadjidpabEvS
import Derived.Test.YtehedhkadjidpabMg0
import Derived.Test.YtehedhkadjidpabInR
import Derived.Deep.RegionWith
namespace Go.Proofs.Ytehedhkadjidpab
open Go.RowKit
structure A4 where
  c : Int
  s : Int
  l : Int
  m : Int
def A4.V (a : A4) : Value := .agg #[.int .i64 a.c, .int .i64 a.s, .int .i64 a.l, .int .i64 a.m]
def accStep (a : A4) (v : Int) : A4 := if a.c = 0 then ⟨1, v, v, v⟩ else ⟨a.c + 1, a.s + v, mnI a.l v, mxI a.m v⟩
def accGo (l : List EventR) : A4 := l.foldl (fun a x => accStep a x.a2) ⟨0, 0, 0, 0⟩
def accF (l : List EventR) : A4 := if vEvs l = true then accGo l else ⟨0, 0, 0, 0⟩
theorem accGo_next {l : List EventR} {k : Nat} {x : EventR} (hx : l[k]? = some x) : accGo (l.take (k + 1)) = accStep (accGo (l.take k)) x.a2 := by
  unfold accGo; rw [List.take_add_one, hx, List.foldl_append]; rfl
def A4ok (a : A4) (n : Nat) : Prop := a.c = n ∧ 0 ≤ a.s ∧ a.s ≤ 99 * n ∧ (n = 0 → a.s = 0 ∧ a.l = 0 ∧ a.m = 0) ∧ (n ≠ 0 → 0 ≤ a.l ∧ a.l ≤ a.m ∧ a.m ≤ 99 ∧ n * a.l ≤ a.s ∧ a.s ≤ n * a.m)
theorem accStep_ok {a : A4} {n : Nat} {v : Int} (h : A4ok a n) (v0 : 0 ≤ v) (v9 : v ≤ 99) : A4ok (accStep a v) (n + 1) := by
  obtain ⟨h1, h2, h3, h4, h5⟩ := h
  unfold accStep
  by_cases h0 : a.c = 0
  · have hn : n = 0 := by omega
    rw [if_pos h0]; subst hn
    exact ⟨by simp, v0, by simpa using v9, fun h => by omega, fun _ => ⟨v0, Int.le_refl _, v9, by simp, by simp⟩⟩
  · have hn : n ≠ 0 := by omega
    obtain ⟨l0, lm, m9, b1, b2⟩ := h5 hn
    have hl : mnI a.l v ≤ a.l ∧ mnI a.l v ≤ v ∧ 0 ≤ mnI a.l v := by unfold mnI; split <;> omega
    have hm : a.m ≤ mxI a.m v ∧ v ≤ mxI a.m v ∧ mxI a.m v ≤ 99 := by unfold mxI; split <;> omega
    rw [if_neg h0]
    have c1 : (n : Int) * mnI a.l v ≤ n * a.l := Int.mul_le_mul_of_nonneg_left hl.1 (by omega)
    have c2 : (n : Int) * a.m ≤ n * mxI a.m v := Int.mul_le_mul_of_nonneg_left hm.1 (by omega)
    refine ⟨by simp; omega, by simp; omega, by simp; omega, fun h => by omega, fun _ => ⟨hl.2.2, by simp only; omega, hm.2.2, ?_, ?_⟩⟩
    · simp only; rw [show ((n + 1 : Nat) : Int) * mnI a.l v = (n : Int) * mnI a.l v + mnI a.l v by push_cast; rw [Int.add_mul]; simp]; omega
    · simp only; rw [show ((n + 1 : Nat) : Int) * mxI a.m v = (n : Int) * mxI a.m v + mxI a.m v by push_cast; rw [Int.add_mul]; simp]; omega
theorem accGo_ok {l : List EventR} (h : ∀ x ∈ l, 0 ≤ x.a2 ∧ x.a2 ≤ 99) : A4ok (accGo l) l.length := by
  have key : ∀ (l : List EventR) (a : A4) (n : Nat), A4ok a n → (∀ x ∈ l, 0 ≤ x.a2 ∧ x.a2 ≤ 99) → A4ok (l.foldl (fun a x => accStep a x.a2) a) (n + l.length) := by
    intro l
    induction l with
    | nil => intro a n h _; simpa using h
    | cons x l ih =>
      intro a n ha hl
      have hx := hl x (by simp)
      have h := ih (accStep a x.a2) (n + 1) (accStep_ok ha hx.1 hx.2) (fun y hy => hl y (by simp [hy]))
      rw [List.foldl_cons, List.length_cons, show n + (l.length + 1) = n + 1 + l.length by omega]; exact h
  have h := key l ⟨0, 0, 0, 0⟩ 0 ⟨by simp, by simp, by simp, fun _ => ⟨rfl, rfl, rfl⟩, fun h => absurd rfl h⟩ h
  unfold accGo; simpa using h
theorem vEvs_v2 {l : List EventR} (h : vEvs l = true) : ∀ x ∈ l, 0 ≤ x.a2 ∧ x.a2 ≤ 99 := fun x hx => by
  unfold vEvs at h
  simp only [Bool.and_eq_true, List.all_eq_true] at h
  have := h.2 x hx
  unfold vEvB at this
  rw [decide_eq_true_eq] at this
  omega
theorem vEvs_40 {l : List EventR} (h : vEvs l = true) : l.length ≤ 40 := by
  unfold vEvs at h
  simp only [Bool.and_eq_true, decide_eq_true_eq] at h
  exact h.1
theorem acc_take_ok {l : List EventR} (h : vEvs l = true) {k : Nat} (hk : k ≤ l.length) : A4ok (accGo (l.take k)) k := by
  have h1 := accGo_ok (l := l.take k) (fun x hx => vEvs_v2 h x (List.mem_of_mem_take hx))
  rwa [List.length_take, Nat.min_eq_left hk] at h1
set_option maxHeartbeats 1000000 in
theorem sgS1_any (v : Int) (w : World) : Calls Try.prog 75 #[.int .i64 v] w fun e w' => e = .returned (.agg #[.int .i64 1, .int .i64 v, .int .i64 v, .int .i64 v]) ∧ Below w.heap.size w w' := by
  go_enter Try.func75, Try.ntmps75
  go_wp2
  all_goals go_returns
  all_goals exact ⟨rfl, by go_grown⟩
/-- One step by mergeAcc. -/
theorem mgStep_any (a : A4) (n : Nat) (v : Int) (w : World) (h : A4ok a n) (hn : n ≤ 40) (v0 : 0 ≤ v) (v9 : v ≤ 99) :
    Calls Try.prog 73 #[.agg #[.int .i64 a.c, .int .i64 a.s, .int .i64 a.l, .int .i64 a.m], .agg #[.int .i64 1, .int .i64 v, .int .i64 v, .int .i64 v]] w
      fun e w' => e = .returned (.agg #[.int .i64 (accStep a v).c, .int .i64 (accStep a v).s, .int .i64 (accStep a v).l, .int .i64 (accStep a v).m]) ∧ Below w.heap.size w w' := by
  obtain ⟨h1, h2, h3, h4, h5⟩ := h
  by_cases h0 : a.c = 0
  · rw [h0]
    have e : accStep a v = ⟨1, v, v, v⟩ := by unfold accStep; rw [if_pos h0]
    rw [e]
    exact mergeS_0 a.s a.l a.m 1 v v v w
  · have e : accStep a v = ⟨a.c + 1, a.s + v, mnI a.l v, mxI a.m v⟩ := by unfold accStep; rw [if_neg h0]
    rw [e]
    exact mergeS_2 a.c a.s a.l a.m 1 v v v w (by omega) (by omega) (by omega) (by omega) h2 (by omega) v0 (by omega)
theorem b4_far4 {w : World} {g g' : Nat} {a b c d : Value} (h : B4 w g a b c d) (hne : g ≠ g') (x0 x1 x2 x3 : Value) : B4 ((((w.setCell ⟨g', 0, none⟩ x0).setCell ⟨g', 1, none⟩ x1).setCell ⟨g', 2, none⟩ x2).setCell ⟨g', 3, none⟩ x3) g a b c d := by
  have key : ∀ (w : World) (o : Nat) (u : Value), B4 w g a b c d → B4 (w.setCell ⟨g', o, none⟩ u) g a b c d := fun w o u h => by
    obtain ⟨h0, h1, h2, h3, hf, hl⟩ := h
    have hk : (w.setCell ⟨g', o, none⟩ u).heap[g]? = w.heap[g]? := Below.heap_setCell w ⟨g', o, none⟩ u g hne
    exact ⟨(World.cell?_of_block hk).trans h0, (World.cell?_of_block hk).trans h1, (World.cell?_of_block hk).trans h2, (World.cell?_of_block hk).trans h3, fun q => (World.frozen?_of_block hk).trans (hf q), by simpa [World.setCell] using hl⟩
  exact key _ 3 x3 (key _ 2 x2 (key _ 1 x1 (key _ 0 x0 h)))
set_option maxRecDepth 100000 in
set_option maxHeartbeats 4000000 in
theorem specAccOf_any (A : Option Addr) (c : Nat) (l : List EventR) (w : World) (ha : Row EventR.enc 3 w A l) :
    Calls Try.prog 82 #[.slice A l.length c] w fun e w' => e = .returned (accF l).V ∧ Below w.heap.size w w' := by
  have hal := ha.1
  have hB0 : Below w.heap.size w ((w.alloc (.cells #[.int .i64 0, .int .i64 0, .int .i64 0, .int .i64 0] 48)).alloc (.cells #[.int .i64 0, .int .i64 0, .int .i64 0, .int .i64 0] 48)) := by go_grown
  have R0 := (B4.made w (.int .i64 0) (.int .i64 0) (.int .i64 0) (.int .i64 0) 48).keep ((Below.refl _ _).alloc (Nat.le_refl _) (.cells #[.int .i64 0, .int .i64 0, .int .i64 0, .int .i64 0] 48))
  have O0 := B4.made (w.alloc (.cells #[.int .i64 0, .int .i64 0, .int .i64 0, .int .i64 0] 48)) (.int .i64 0) (.int .i64 0) (.int .i64 0) (.int .i64 0) 48
  simp only [World.size_alloc] at O0
  go_enter Try.func82, Try.ntmps82
  go_wp2_with fail
  have zA : ((w.alloc (.cells #[.int .i64 0, .int .i64 0, .int .i64 0, .int .i64 0] 48)).alloc (.cells #[.int .i64 0, .int .i64 0, .int .i64 0, .int .i64 0] 48)).heap.size = w.heap.size + 2 := by simp
  generalize ((w.alloc (.cells #[.int .i64 0, .int .i64 0, .int .i64 0, .int .i64 0] 48)).alloc (.cells #[.int .i64 0, .int .i64 0, .int .i64 0, .int .i64 0] 48)) = wA at *
  refine (specValidEvents_any A c l wA (ha.keep hB0)).mono ?_
  rintro e w1 ⟨rfl, hb1⟩
  have hB1 := hB0.trans (hb1.mono hB0.size)
  have R1 := R0.keep hb1
  have O1 := O0.keep hb1
  have hz1 := hb1.size
  clear hb1 R0 O0 hB0
  rcases Bool.eq_false_or_eq_true (vEvs l) with hv | hv
  · rw [hv]
    have Hv := Lib.hid hv
    have HR := Lib.hid R1
    have HO := Lib.hid O1
    clear hv R1 O1
    go_wp2
    go_loopw [4] (fun i wr => ∃ k : Nat, k ≤ l.length ∧ i = .int .i64 k ∧ B4 wr (w.heap.size + 1) (.int .i64 (accGo (l.take k)).c) (.int .i64 (accGo (l.take k)).s) (.int .i64 (accGo (l.take k)).l) (.int .i64 (accGo (l.take k)).m) ∧ B4 wr w.heap.size (.int .i64 0) (.int .i64 0) (.int .i64 0) (.int .i64 0) ∧ Below w.heap.size w wr) (fun i _ => l.length - (intOf i).toNat)
    case atStart => exact ⟨0, Nat.zero_le _, rfl, HO.out, HR.out, hB1⟩
    case round =>
      obtain ⟨k, hk, rfl, hO, hR, hbw⟩ := hrel
      clear HR HO
      have Ho := Lib.hid hO
      have Hr := Lib.hid hR
      obtain ⟨p0, p1, p2, p3, pf, pl⟩ := hO
      clear hR
      have hok := acc_take_ok Hv.out hk
      have hl40 := vEvs_40 Hv.out
      by_cases hlt : k < l.length
      · obtain ⟨b, off, rfl, hblt, q0, q1, q2⟩ := (ha.keep hbw).atEvent hlt
        have hx : l[k]? = some l[k] := List.getElem?_eq_getElem hlt
        have hbd := vEvs_v2 Hv.out _ (List.getElem_mem hlt)
        have hn := accGo_next hx
        generalize l[k] = x at *
        generalize accGo (l.take k) = a at *
        have Hn := Lib.hid hn
        have i0 : (0 : Int) ≤ (k : Int) := by omega
        have i1 : (k : Int) < (l.length : Int) := by omega
        have i5 : ((k : Int)).toNat = k := by omega
        obtain ⟨x0, x9⟩ := hbd
        clear hx hn q0 q1 ha
        go_wp2_with fail
        go_region_with ((first | (go_at_call 75; (with_reducible refine (sgS1_any x.a2 _).mono ?_); rintro e v1 ⟨rfl, b1_r⟩; have K1_r : Below wr.heap.size wr v1 := (by first | exact b1_r | exact Below.trans (Below.refl wr.heap.size wr).drew (b1_r.mono (by simp))); have z1_r := K1_r.size; have s0_r := (K1_r.cell pl).trans p0; have s1_r := (K1_r.cell pl).trans p1; have s2_r := (K1_r.cell pl).trans p2; have s3_r := (K1_r.cell pl).trans p3) | (go_at_call 73; refine (mgStep_any a k x.a2 _ hok (by omega) (by omega) (by omega)).mono ?_; rintro e v2 ⟨rfl, b2_r⟩; have K2_r : Below wr.heap.size wr v2 := K1_r.trans (b2_r.mono K1_r.size); have z2_r := K2_r.size; have hR2 := Ho.out.keep K2_r; obtain ⟨r0, r1, r2, r3, rf, rl⟩ := hR2)))
        all_goals
          have hf := below_set4 (g := w.heap.size + 1) (hbw.trans (K2_r.mono hbw.size)) (by omega) (.int .i64 (accStep a x.a2).c) (.int .i64 (accStep a x.a2).s) (.int .i64 (accStep a x.a2).l) (.int .i64 (accStep a x.a2).m)
          have hs := (Ho.out.keep K2_r).set (.int .i64 (accStep a x.a2).c) (.int .i64 (accStep a x.a2).s) (.int .i64 (accStep a x.a2).l) (.int .i64 (accStep a x.a2).m)
          have hr2 := b4_far4 (Hr.out.keep K2_r) (g' := w.heap.size + 1) (by omega) (.int .i64 (accStep a x.a2).c) (.int .i64 (accStep a x.a2).s) (.int .i64 (accStep a x.a2).l) (.int .i64 (accStep a x.a2).m)
          have Hp := Lib.hid (show _ ∧ _ ∧ _ from ⟨hs, hr2, hf⟩)
          clear hs hr2 hf
          go_wp2
          go_roundw
          case rel => exact ⟨k + 1, by omega, by go_num, by rw [Hn.out]; exact Hp.out.1, Hp.out.2.1, Hp.out.2.2⟩
          case measure => simp [intOf]; omega
      · have hkl : l.take k = l := List.take_of_length_le (by omega)
        rw [hkl] at Ho p0 p1 p2 p3
        have HF := Lib.hid (show accF l = accGo l by unfold accF; rw [if_pos Hv.out])
        generalize accGo l = a at *
        have hrs := Hr.out.set (.int .i64 a.c) (.int .i64 a.s) (.int .i64 a.l) (.int .i64 a.m)
        obtain ⟨e0, e1, e2, e3, ef, el⟩ := hrs
        obtain ⟨r0, r1, r2, r3, rf, rl⟩ := Hr.out
        have HB := Lib.hid (below_set4 hbw (Nat.le_refl _) (.int .i64 a.c) (.int .i64 a.s) (.int .i64 a.l) (.int .i64 a.m))
        clear hok hkl
        go_wp2
        all_goals (try simp only [Exit.inBlock, Exit.then])
        all_goals refine bodyPost_ret (v := a.V) (by simp [results, Try.results82, go_sem, e0, e1, e2, e3, A4.V]) rfl ?_
        all_goals exact ⟨by rw [HF.out], HB.out⟩
  · rw [hv]
    have HF := Lib.hid (show accF l = ⟨0, 0, 0, 0⟩ by unfold accF; rw [if_neg (by simp [hv])])
    have hrs := R1.set (.int .i64 0) (.int .i64 0) (.int .i64 0) (.int .i64 0)
    obtain ⟨e0, e1, e2, e3, ef, el⟩ := hrs
    obtain ⟨r0, r1, r2, r3, rf, rl⟩ := R1
    obtain ⟨p0, p1, p2, p3, pf, pl⟩ := O1
    have HB := Lib.hid (below_set4 hB1 (Nat.le_refl _) (.int .i64 0) (.int .i64 0) (.int .i64 0) (.int .i64 0))
    clear hv
    go_wp2
    all_goals (try simp only [Exit.inBlock, Exit.then])
    all_goals refine bodyPost_ret (v := (⟨0, 0, 0, 0⟩ : A4).V) (by simp [results, Try.results82, go_sem, e0, e1, e2, e3, A4.V]) rfl ?_
    all_goals exact ⟨by rw [HF.out], HB.out⟩
end Go.Proofs.Ytehedhkadjidpab
