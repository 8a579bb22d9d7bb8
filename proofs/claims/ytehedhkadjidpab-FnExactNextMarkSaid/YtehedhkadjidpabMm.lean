import Derived.Test.YtehedhkadjidpabInIdx
import Derived.Test.YtehedhkadjidpabUpdS
import Derived.Test.YtehedhkadjidpabBoxB
import Derived.Test.YtehedhkadjidpabLIs
import Derived.Lib.SliceRun
import Derived.Lib.EndianMore
import Derived.Deep.Upon
namespace Go.Proofs.Ytehedhkadjidpab
open Go.RowKit
set_option maxHeartbeats 1000000 in
theorem mmC_any (x : InputR) (now idle : Int) (m m2 : Nat) (w : World) (hm : w.cell? ⟨m, 0, none⟩ = some (.int .i64 now)) (hlt : m < w.heap.size) (hm2 : w.cell? ⟨m2, 0, none⟩ = some (.int .i64 idle)) (hlt2 : m2 < w.heap.size) (h0 : 0 ≤ x.a1) (h1 : x.a1 ≤ 9999) (n0 : 0 ≤ now) (n1 : now ≤ 9999) :
    Calls Try.prog 56 #[.agg #[.int .i64 x.a0, .int .i64 x.a1], .pointer (some ⟨m, 0, none⟩), .pointer (some ⟨m2, 0, none⟩)] w fun e w' => e = .returned (.bool (idleB now idle x)) ∧ Below w.heap.size w w' := by
  go_enter Try.func56, Try.ntmps56
  go_wp2
  all_goals go_returns
  all_goals refine ⟨ret_bool ?_, by go_grown⟩
  all_goals
    unfold idleB
    first | rfl | (rw [Bool.eq_iff_iff]; simp; done) | (rw [Bool.eq_iff_iff]; simp; omega)
def nidB (now idle : Int) (x : InputR) : Bool := !idleB now idle x
def fiGo (p : InputR → Bool) : List InputR → Nat → Int
  | [], _ => -1
  | x :: l, i => if p x then (i : Int) else fiGo p l (i + 1)
theorem fi_hit {p : InputR → Bool} : ∀ {l : List InputR} {k : Nat} {x : InputR} (i : Nat), (l.take k).all (fun y => !p y) = true → l[k]? = some x → p x = true → fiGo p l i = ((i + k : Nat) : Int)
  | [], k, x, i, _, hx, _ => by simp at hx
  | y :: l, 0, x, i, _, hx, hp => by simp at hx; subst hx; simp [fiGo, hp]
  | y :: l, k + 1, x, i, ha, hx, hp => by
    simp only [List.take_succ_cons, List.all_cons, Bool.and_eq_true, Bool.not_eq_true'] at ha
    simp only [fiGo, ha.1]
    rw [if_neg (by simp), fi_hit (i + 1) ha.2 (by simpa using hx) hp]; congr 1; omega
theorem fi_none {p : InputR → Bool} : ∀ {l : List InputR} (i : Nat), l.all (fun y => !p y) = true → fiGo p l i = -1
  | [], i, _ => rfl
  | y :: l, i, ha => by
    simp only [List.all_cons, Bool.and_eq_true, Bool.not_eq_true'] at ha
    simp only [fiGo, ha.1]
    rw [if_neg (by simp)]; exact fi_none (i + 1) ha.2
theorem fi_split (p : InputR → Bool) (l : List InputR) : (fiGo p l 0 = -1 ∧ l.all (fun y => !p y) = true) ∨ ∃ (k : Nat) (x : InputR), fiGo p l 0 = (k : Int) ∧ l[k]? = some x ∧ p x = true ∧ (l.take k).all (fun y => !p y) = true := by
  by_cases h : l.all (fun y => !p y) = true
  · exact .inl ⟨fi_none 0 h, h⟩
  · right
    have key : ∀ (l : List InputR), ¬ l.all (fun y => !p y) = true → ∃ (k : Nat) (x : InputR), l[k]? = some x ∧ p x = true ∧ (l.take k).all (fun y => !p y) = true := by
      intro l
      induction l with
      | nil => intro h; simp at h
      | cons y l ih =>
        intro h
        by_cases hy : p y = true
        · exact ⟨0, y, by simp, hy, by simp⟩
        · have h' : ¬ l.all (fun y => !p y) = true := fun h2 => h (by simp only [List.all_cons, h2, Bool.and_true]; simpa using hy)
          obtain ⟨k, x, h1, h2, h3⟩ := ih h'
          exact ⟨k + 1, x, by simpa using h1, h2, by simp only [List.take_succ_cons, List.all_cons, h3, Bool.and_true]; simpa using hy⟩
    obtain ⟨k, x, h1, h2, h3⟩ := key l h
    exact ⟨k, x, by rw [fi_hit 0 h3 h1 h2]; simp, h1, h2, h3⟩
set_option maxRecDepth 100000 in
set_option maxHeartbeats 2000000 in
theorem mmIx_any (A : Option Addr) (c : Nat) (l : List InputR) (now idle : Int) (m m2 : Nat) (w : World) (ha : Row InputR.enc 2 w A l) (hv : vIns l = true) (hm : w.cell? ⟨m, 0, none⟩ = some (.int .i64 now)) (hlt : m < w.heap.size) (hm2 : w.cell? ⟨m2, 0, none⟩ = some (.int .i64 idle)) (hlt2 : m2 < w.heap.size) (n0 : 0 ≤ now) (n1 : now ≤ 9999) :
    Calls Try.prog 78 #[.slice A l.length c, .func (.func 56) #[] #[.pointer (some ⟨m, 0, none⟩), .pointer (some ⟨m2, 0, none⟩)]] w fun e w' => e = .returned (.int .i64 (fiGo (idleB now idle) l 0)) ∧ Below w.heap.size w w' := by
  have hal := ha.1
  have Hv := Lib.hid hv
  have Hm := Lib.hid hm
  have Hm2 := Lib.hid hm2
  clear hv hm hm2
  go_enter Try.func78, Try.ntmps78
  go_wp2
  go_loopw [8] (fun i wr => ∃ k : Nat, k ≤ l.length ∧ i = .int .i64 k ∧ (l.take k).all (fun y => !idleB now idle y) = true ∧ Below w.heap.size w wr) (fun i _ => l.length - (intOf i).toNat)
  case atStart => exact ⟨0, Nat.zero_le _, rfl, by simp, Below.refl _ _⟩
  case round =>
    obtain ⟨k, hk, rfl, hall, hbw⟩ := hrel
    have Hall := Lib.hid hall
    clear hall
    by_cases hkl : k < l.length
    · obtain ⟨b, off, rfl, _, q0, q1⟩ := (ha.keep hbw).atInput hkl
      have hx := List.getElem?_eq_getElem hkl
      obtain ⟨x0, x1, x2, x3⟩ := in_bounds Hv.out hx
      generalize l[k] = x at *
      have Hx := Lib.hid hx
      clear hx ha
      have Hmr := Lib.hid ((hbw.cell (p := ⟨m, 0, none⟩) hlt).trans Hm.out)
      have Hmr2 := Lib.hid ((hbw.cell (p := ⟨m2, 0, none⟩) hlt2).trans Hm2.out)
      have hlr : m < wr.heap.size := by have := hbw.size; omega
      have hlr2 : m2 < wr.heap.size := by have := hbw.size; omega
      go_wp2_with fail
      refine (mmC_any x now idle m m2 _ Hmr.out hlr Hmr2.out hlr2 (by omega) (by omega) n0 n1).mono ?_
      rintro e w1 ⟨rfl, hb1⟩
      have hbw1 := hbw.trans (hb1.mono hbw.size)
      clear hb1 Hmr hlr Hmr2 hlr2
      rcases Bool.eq_false_or_eq_true (idleB now idle x) with hin | hin
      · rw [hin]
        have Hn := Lib.hid (show fiGo (idleB now idle) l 0 = (k : Int) by rw [fi_hit 0 Hall.out Hx.out hin]; simp)
        clear hin
        go_wp2
        all_goals go_returns
        all_goals exact ⟨ret_int Hn.out.symm, hbw1⟩
      · rw [hin]
        have Hn := Lib.hid (all_next Hall.out Hx.out (p := fun y => !idleB now idle y) (by simp [hin]))
        clear hin
        go_wp2
        go_roundw
        case rel => exact ⟨k + 1, by omega, by go_num, Hn.out, hbw1⟩
        case measure => simp [intOf]; omega
    · have Hn := Lib.hid (show fiGo (idleB now idle) l 0 = -1 from fi_none 0 (by have h := Hall.out; rwa [List.take_of_length_le (by omega)] at h))
      go_wp2
      all_goals go_returns
      all_goals exact ⟨ret_int Hn.out.symm, hbw⟩
theorem run_clear2 {P : Program} (w : World) (t e ty : TypeId) (z0 : Value) (ht : P.underlying t = some (.slice e)) (hv : ∀ w, (zeroValue e).run P w = .ok (.agg #[z0, z0]) w) (hz : (Value.agg #[z0, z0]).cells = #[z0, z0]) (h1 : z0.oneCell' = true) (b o n c : Nat) (hn : 0 < n)
    (hc : ∀ j, j < n * 2 → (w.cell? ⟨b, o + j, none⟩).isSome = true) (hf : ∀ j, j < n * 2 → w.frozen? ⟨b, o + j, none⟩ = false) :
    (Builtin.clear_ #[t] ty #[.slice (some ⟨b, o, none⟩) n c]).run P w = .ok (.tuple #[]) (w.setCells b o (List.replicate (n * 2) z0)) := by
  have hzc : (Builtin.zeroCells (Value.agg #[z0, z0]).cells n).toList = List.replicate (n * 2) z0 := by
    rw [hz]
    simp [Builtin.zeroCells]
    apply List.ext_getElem
    · simp
    · intro i h1 h2
      simp
      rcases Nat.mod_two_eq_zero_or_one i with h | h <;> rw [h] <;> rfl
  have hst := run_storeCells_cells (P := P) b o (List.replicate (n * 2) z0) 0 w (by simpa using hc) (by simpa using hf) (by intro v hv'; rw [List.eq_of_mem_replicate hv']; exact h1)
  simp only [Nat.add_zero] at hst
  obtain ⟨m, rfl⟩ : ∃ m, n = m + 1 := ⟨n - 1, by omega⟩
  simp [Builtin.clear_, run_underlying ht, hv, hzc, hst]
theorem own_put2i {T B n : Nat} {w : World} {g c : Nat} {l : List InputR} (h : Own InputR.enc 2 T w B (.slice (some ⟨g, 0, none⟩) n c) l) (hn : l.length = n) {i : Nat} (hi : i < n) (x : InputR) :
    Own InputR.enc 2 T ((w.setCell ⟨g, i * 2, none⟩ (.int .i64 x.a0)).setCell ⟨g, i * 2 + 1, none⟩ (.int .i64 x.a1)) B (.slice (some ⟨g, 0, none⟩) n c) (l.set i x) := by
  subst hn
  obtain ⟨h1, h2⟩ := h
  obtain ⟨s1, -⟩ := h2.stored (i * 2) (.int .i64 x.a0)
  obtain ⟨s2, -⟩ := s1.stored (i * 2 + 1) (.int .i64 x.a1)
  rw [set_flat2 InputR.enc_len l i (l[i]'hi) x (.int .i64 x.a0) (.int .i64 x.a1) (List.getElem?_eq_getElem hi) rfl] at s2
  exact ⟨by simpa using h1, by simpa using s2⟩
theorem row_clear {w : World} {g o : Nat} {vs : List Value} {l : List InputR} (h : Row InputR.enc 2 w (some ⟨g, 0, none⟩) l) (ho : l.length * 2 ≤ o) : Row InputR.enc 2 (w.setCells g o vs) (some ⟨g, 0, none⟩) l := by
  refine ⟨h.1, fun h0 => ?_⟩
  obtain ⟨b, off, e, hlt, hc⟩ := h.2 h0
  injection e with e; injection e with e1 e2; subst e1 e2
  refine ⟨g, 0, rfl, Nat.lt_of_lt_of_le hlt (Lib.below_setCells_w (B := 0) (Nat.zero_le _) vs o w).size, fun i x hx j u hu => ?_⟩
  have hj : j < 2 := by have := (List.getElem?_eq_some_iff.1 hu).1; rwa [InputR.enc_len] at this
  have hi : i < l.length := (List.getElem?_eq_some_iff.1 hx).1
  rw [World.cell?_setCells_out g vs o w _ (fun _ _ => .inl (by show 0 + i * 2 + j < o; omega))]
  exact hc i x hx j u hu
theorem gb_setCells (w : World) (g o : Nat) (vs : List Value) : w.grownBy (w.setCells g o vs) (some g) := by
  have h := Lib.below_setCells_w (B := 0) (g := g) (Nat.zero_le _) vs o w
  exact ⟨h.os, h.tape, h.output, h.size, fun i hi hne => World.heap_setCells_other w g o vs hi (fun e => hne (by rw [e]))⟩
theorem filter_take_next {α : Type} (p : α → Bool) {l : List α} {k : Nat} {x : α} (hx : l[k]? = some x) : (l.take (k + 1)).filter p = (l.take k).filter p ++ (if p x then [x] else []) := by
  rw [List.take_add_one, hx, List.filter_append]; simp; split <;> simp_all
def DelPost (g c : Nat) (l : List InputR) (w : World) (e : Ending) (w' : World) : Prop :=
  e = .returned (.slice (some ⟨g, 0, none⟩) l.length c) ∧ Row InputR.enc 2 w' (some ⟨g, 0, none⟩) l ∧ w.grownBy w' (some g)
/-- A round of DeleteFunc: j elements are looked at, i are kept. -/
def DelSt (l : List InputR) (p : InputR → Bool) (T B g c : Nat) (w : World) (v5 v6 : Value) (wr : World) : Prop :=
  ∃ (i j : Nat) (o : List InputR), v5 = .int .i64 i ∧ v6 = .int .i64 j ∧ i < j ∧ j ≤ l.length ∧ o.length = l.length ∧ o.take i = (l.take j).filter p ∧ o.drop j = l.drop j ∧ Own InputR.enc 2 T wr B (.slice (some ⟨g, 0, none⟩) l.length c) o ∧ w.grownBy wr (some g)
theorem del_keep {l o : List InputR} {p : InputR → Bool} {i j : Nat} {x : InputR} (hij : i < j) (hol : o.length = l.length) (h1 : o.take i = (l.take j).filter p) (h2 : o.drop j = l.drop j) (hx : l[j]? = some x) (hp : p x = true) :
    (o.set i x).take (i + 1) = (l.take (j + 1)).filter p ∧ (o.set i x).drop (j + 1) = l.drop (j + 1) := by
  have hj : j < l.length := (List.getElem?_eq_some_iff.1 hx).1
  constructor
  · rw [filter_take_next p hx, if_pos hp, ← h1, List.take_succ_eq_append_getElem (by simp; omega), List.take_set_of_le (Nat.le_refl i)]
    simp
  · rw [List.drop_set_of_lt (by omega)]
    have := congrArg (List.drop 1) h2
    rwa [List.drop_drop, List.drop_drop] at this
theorem del_skip {l o : List InputR} {p : InputR → Bool} {i j : Nat} {x : InputR} (h1 : o.take i = (l.take j).filter p) (h2 : o.drop j = l.drop j) (hx : l[j]? = some x) (hp : p x = false) :
    o.take i = (l.take (j + 1)).filter p ∧ o.drop (j + 1) = l.drop (j + 1) := by
  constructor
  · rw [filter_take_next p hx, if_neg (by simp [hp]), List.append_nil]; exact h1
  · have := congrArg (List.drop 1) h2
    rwa [List.drop_drop, List.drop_drop] at this
theorem gb_below_r {a b c : World} {g : Nat} (h : a.grownBy b (some g)) (hb : Below b.heap.size b c) : a.grownBy c (some g) :=
  gb_trans h ⟨hb.os, hb.tape, hb.output, hb.size, fun i hi _ => hb.block i hi⟩
end Go.Proofs.Ytehedhkadjidpab
