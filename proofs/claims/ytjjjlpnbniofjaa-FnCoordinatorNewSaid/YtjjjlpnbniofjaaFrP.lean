import Derived.Test.YtjjjlpnbniofjaaTyFileRef
import Derived.Test.YtjjjlpnbniofjaaTyInt
import Derived.Test.YtjjjlpnbniofjaaPure
import Derived.Maps.OwnSet
import Derived.Maps.OwnOps
import Derived.IntWalk
namespace Go.Proofs.Ytjjjlpnbniofjaa
open Go.RowKit
theorem asc_ext {α : Type} {R : α → α → Prop} (hi : ∀ x, ¬ R x x) (ha : ∀ x y, R x y → ¬ R y x) : ∀ {l m : List α}, l.Pairwise R → m.Pairwise R → (∀ x, x ∈ l ↔ x ∈ m) → l = m
  | [], [], _, _, _ => rfl
  | [], y :: m, _, _, h => absurd ((h y).2 (by simp)) (by simp)
  | x :: l, [], _, _, h => absurd ((h x).1 (by simp)) (by simp)
  | x :: l, y :: m, hl, hm, h => by
    obtain ⟨h1, h2⟩ := List.pairwise_cons.1 hl
    obtain ⟨h3, h4⟩ := List.pairwise_cons.1 hm
    have e : x = y := by
      rcases List.mem_cons.1 ((h x).1 (by simp)) with e | hx
      · exact e
      · rcases List.mem_cons.1 ((h y).2 (by simp)) with e | hy
        · exact e.symm
        · exact absurd (h1 _ hy) (ha _ _ (h3 _ hx))
    subst e
    congr 1
    refine asc_ext hi ha h2 h4 (fun z => ?_)
    constructor
    · intro hz
      rcases List.mem_cons.1 ((h z).1 (by simp [hz])) with rfl | h'
      · exact absurd (h1 _ hz) (hi _)
      · exact h'
    · intro hz
      rcases List.mem_cons.1 ((h z).2 (by simp [hz])) with rfl | h'
      · exact absurd (h3 _ hz) (hi _)
      · exact h'
def vRefB (x : FileRefR) : Bool := decide (0 ≤ x.a0 ∧ x.a0 ≤ 99 ∧ 1 ≤ x.a1 ∧ x.a1 ≤ 999)
def cmpRef (x y : FileRefR) : Int := cmpI x.a0 y.a0
def vRefs (l : List FileRefR) : Bool := l.all vRefB && ascB cmpRef l
def vFileB (f : Int) : Bool := decide (0 ≤ f ∧ f ≤ 99)
def vFiles (fs : List Int) : Bool := fs.all vFileB && ascB cmpI fs
def refC : List FileRefR → Int → Int
  | [], _ => 0
  | x :: l, f => if x.a0 = f then x.a1 else refC l f
theorem cmpI_neg (a b : Int) : cmpI a b < 0 ↔ a < b := by unfold cmpI; (repeat' split) <;> omega
theorem vRefs_pw {l : List FileRefR} (h : vRefs l = true) : l.Pairwise (fun x y => x.a0 < y.a0) := by
  unfold vRefs at h
  rw [Bool.and_eq_true] at h
  have := asc_pairwise (c := cmpRef) (fun x y z h1 h2 => by unfold cmpRef at *; rw [cmpI_neg] at *; omega) h.2
  exact this.imp (fun {x y} h => by unfold cmpRef at h; rwa [cmpI_neg] at h)
theorem vRefs_bd {l : List FileRefR} (h : vRefs l = true) {x : FileRefR} (hx : x ∈ l) : 0 ≤ x.a0 ∧ x.a0 ≤ 99 ∧ 1 ≤ x.a1 ∧ x.a1 ≤ 999 := by
  unfold vRefs at h
  rw [Bool.and_eq_true, List.all_eq_true] at h
  have := h.1 x hx
  unfold vRefB at this
  exact of_decide_eq_true this
theorem vFiles_pw {l : List Int} (h : vFiles l = true) : l.Pairwise (fun x y => x < y) := by
  unfold vFiles at h
  rw [Bool.and_eq_true] at h
  have := asc_pairwise (c := cmpI) (fun x y z h1 h2 => by rw [cmpI_neg] at *; omega) h.2
  exact this.imp (fun {x y} h => by rwa [cmpI_neg] at h)
theorem vFiles_bd {l : List Int} (h : vFiles l = true) {x : Int} (hx : x ∈ l) : 0 ≤ x ∧ x ≤ 99 := by
  unfold vFiles at h
  rw [Bool.and_eq_true, List.all_eq_true] at h
  have := h.1 x hx
  unfold vFileB at this
  exact of_decide_eq_true this
theorem refC_none {l : List FileRefR} {f : Int} (h : ∀ x ∈ l, x.a0 ≠ f) : refC l f = 0 := by
  induction l with
  | nil => rfl
  | cons y l ih =>
    unfold refC
    rw [if_neg (h y (by simp))]
    exact ih (fun x hx => h x (by simp [hx]))
theorem refC_some {l : List FileRefR} (hp : l.Pairwise (fun x y => x.a0 < y.a0)) {x : FileRefR} (hx : x ∈ l) : refC l x.a0 = x.a1 := by
  induction l with
  | nil => simp at hx
  | cons y l ih =>
    obtain ⟨h1, h2⟩ := List.pairwise_cons.1 hp
    unfold refC
    rcases List.mem_cons.1 hx with rfl | hx
    · simp
    · rw [if_neg (by have := h1 x hx; omega)]
      exact ih h2 hx
theorem refC_or (l : List FileRefR) (f : Int) : refC l f = 0 ∨ ∃ x ∈ l, x.a0 = f ∧ x.a1 = refC l f := by
  induction l with
  | nil => exact .inl rfl
  | cons y l ih =>
    unfold refC
    split
    · rename_i h
      exact .inr ⟨y, by simp, h, rfl⟩
    · rcases ih with h | ⟨x, hx, h1, h2⟩
      · exact .inl h
      · exact .inr ⟨x, by simp [hx], h1, h2⟩
theorem refC_bd {l : List FileRefR} (h : vRefs l = true) (f : Int) : 0 ≤ refC l f ∧ refC l f ≤ 999 := by
  rcases refC_or l f with h0 | ⟨x, hx, -, h2⟩
  · omega
  · have := vRefs_bd h hx; omega
theorem refC_out {l : List FileRefR} (h : vRefs l = true) {f : Int} (hf : ¬ (0 ≤ f ∧ f ≤ 99)) : refC l f = 0 := by
  rcases refC_or l f with h0 | ⟨x, hx, h1, -⟩
  · exact h0
  · have := vRefs_bd h hx; omega
/-- The references that counts make up. -/
def cntU (g : Int → Int) (N : Nat) : List FileRefR := ((List.range N).filter (fun f => decide (0 < g (f : Nat)))).map fun (f : Nat) => ⟨(f : Int), g f⟩
def cntR (g : Int → Int) : List FileRefR := cntU g 100
theorem cntU_succ (g : Int → Int) (N : Nat) : cntU g (N + 1) = cntU g N ++ (if 0 < g N then [⟨N, g N⟩] else []) := by
  unfold cntU
  rw [List.range_succ, List.filter_append, List.map_append]
  congr 1
  by_cases h : 0 < g N <;> simp [h]
theorem cntU_len (g : Int → Int) (N : Nat) : (cntU g N).length ≤ N := by
  unfold cntU
  rw [List.length_map]
  refine Nat.le_trans (List.length_filter_le _ _) (by simp)
theorem mem_cnt {g : Int → Int} {x : FileRefR} : x ∈ cntR g ↔ 0 ≤ x.a0 ∧ x.a0 ≤ 99 ∧ 0 < g x.a0 ∧ x.a1 = g x.a0 := by
  unfold cntR cntU
  rw [List.mem_map]
  constructor
  · rintro ⟨f, hf, rfl⟩
    rw [List.mem_filter, List.mem_range, decide_eq_true_eq] at hf
    exact ⟨by simp, by simp; omega, hf.2, rfl⟩
  · rintro ⟨h1, h2, h3, h4⟩
    obtain ⟨n, hn⟩ := Int.eq_ofNat_of_zero_le h1
    refine ⟨n, ?_, ?_⟩
    · rw [List.mem_filter, List.mem_range, decide_eq_true_eq, ← hn]
      exact ⟨by omega, h3⟩
    · rw [← hn, ← h4]
theorem cnt_pw (g : Int → Int) : (cntR g).Pairwise (fun x y => x.a0 < y.a0) := by
  unfold cntR cntU
  rw [List.pairwise_map]
  refine List.Pairwise.filter _ ?_
  exact List.pairwise_lt_range.imp (fun {a b} h => by simp; omega)
theorem ref_ext {l m : List FileRefR} (hl : l.Pairwise (fun x y => x.a0 < y.a0)) (hm : m.Pairwise (fun x y => x.a0 < y.a0)) (h : ∀ x, x ∈ l ↔ x ∈ m) : l = m :=
  asc_ext (fun x => by omega) (fun x y h => by omega) hl hm h
theorem cnt_congr {g g' : Int → Int} (h : ∀ f, 0 ≤ f → f ≤ 99 → g f = g' f) : cntR g = cntR g' := by
  refine ref_ext (cnt_pw _) (cnt_pw _) (fun x => ?_)
  rw [mem_cnt, mem_cnt]
  constructor
  · rintro ⟨h1, h2, h3, h4⟩; rw [h _ h1 h2] at h3 h4; exact ⟨h1, h2, h3, h4⟩
  · rintro ⟨h1, h2, h3, h4⟩; rw [← h _ h1 h2] at h3 h4; exact ⟨h1, h2, h3, h4⟩
theorem refC_cnt {g : Int → Int} {f : Int} (h0 : 0 ≤ g f) (hs : ¬ (0 ≤ f ∧ f ≤ 99) → g f = 0) : refC (cntR g) f = g f := by
  by_cases hb : 0 ≤ f ∧ f ≤ 99
  · by_cases hg : 0 < g f
    · have hm : (⟨f, g f⟩ : FileRefR) ∈ cntR g := mem_cnt.2 ⟨hb.1, hb.2, hg, rfl⟩
      exact refC_some (cnt_pw _) hm
    · rw [refC_none (fun x hx e => by have := (mem_cnt.1 hx).2.2.1; rw [e] at this; exact hg this)]
      omega
  · rw [refC_none (fun x hx e => by have := mem_cnt.1 hx; omega), hs hb]
theorem cnt_valid {g : Int → Int} (hg : ∀ f, g f ≤ 999) : vRefs (cntR g) = true := by
  unfold vRefs
  rw [Bool.and_eq_true, List.all_eq_true]
  constructor
  · intro x hx
    have h := mem_cnt.1 hx
    unfold vRefB
    have := hg x.a0
    exact decide_eq_true ⟨h.1, h.2.1, by omega, by omega⟩
  · rw [asc_iff]
    intro i x y hx hy
    unfold cmpRef
    rw [cmpI_neg]
    exact pw_get (cnt_pw g) (Nat.lt_succ_self i) hx hy
theorem cnt_refC {l : List FileRefR} (h : vRefs l = true) : cntR (refC l) = l := by
  refine ref_ext (cnt_pw _) (vRefs_pw h) (fun x => ?_)
  rw [mem_cnt]
  constructor
  · rintro ⟨-, -, h3, h4⟩
    rcases refC_or l x.a0 with h0 | ⟨y, hy, h1, h2⟩
    · omega
    · have : y = x := by cases x; cases y; simp_all
      rwa [← this]
  · intro hx
    have hb := vRefs_bd h hx
    have := refC_some (vRefs_pw h) hx
    exact ⟨hb.1, hb.2.1, by omega, this.symm⟩
def inN (fs : List Int) (f : Int) : Int := if f ∈ fs then 1 else 0
theorem inN_bd (fs : List Int) (f : Int) : 0 ≤ inN fs f ∧ inN fs f ≤ 1 := by unfold inN; split <;> omega
def rgN (l : List FileRefR) (fs : List Int) (f : Int) : Int := refC l f + inN fs f
def rgK (l : List FileRefR) (fs : List Int) : Bool := vRefs l && vFiles fs && fs.all (fun f => decide (refC l f ≤ 998))
def rgF (l : List FileRefR) (fs : List Int) : List FileRefR := if rgK l fs = true then cntR (rgN l fs) else []
def rlN (l : List FileRefR) (fs : List Int) (f : Int) : Int := refC l f - inN fs f
def rlK (l : List FileRefR) (fs : List Int) : Bool := vRefs l && vFiles fs && fs.all (fun f => decide (1 ≤ refC l f))
def rlF (l : List FileRefR) (fs : List Int) : List FileRefR := if rlK l fs = true then cntR (rlN l fs) else []
def rlG (l : List FileRefR) (fs : List Int) : List Int := if rlK l fs = true then fs.filter (fun f => decide (refC l f = 1)) else []
def nfF (l : List FileRefR) (fs : List Int) : List Int := if (vRefs l && vFiles fs) = true then fs.filter (fun f => decide (refC l f = 0)) else []
def fcF (l : List FileRefR) (f : Int) : Int := if vRefs l = true then refC l f else -1
theorem rgN_bd {l : List FileRefR} {fs : List Int} (h : rgK l fs = true) (f : Int) : 0 ≤ rgN l fs f ∧ rgN l fs f ≤ 999 := by
  unfold rgK at h
  rw [Bool.and_eq_true, Bool.and_eq_true, List.all_eq_true] at h
  have h1 := refC_bd h.1.1 f
  unfold rgN inN
  split
  · rename_i hc
    have := h.2 f hc
    rw [decide_eq_true_eq] at this
    omega
  · omega
theorem rgN_out {l : List FileRefR} {fs : List Int} (h : (vRefs l && vFiles fs) = true) {f : Int} (hf : ¬ (0 ≤ f ∧ f ≤ 99)) : rgN l fs f = 0 := by
  rw [Bool.and_eq_true] at h
  unfold rgN inN
  rw [refC_out h.1 hf, if_neg (fun hc => hf (vFiles_bd h.2 hc))]
  rfl
theorem rlN_bd {l : List FileRefR} {fs : List Int} (h : rlK l fs = true) (f : Int) : 0 ≤ rlN l fs f ∧ rlN l fs f ≤ 999 := by
  unfold rlK at h
  rw [Bool.and_eq_true, Bool.and_eq_true, List.all_eq_true] at h
  have h1 := refC_bd h.1.1 f
  unfold rlN inN
  split
  · rename_i hc
    have := h.2 f hc
    rw [decide_eq_true_eq] at this
    omega
  · omega
theorem rlN_out {l : List FileRefR} {fs : List Int} (h : (vRefs l && vFiles fs) = true) {f : Int} (hf : ¬ (0 ≤ f ∧ f ≤ 99)) : rlN l fs f = 0 := by
  rw [Bool.and_eq_true] at h
  unfold rlN inN
  rw [refC_out h.1 hf, if_neg (fun hc => hf (vFiles_bd h.2 hc))]
  rfl
/-- What the model collects. -/
theorem rlF_spec {l : List FileRefR} {fs : List Int} (h : vRefs l = true) : l.filterMap (fun x => if 0 < x.a1 - inN fs x.a0 then some (⟨x.a0, x.a1 - inN fs x.a0⟩ : FileRefR) else none) = cntR (rlN l fs) := by
  refine ref_ext ?_ (cnt_pw _) (fun x => ?_)
  · refine List.Pairwise.filterMap _ ?_ (vRefs_pw h)
    intro a a' hlt b hb b' hb'
    split at hb
    · split at hb'
      · injection hb with hb
        injection hb' with hb'
        subst hb hb'
        exact hlt
      · cases hb'
    · cases hb
  · rw [List.mem_filterMap, mem_cnt]
    constructor
    · rintro ⟨y, hy, he⟩
      split at he
      · rename_i hp
        injection he with he
        subst he
        have hb := vRefs_bd h hy
        have hr := refC_some (vRefs_pw h) hy
        refine ⟨hb.1, hb.2.1, ?_, ?_⟩ <;> (unfold rlN; simp only; rw [hr]) <;> exact hp
      · cases he
    · rintro ⟨h1, h2, h3, h4⟩
      unfold rlN at h3 h4
      have hi := inN_bd fs x.a0
      rcases refC_or l x.a0 with h0 | ⟨y, hy, e1, e2⟩
      · omega
      · refine ⟨y, hy, ?_⟩
        rw [e1, e2, if_pos (by omega), ← h4]
end Go.Proofs.Ytjjjlpnbniofjaa
